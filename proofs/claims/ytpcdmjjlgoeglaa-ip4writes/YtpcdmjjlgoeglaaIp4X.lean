/- The document's own Build of family 4. -/
import Derived.Test.YtpcdmjjlgoeglaaIp4W
import Derived.Test.YtpcdmjjlgoeglaaIp4E
import Derived.Test.YtpcdmjjlgoeglaaIp4BackWalk
import Derived.Test.YtpcdmjjlgoeglaaRByt
import Derived.Test.YtpcdmjjlgoeglaaRefSum
import Derived.Test.YtpcdmjjlgoeglaaIp4RS
import Derived.Deep.RegionHeld3
import Derived.Deep.DeepCutAuto
namespace Go.Proofs.Ytpcdmjjlgoeglaa
open Go.RowKit
set_option linter.unusedVariables false
set_option linter.unusedSimpArgs false

theorem put_keep {W : World} {g i j : Nat} {v u : Value} (h : W.cell? ⟨g, j, none⟩ = some u) (hij : i ≠ j) : (W.setCell ⟨g, i, none⟩ v).cell? ⟨g, j, none⟩ = some u := (put_oth hij).trans h
theorem sIp_over {W : World} {g : Nat} {u0 u1 u2 u3 u4 u5 u6 u7 u8 u9 u10 u11 u12 u13 u14 : Value} (s : SIp W g u0 u1 u2 u3 u4 u5 u6 u7 u8 u9 u10 u11 u12 u13 u14) (v0 v1 v2 v3 v4 v5 v6 v7 v8 v9 v10 v11 v12 v13 v14 : Value) : SIp (set15 W g v0 v1 v2 v3 v4 v5 v6 v7 v8 v9 v10 v11 v12 v13 v14) g v0 v1 v2 v3 v4 v5 v6 v7 v8 v9 v10 v11 v12 v13 v14 := by
  constructor
  · exact put_keep (put_keep (put_keep (put_keep (put_keep (put_keep (put_keep (put_keep (put_keep (put_keep (put_keep (put_keep (put_keep (put_keep (put_same (s.c0)) (by decide)) (by decide)) (by decide)) (by decide)) (by decide)) (by decide)) (by decide)) (by decide)) (by decide)) (by decide)) (by decide)) (by decide)) (by decide)) (by decide)
  · exact put_keep (put_keep (put_keep (put_keep (put_keep (put_keep (put_keep (put_keep (put_keep (put_keep (put_keep (put_keep (put_keep (put_same (put_keep (s.c1) (by decide))) (by decide)) (by decide)) (by decide)) (by decide)) (by decide)) (by decide)) (by decide)) (by decide)) (by decide)) (by decide)) (by decide)) (by decide)) (by decide)
  · exact put_keep (put_keep (put_keep (put_keep (put_keep (put_keep (put_keep (put_keep (put_keep (put_keep (put_keep (put_keep (put_same (put_keep (put_keep (s.c2) (by decide)) (by decide))) (by decide)) (by decide)) (by decide)) (by decide)) (by decide)) (by decide)) (by decide)) (by decide)) (by decide)) (by decide)) (by decide)) (by decide)
  · exact put_keep (put_keep (put_keep (put_keep (put_keep (put_keep (put_keep (put_keep (put_keep (put_keep (put_keep (put_same (put_keep (put_keep (put_keep (s.c3) (by decide)) (by decide)) (by decide))) (by decide)) (by decide)) (by decide)) (by decide)) (by decide)) (by decide)) (by decide)) (by decide)) (by decide)) (by decide)) (by decide)
  · exact put_keep (put_keep (put_keep (put_keep (put_keep (put_keep (put_keep (put_keep (put_keep (put_keep (put_same (put_keep (put_keep (put_keep (put_keep (s.c4) (by decide)) (by decide)) (by decide)) (by decide))) (by decide)) (by decide)) (by decide)) (by decide)) (by decide)) (by decide)) (by decide)) (by decide)) (by decide)) (by decide)
  · exact put_keep (put_keep (put_keep (put_keep (put_keep (put_keep (put_keep (put_keep (put_keep (put_same (put_keep (put_keep (put_keep (put_keep (put_keep (s.c5) (by decide)) (by decide)) (by decide)) (by decide)) (by decide))) (by decide)) (by decide)) (by decide)) (by decide)) (by decide)) (by decide)) (by decide)) (by decide)) (by decide)
  · exact put_keep (put_keep (put_keep (put_keep (put_keep (put_keep (put_keep (put_keep (put_same (put_keep (put_keep (put_keep (put_keep (put_keep (put_keep (s.c6) (by decide)) (by decide)) (by decide)) (by decide)) (by decide)) (by decide))) (by decide)) (by decide)) (by decide)) (by decide)) (by decide)) (by decide)) (by decide)) (by decide)
  · exact put_keep (put_keep (put_keep (put_keep (put_keep (put_keep (put_keep (put_same (put_keep (put_keep (put_keep (put_keep (put_keep (put_keep (put_keep (s.c7) (by decide)) (by decide)) (by decide)) (by decide)) (by decide)) (by decide)) (by decide))) (by decide)) (by decide)) (by decide)) (by decide)) (by decide)) (by decide)) (by decide)
  · exact put_keep (put_keep (put_keep (put_keep (put_keep (put_keep (put_same (put_keep (put_keep (put_keep (put_keep (put_keep (put_keep (put_keep (put_keep (s.c8) (by decide)) (by decide)) (by decide)) (by decide)) (by decide)) (by decide)) (by decide)) (by decide))) (by decide)) (by decide)) (by decide)) (by decide)) (by decide)) (by decide)
  · exact put_keep (put_keep (put_keep (put_keep (put_keep (put_same (put_keep (put_keep (put_keep (put_keep (put_keep (put_keep (put_keep (put_keep (put_keep (s.c9) (by decide)) (by decide)) (by decide)) (by decide)) (by decide)) (by decide)) (by decide)) (by decide)) (by decide))) (by decide)) (by decide)) (by decide)) (by decide)) (by decide)
  · exact put_keep (put_keep (put_keep (put_keep (put_same (put_keep (put_keep (put_keep (put_keep (put_keep (put_keep (put_keep (put_keep (put_keep (put_keep (s.c10) (by decide)) (by decide)) (by decide)) (by decide)) (by decide)) (by decide)) (by decide)) (by decide)) (by decide)) (by decide))) (by decide)) (by decide)) (by decide)) (by decide)
  · exact put_keep (put_keep (put_keep (put_same (put_keep (put_keep (put_keep (put_keep (put_keep (put_keep (put_keep (put_keep (put_keep (put_keep (put_keep (s.c11) (by decide)) (by decide)) (by decide)) (by decide)) (by decide)) (by decide)) (by decide)) (by decide)) (by decide)) (by decide)) (by decide))) (by decide)) (by decide)) (by decide)
  · exact put_keep (put_keep (put_same (put_keep (put_keep (put_keep (put_keep (put_keep (put_keep (put_keep (put_keep (put_keep (put_keep (put_keep (put_keep (s.c12) (by decide)) (by decide)) (by decide)) (by decide)) (by decide)) (by decide)) (by decide)) (by decide)) (by decide)) (by decide)) (by decide)) (by decide))) (by decide)) (by decide)
  · exact put_keep (put_same (put_keep (put_keep (put_keep (put_keep (put_keep (put_keep (put_keep (put_keep (put_keep (put_keep (put_keep (put_keep (put_keep (s.c13) (by decide)) (by decide)) (by decide)) (by decide)) (by decide)) (by decide)) (by decide)) (by decide)) (by decide)) (by decide)) (by decide)) (by decide)) (by decide))) (by decide)
  · exact put_same (put_keep (put_keep (put_keep (put_keep (put_keep (put_keep (put_keep (put_keep (put_keep (put_keep (put_keep (put_keep (put_keep (put_keep (s.c14) (by decide)) (by decide)) (by decide)) (by decide)) (by decide)) (by decide)) (by decide)) (by decide)) (by decide)) (by decide)) (by decide)) (by decide)) (by decide)) (by decide))
/-- append(v, x...) as one step of a region that draws. -/
theorem step_app {ops : Array Oper} {o : Oper} {ac : Act} {K : Act → World → Prop} {Q : Exit → Act → World → Prop} {Z : Prop} (w : World) (hgd : o.guard = none) (s x : Operand)
    (ho : o.op = .call { callee := .builtin .append, args := #[s, x], argTypes := #[27, 27] })
    (B : Nat) (v : Value) (xs : List Int) (hs : ac.eval s = v) (hown : Owns w B v xs)
    (a : Option Addr) (n c : Nat) (l : List Int) (hx : ac.eval x = .slice a n c) (hn : n = l.length) (hrow : Row w a l) (hnil : a = none → c = 0)
    (hsum : xs.length + l.length ≤ 140737488355328) (hbase : B ≤ w.heap.size)
    (h : ∀ v' w', Owns w' B v' (xs ++ l) → w.grownBy w' v.ownBlock → K (ac.put o.dst v') w') :
    if Region.wanted o (yielded ops ac.tmps) = true then Oper.wp Try.prog o ac w K Q else Z := by
  subst hn
  have hw : Region.wanted o (yielded ops ac.tmps) = true := by simp [Region.wanted, hgd]
  rw [if_pos hw]
  have key : ∃ v' w', (Builtin.append_ #[27, 27] o.type #[v, .slice a l.length c]).run Try.prog w = .ok v' w' ∧ Owns w' B v' (xs ++ l) ∧ w.grownBy w' v.ownBlock := by
    obtain ⟨i0, hi, hz0, hz1, hz2⟩ := info_parts info_u8
    have hrun : ∀ ad : Addr, a = some ad → ∃ v' w', (Builtin.append_ #[27, 27] o.type #[v, .slice a l.length c]).run Try.prog w = .ok v' w' ∧ Owns w' B v' (xs ++ l) ∧ w.grownBy w' v.ownBlock := by
      intro ad ha
      subst ha
      obtain ⟨v', w', h1, h2, h3, _⟩ := run_append_own (P := Try.prog) w B 27 o.type 5 i0 (.int .u8 0) 1 1 Try.underlying27 hi hz0 hz1 hz2 rfl (by decide) v xs.length (xs.map (Value.int .u8)) hown ad l.length c (l.map (Value.int .u8)) (by simp) (by
        intro j u hj
        have hjl : j < l.length := by
          have := (List.getElem?_eq_some_iff.1 hj).1
          simpa using this
        obtain ⟨b, off, hh, hc⟩ := hrow.cells (by omega)
        cases hh
        have e1 : Addr.add ⟨b, off, none⟩ j = ⟨b, off + j, none⟩ := Go.WideShapes.add_plain ..
        rw [e1, hc j hjl]
        rw [← hj]
        simp [hjl]) oneCell_u8 (by unfold maxLen; omega) (by omega) hbase
      refine ⟨v', w', h1, ?_, h3⟩
      show w'.ownsRow B 5 1 v' (xs ++ l).length ((xs ++ l).map (Value.int .u8))
      rw [List.length_append, List.map_append]
      exact h2
    cases ha : a with
    | some ad => rw [← ha]; exact hrun ad ha
    | none =>
      have hl : l = [] := by
        cases l with
        | nil => rfl
        | cons y l => obtain ⟨b, off, hh, _⟩ := hrow.cells (by simp); rw [ha] at hh; cases hh
      subst hl
      rw [hnil ha]
      refine ⟨v, w, ?_, by simpa using hown, World.grownBy.refl _ _⟩
      exact run_append_owned_none (P := Try.prog) (w := w) B 27 o.type 5 i0 1 Try.underlying27 hi v xs.length (xs.map (Value.int .u8)) hown
  obtain ⟨v', w', hr, h2, h3⟩ := key
  unfold Oper.wp execOp
  simp only [ho, resolve, invoke, builtin, Sem.run_bind, Sem.run_pure, Result.andThen_ok, List.map_toArray, List.map_cons, List.map_nil, hs, hx, hr]
  exact h v' w' h2 h3
theorem sumOf_bd (ls : List (List Int)) : 0 ≤ M.sumOf ls ∧ M.sumOf ls ≤ 65535 := by
  unfold M.sumOf
  exact M.nf_bd _

set_option maxRecDepth 100000 in
set_option maxHeartbeats 2000000 in
theorem rbuild_no (f sf sh sl df dh dl pr ho : Int) (fg : Bool) (id of : Int) (mo : Bool) (xa : Option Addr) (xn xc : Nat) (da : Option Addr) (dat : List Int) (dc : Nat) (w : World) (hdl : dat.length ≤ 140737488355328) (hof : -9223372036854775808 ≤ of ∧ of ≤ 9223372036854775807) (h1 : 0 ≤ sl) (h2 : 0 ≤ dl) (hm : Pk.may (⟨f, ⟨sf, sh, sl⟩, ⟨df, dh, dl⟩, pr, ho, fg, id, of, mo, dat⟩ : Pk) xn = false) :
    Calls Try.prog 6 #[.agg #[.int .i64 f, .int .i64 sf, .int .u64 sh, .int .u64 sl, .int .i64 df, .int .u64 dh, .int .u64 dl, .int .i64 pr, .int .i64 ho, .bool fg, .int .u32 id, .int .i64 of, .bool mo, .slice xa xn xc, .slice da dat.length dc]] w fun e w' => e = .returned (.tuple #[.slice none 0 0, .int .i64 1]) ∧ Below w.heap.size w w' := by
  obtain ⟨W0, hW0⟩ : ∃ W0, w.alloc (.cells #[.int .i64 f, .int .i64 sf, .int .u64 sh, .int .u64 sl, .int .i64 df, .int .u64 dh, .int .u64 dl, .int .i64 pr, .int .i64 ho, .bool fg, .int .u32 id, .int .i64 of, .bool mo, .slice xa xn xc, .slice da dat.length dc] 29) = W0 := ⟨_, rfl⟩
  have b0 : Below w.heap.size w W0 := by rw [← hW0]; exact (Below.refl _ _).alloc (Nat.le_refl _) _
  have s0 : SIp W0 w.heap.size (.int .i64 f) (.int .i64 sf) (.int .u64 sh) (.int .u64 sl) (.int .i64 df) (.int .u64 dh) (.int .u64 dl) (.int .i64 pr) (.int .i64 ho) (.bool fg) (.int .u32 id) (.int .i64 of) (.bool mo) (.slice xa xn xc) (.slice da dat.length dc) := by rw [← hW0]; exact sIp_new w _ _ _ _ _ _ _ _ _ _ _ _ _ _ _
  have K1 := rmay_any f sf sh sl df dh dl pr ho fg id of mo xa xn xc da dat dc W0 hdl hof h1 h2
  rw [hm] at K1
  have HK1 : Hid _ := K1
  clear K1
  obtain ⟨d0, d1, d2, d3, d4, d5, d6, d7, d8, d9, d10, d11, d12, d13, d14⟩ := s0
  go_enter Try.func6, Try.ntmps6
  go_wp2_with fail
  refine Calls.mono HK1.out ?_
  rintro e W1 ⟨rfl, b1⟩
  have bb := b0.trans (b1.mono b0.size)
  clear HK1 d0 d1 d2 d3 d4 d5 d6 d7 d8 d9 d10 d11 d12 d13 d14
  go_wp2
  exact bodyPost_ret (v := .tuple #[.slice none 0 0, .int .i64 1]) (by simp [results, Try.results6, go_sem]) rfl ⟨rfl, bb⟩

set_option maxRecDepth 100000 in
set_option maxHeartbeats 16000000 in
theorem rbuild_yes (f sf sh sl df dh dl pr ho : Int) (fg : Bool) (id of : Int) (mo : Bool) (xa : Option Addr) (xc : Nat) (da : Option Addr) (dat : List Int) (dc : Nat) (w : World) (hdr : Row w da dat) (hdn : da = none → dc = 0) (hok : Pk.ok (⟨f, ⟨sf, sh, sl⟩, ⟨df, dh, dl⟩, pr, ho, fg, id, of, mo, dat⟩ : Pk)) (hm : May (⟨f, ⟨sf, sh, sl⟩, ⟨df, dh, dl⟩, pr, ho, fg, id, of, mo, dat⟩ : Pk)) :
    Calls Try.prog 6 #[.agg #[.int .i64 f, .int .i64 sf, .int .u64 sh, .int .u64 sl, .int .i64 df, .int .u64 dh, .int .u64 dl, .int .i64 pr, .int .i64 ho, .bool fg, .int .u32 id, .int .i64 of, .bool mo, .slice xa 0 xc, .slice da dat.length dc]] w fun e w' => ∃ a' c', e = .returned (.tuple #[.slice a' (Pk.made (Pk.bare (⟨f, ⟨sf, sh, sl⟩, ⟨df, dh, dl⟩, pr, ho, fg, id, of, mo, dat⟩ : Pk))).length c', .int .i64 0]) ∧ Fresh w w' a' c' (Pk.made (Pk.bare (⟨f, ⟨sf, sh, sl⟩, ⟨df, dh, dl⟩, pr, ho, fg, id, of, mo, dat⟩ : Pk))) := by
  have hmay : Pk.may (⟨f, ⟨sf, sh, sl⟩, ⟨df, dh, dl⟩, pr, ho, fg, id, of, mo, dat⟩ : Pk) 0 = true := may_iff.2 ⟨hm, rfl⟩
  have hdl := hdr.small
  have K1 := fun W => rmay_any f sf sh sl df dh dl pr ho fg id of mo xa 0 xc da dat dc W hdl hok.off hok.src.2.2.1 hok.dst.2.2.1
  rw [hmay] at K1
  have HK1 : Hid _ := K1
  -- the packet without what is not written
  obtain ⟨ID, OF, MO, hbare⟩ : ∃ ID OF MO, Pk.bare (⟨f, ⟨sf, sh, sl⟩, ⟨df, dh, dl⟩, pr, ho, fg, id, of, mo, dat⟩ : Pk) = ⟨f, ⟨sf, sh, sl⟩, ⟨df, dh, dl⟩, pr, ho, fg, ID, OF, MO, dat⟩ := by
    unfold Pk.bare
    cases fg
    · exact ⟨0, 0, false, rfl⟩
    · exact ⟨id, of, mo, rfl⟩
  have hbf : (fg = true → ID = id ∧ OF = of ∧ MO = mo) ∧ (fg = false → ID = 0 ∧ OF = 0 ∧ MO = false) := by
    unfold Pk.bare at hbare
    cases fg
    · simp only [Bool.false_eq_true, if_false, Pk.mk.injEq, true_and, and_true] at hbare
      exact ⟨fun h => (by cases h), fun _ => ⟨hbare.1.symm, hbare.2.1.symm, hbare.2.2.symm⟩⟩
    · simp only [if_true, Pk.mk.injEq, true_and, and_true] at hbare
      exact ⟨fun _ => ⟨hbare.1.symm, hbare.2.1.symm, hbare.2.2.symm⟩, fun h => (by cases h)⟩
  have mb := hm.bare
  have okb := ok_bare hok
  rw [hbare] at mb okb ⊢
  obtain ⟨PL, hPL⟩ : ∃ PL, OF / 8 + (if MO then 8192 else 0) = PL := ⟨_, rfl⟩
  obtain ⟨SB, hSB⟩ : ∃ SB, Ad.bytes ⟨sf, sh, sl⟩ = SB := ⟨_, rfl⟩
  obtain ⟨DB, hDB⟩ : ∃ DB, Ad.bytes ⟨df, dh, dl⟩ = DB := ⟨_, rfl⟩
  have lSB : SB.length = 4 := by rw [← hSB]; exact bytes4_len mb.sf mb.sr
  have lDB : DB.length = 4 := by rw [← hDB]; exact bytes4_len mb.df mb.dr
  have KB1 : Hid (∀ W, Calls Try.prog 21 #[.agg #[.int .i64 sf, .int .u64 sh, .int .u64 sl]] W fun e w' => ∃ a c, e = .returned (.slice a SB.length c) ∧ Fresh W w' a c SB) := by
    intro W
    have := rbytes_right sf sh sl W okb.src mb.sr
    rw [hSB] at this
    exact this
  have KB2 : Hid (∀ W, Calls Try.prog 21 #[.agg #[.int .i64 df, .int .u64 dh, .int .u64 dl]] W fun e w' => ∃ a c, e = .returned (.slice a DB.length c) ∧ Fresh W w' a c DB) := by
    intro W
    have := rbytes_right df dh dl W okb.dst mb.dr
    rw [hDB] at this
    exact this
  have HBR : Hid _ := fun W => bare_any f sf sh sl df dh dl pr ho fg id of mo ID OF MO xa xc da dat dc W hbare
  have HIO : Hid (0 ≤ ID ∧ ID ≤ 65535 ∧ 0 ≤ OF ∧ OF ≤ 65515) := by
    have h1 := mb.over
    have h2 := mb.off0
    have h3 := mb.id
    have h4 := okb.id
    simp only at h1 h2 h3 h4
    exact ⟨h4.1, h3, h2, by omega⟩
  have hlen : (dat.length : Int) ≤ 65515 := by have h1 := mb.over; have h2 := mb.off0; simp only at h1 h2; omega
  obtain ⟨CK, hCK⟩ : ∃ CK, 65535 - M.sumOf [put16 (put16 (put16 [69, 0] (20 + (dat.length : Int))) ID) PL ++ [ho, pr], SB, DB] = CK := ⟨_, rfl⟩
  have HM : Hid (Pk.made ⟨f, ⟨sf, sh, sl⟩, ⟨df, dh, dl⟩, pr, ho, fg, ID, OF, MO, dat⟩ = [put16 (put16 (put16 (put16 [69, 0] (20 + (dat.length : Int))) ID) PL ++ [ho, pr]) CK, SB, DB, dat].flatten) := by
    show _ = _
    unfold Pk.made Pk.hdr Pk.chk Pk.front Pk.place
    simp only [hSB, hDB, hPL]
    rw [← hCK]
    simp only [put16, List.flatten_cons, List.flatten_nil, List.append_nil, List.append_assoc]
  have hho := mb.hop
  have hpr := mb.proto
  simp only at hho hpr
  have PB : Hid ((fg = true → ID = id ∧ OF = of ∧ MO = mo) ∧ (fg = false → ID = 0 ∧ OF = 0 ∧ MO = false)) := hbf
  have HPL : Hid (OF / 8 + (if MO then 8192 else 0) = PL) := hPL
  have HCK : Hid (65535 - M.sumOf [put16 (put16 (put16 [69, 0] (20 + (dat.length : Int))) ID) PL ++ [ho, pr], SB, DB] = CK) := hCK
  have HOK : Hid (0 ≤ id ∧ 0 ≤ of ∧ of ≤ 65515 ∧ id ≤ 65535) := ⟨hok.id.1, hm.off0, by have h1 := hm.over; simp only at h1; omega, hm.id⟩
  have HBD : Hid (M.Bytes SB ∧ M.Bytes DB) := by
    show _ ∧ _
    rw [← hSB, ← hDB]
    exact ⟨bytes_bytes _, bytes_bytes _⟩
  clear K1 hmay hbf mb okb hbare hPL hSB hDB hCK hok hm
  obtain ⟨W0, hW0⟩ : ∃ W0, w.alloc (.cells #[.int .i64 f, .int .i64 sf, .int .u64 sh, .int .u64 sl, .int .i64 df, .int .u64 dh, .int .u64 dl, .int .i64 pr, .int .i64 ho, .bool fg, .int .u32 id, .int .i64 of, .bool mo, .slice xa 0 xc, .slice da dat.length dc] 29) = W0 := ⟨_, rfl⟩
  have b0 : Below w.heap.size w W0 := by rw [← hW0]; exact (Below.refl _ _).alloc (Nat.le_refl _) _
  have z0 : w.heap.size < W0.heap.size := by rw [← hW0]; simp
  have s0 : SIp W0 w.heap.size (.int .i64 f) (.int .i64 sf) (.int .u64 sh) (.int .u64 sl) (.int .i64 df) (.int .u64 dh) (.int .u64 dl) (.int .i64 pr) (.int .i64 ho) (.bool fg) (.int .u32 id) (.int .i64 of) (.bool mo) (.slice xa 0 xc) (.slice da dat.length dc) := by rw [← hW0]; exact sIp_new w _ _ _ _ _ _ _ _ _ _ _ _ _ _ _
  have fz0 : ∀ o, W0.frozen? ⟨w.heap.size, o, none⟩ = false := fun o => by rw [← hW0]; simp
  have S0 : Hid _ := s0
  obtain ⟨d0, d1, d2, d3, d4, d5, d6, d7, d8, d9, d10, d11, d12, d13, d14⟩ := s0
  go_enter Try.func6, Try.ntmps6
  go_wp2_with fail
  refine (HK1.out _).mono ?_
  rintro e W1 ⟨rfl, b1⟩
  have B1 : Below w.heap.size w W1 := b0.trans (b1.mono b0.size)
  have S1 : Hid _ := S0.out.below z0 b1
  have z1 : w.heap.size < W1.heap.size := Nat.lt_of_lt_of_le z0 b1.size
  have fz1 : ∀ o, W1.frozen? ⟨w.heap.size, o, none⟩ = false := fun o => (b1.frozen (p := ⟨w.heap.size, o, none⟩) z0).trans (fz0 o)
  clear d0 d1 d2 d3 d4 d5 d6 d7 d8 d9 d10 d11 d12 d13 d14 b1 S0 hW0 fz0 b0 HK1
  have s1 := S1.out
  obtain ⟨d0, d1, d2, d3, d4, d5, d6, d7, d8, d9, d10, d11, d12, d13, d14⟩ := s1
  go_wp2_with fail
  refine (HBR.out _).mono ?_
  rintro e W2 ⟨rfl, b2⟩
  have B2 : Below w.heap.size w W2 := B1.trans (b2.mono B1.size)
  have S2 := S1.out.below z1 b2
  have z2 : w.heap.size < W2.heap.size := Nat.lt_of_lt_of_le z1 b2.size
  have fz2 : ∀ o, W2.frozen? ⟨w.heap.size, o, none⟩ = false := fun o => (b2.frozen (p := ⟨w.heap.size, o, none⟩) z1).trans (fz1 o)
  clear d0 d1 d2 d3 d4 d5 d6 d7 d8 d9 d10 d11 d12 d13 d14 b2 S1 fz1 B1 HBR
  have S3 := sIp_over S2 (.int .i64 f) (.int .i64 sf) (.int .u64 sh) (.int .u64 sl) (.int .i64 df) (.int .u64 dh) (.int .u64 dl) (.int .i64 pr) (.int .i64 ho) (.bool fg) (.int .u32 ID) (.int .i64 OF) (.bool MO) (.slice xa 0 xc) (.slice da dat.length dc)
  have B3 := set15_below B2 (Nat.le_refl _) (.int .i64 f) (.int .i64 sf) (.int .u64 sh) (.int .u64 sl) (.int .i64 df) (.int .u64 dh) (.int .u64 dl) (.int .i64 pr) (.int .i64 ho) (.bool fg) (.int .u32 ID) (.int .i64 OF) (.bool MO) (.slice xa 0 xc) (.slice da dat.length dc)
  obtain ⟨d0, d1, d2, d3, d4, d5, d6, d7, d8, d9, d10, d11, d12, d13, d14⟩ := S2
  obtain ⟨W3, hW3⟩ : ∃ W3, (((((((((((((((W2).setCell ⟨w.heap.size, 0, none⟩ (.int .i64 f)).setCell ⟨w.heap.size, 1, none⟩ (.int .i64 sf)).setCell ⟨w.heap.size, 2, none⟩ (.int .u64 sh)).setCell ⟨w.heap.size, 3, none⟩ (.int .u64 sl)).setCell ⟨w.heap.size, 4, none⟩ (.int .i64 df)).setCell ⟨w.heap.size, 5, none⟩ (.int .u64 dh)).setCell ⟨w.heap.size, 6, none⟩ (.int .u64 dl)).setCell ⟨w.heap.size, 7, none⟩ (.int .i64 pr)).setCell ⟨w.heap.size, 8, none⟩ (.int .i64 ho)).setCell ⟨w.heap.size, 9, none⟩ (.bool fg)).setCell ⟨w.heap.size, 10, none⟩ (.int .u32 ID)).setCell ⟨w.heap.size, 11, none⟩ (.int .i64 OF)).setCell ⟨w.heap.size, 12, none⟩ (.bool MO)).setCell ⟨w.heap.size, 13, none⟩ (.slice xa 0 xc)).setCell ⟨w.heap.size, 14, none⟩ (.slice da dat.length dc) = W3 := ⟨_, rfl⟩
  have S3' : SIp W3 w.heap.size (.int .i64 f) (.int .i64 sf) (.int .u64 sh) (.int .u64 sl) (.int .i64 df) (.int .u64 dh) (.int .u64 dl) (.int .i64 pr) (.int .i64 ho) (.bool fg) (.int .u32 ID) (.int .i64 OF) (.bool MO) (.slice xa 0 xc) (.slice da dat.length dc) := by rw [← hW3]; exact S3
  have B3' : Below w.heap.size w W3 := by rw [← hW3]; exact B3
  have z3 : w.heap.size < W3.heap.size := by rw [← hW3]; simp only [size_setCell]; exact z2
  have HS3 : Hid _ := S3'
  have R3 : Hid (Row W3 da dat) := hdr.below B3'
  clear S3 B3 S3' hdr
  have m11 := HS3.out.c11
  have m12 := HS3.out.c12
  obtain ⟨K, hK⟩ : ∃ K, OF / 8 = K := ⟨_, rfl⟩
  have hq : OF.tdiv 8 = K := by rw [Int.tdiv_eq_ediv_of_nonneg HIO.out.2.2.1, hK]
  have hK0 : 0 ≤ K ∧ K < 8192 := by have := HIO.out; omega
  have hor := or8192 K hK0.1 hK0.2
  have e4 : Hid (K + (if MO then 8192 else 0) = PL) := by show _ = _; rw [← HPL.out, hK]
  clear hK
  go_upto_if 16 with (fail)
  go_cut [4] (fun p w' => p = .int .i64 PL ∧ w' = W3)
  case first =>
    cases MO
    case false =>
      have e6 : Hid (K = PL) := by show _ = _; rw [← e4.out]; simp
      go_wp2
      go_meet
      exact ⟨int_eq e6.out, rfl⟩
    case true =>
      have e6 : Hid (K + 8192 = PL) := by show _ = _; rw [← e4.out]; simp
      go_wp2
      go_meet
      exact ⟨int_eq e6.out, rfl⟩
  case rest =>
    obtain ⟨rfl, hwc⟩ := hcut
    have s3q : SIp wc w.heap.size (.int .i64 f) (.int .i64 sf) (.int .u64 sh) (.int .u64 sl) (.int .i64 df) (.int .u64 dh) (.int .u64 dl) (.int .i64 pr) (.int .i64 ho) (.bool fg) (.int .u32 ID) (.int .i64 OF) (.bool MO) (.slice xa 0 xc) (.slice da dat.length dc) := by rw [hwc]; exact HS3.out
    have r3q : Row wc da dat := by rw [hwc]; exact R3.out
    have b3q : Below w.heap.size w wc := by rw [hwc]; exact B3'
    have z3q : w.heap.size + 1 ≤ wc.heap.size := by rw [hwc]; exact z3
    clear R3 B3' z3
    have S3 : Hid _ := s3q
    have R3 : Hid (Row wc da dat) := r3q
    have B3' : Hid (Below w.heap.size w wc) := b3q
    have z3 := z3q
    clear s3q r3q b3q z3q
    have hID0 : 0 ≤ ID := HIO.out.1
    have hID1 : ID ≤ 65535 := HIO.out.2.1
    clear hwc hW3 d0 d1 d2 d3 d4 d5 d6 d7 d8 d9 d10 d11 d12 d13 d14 m11 m12 fz2 B2 z2 HS3 hq hK0 hor e4 HPL
    have eho : ho % 256 = ho := by omega
    have epr : pr % 256 = pr := by omega
    obtain ⟨n, hn⟩ : ∃ n : Nat, dat.length = n := ⟨_, rfl⟩
    obtain ⟨L1, hL1⟩ : ∃ L, put16 [69, 0] (20 + (dat.length : Int)) = L := ⟨_, rfl⟩
    obtain ⟨L2, hL2⟩ : ∃ L, put16 L1 ID = L := ⟨_, rfl⟩
    obtain ⟨L3, hL3⟩ : ∃ L, put16 L2 PL = L := ⟨_, rfl⟩
    obtain ⟨L4, hL4⟩ : ∃ L, L3 ++ [ho, pr] = L := ⟨_, rfl⟩
    obtain ⟨L5, hL5⟩ : ∃ L, put16 L4 CK = L := ⟨_, rfl⟩
    have HM2 := HM.out
    have HC2 := HCK.out
    rw [hL1, hL2, hL3, hL4, hL5] at HM2
    rw [hL1, hL2, hL3, hL4] at HC2
    have l1 : L1.length = 4 := by rw [← hL1, put16_length]; rfl
    have l2 : L2.length = 6 := by rw [← hL2, put16_length, l1]
    have l3 : L3.length = 8 := by rw [← hL3, put16_length, l2]
    have l4 : L4.length = 10 := by rw [← hL4, List.length_append, l3]; rfl
    have l5 : L5.length = 12 := by rw [← hL5, put16_length, l4]
    have HL4 : Hid (L3 ++ [ho, pr] = L4) := hL4
    have LL : Hid (L1.length = 4 ∧ L2.length = 6 ∧ L3.length = 8 ∧ L4.length = 10 ∧ L5.length = 12 ∧ SB.length = 4 ∧ DB.length = 4) := ⟨l1, l2, l3, l4, l5, lSB, lDB⟩
    have rA : Row (wc.alloc (.cells #[.int .u8 69, .int .u8 0] 5)) (some ⟨wc.heap.size, 0, none⟩) [69, 0] := row_at wc 5 [69, 0] wc.heap.size rfl (by simp) (M.Bytes.of rfl)
    have KP1 : Hid (Calls Try.prog 20 #[.slice (some ⟨wc.heap.size, 0, none⟩) 2 2, .int .i64 (20 + (dat.length : Int))] (wc.alloc (.cells #[.int .u8 69, .int .u8 0] 5)) fun e w' => ∃ a' c', e = .returned (.slice a' L1.length c') ∧ Fresh (wc.alloc (.cells #[.int .u8 69, .int .u8 0] 5)) w' a' c' L1) := by
      have := rput16_any _ 2 [69, 0] (20 + (dat.length : Int)) _ rA (fun h => by cases h) (by simp)
      rw [hL1] at this
      exact this
    have KP2 : Hid (∀ (a' : Option Addr) (c' : Nat) (W : World), Row W a' L1 → (a' = none → c' = 0) → Calls Try.prog 20 #[.slice a' L1.length c', .int .i64 ID] W fun e w' => ∃ a c, e = .returned (.slice a L2.length c) ∧ Fresh W w' a c L2) := by
      intro a' c' W h1 h2
      have := rput16_any a' c' L1 ID W h1 h2 (by omega)
      rw [hL2] at this
      exact this
    have KP3 : Hid (∀ (a' : Option Addr) (c' : Nat) (W : World), Row W a' L2 → (a' = none → c' = 0) → Calls Try.prog 20 #[.slice a' L2.length c', .int .i64 PL] W fun e w' => ∃ a c, e = .returned (.slice a L3.length c) ∧ Fresh W w' a c L3) := by
      intro a' c' W h1 h2
      have := rput16_any a' c' L2 PL W h1 h2 (by omega)
      rw [hL3] at this
      exact this
    have KP5 : Hid (∀ (a' : Option Addr) (c' : Nat) (W : World), Row W a' L4 → (a' = none → c' = 0) → Calls Try.prog 20 #[.slice a' L4.length c', .int .i64 CK] W fun e w' => ∃ a c, e = .returned (.slice a L5.length c) ∧ Fresh W w' a c L5) := by
      intro a' c' W h1 h2
      have := rput16_any a' c' L4 CK W h1 h2 (by omega)
      rw [hL5] at this
      exact this
    have HCC : Hid (65535 - M.sumOf [L4, SB, DB] = CK) := HC2
    have HMM : Hid (Pk.made ⟨f, ⟨sf, sh, sl⟩, ⟨df, dh, dl⟩, pr, ho, fg, ID, OF, MO, dat⟩ = [L5, SB, DB, dat].flatten) := HM2
    clear HM2 HC2 HM HCK hL1 hL2 hL3 hL4 hL5 hn n l1 l2 l3 l4 l5 lSB lDB rA
    -- step by step: behind wc memory only grows
    have st : ∀ W, Below wc.heap.size wc W → SIp W w.heap.size (.int .i64 f) (.int .i64 sf) (.int .u64 sh) (.int .u64 sl) (.int .i64 df) (.int .u64 dh) (.int .u64 dl) (.int .i64 pr) (.int .i64 ho) (.bool fg) (.int .u32 ID) (.int .i64 OF) (.bool MO) (.slice xa 0 xc) (.slice da dat.length dc) := fun W hb => S3.out.below (by omega) hb
    have ST : Hid _ := st
    clear st
    obtain ⟨d0, d1, d2, d3, d4, d5, d6, d7, d8, d9, d10, d11, d12, d13, d14⟩ := ST.out (wc.alloc (.cells #[.int .u8 69, .int .u8 0] 5)) ((Below.refl _ _).alloc (Nat.le_refl _) _)
    go_wp2_with fail
    refine KP1.out.mono ?_
    rintro e W4 ⟨a4, c4, rfl, f4⟩
    have B4 : Below wc.heap.size wc W4 := ((Below.refl _ _).alloc (Nat.le_refl _) _).trans (f4.below.mono (by simp))
    have q4 : Hid (Row W4 a4 L1 ∧ (a4 = none → c4 = 0)) := ⟨f4.row, f4.nil⟩
    have BB4 : Hid (Below wc.heap.size wc W4) := B4
    clear f4 B4 d0 d1 d2 d3 d4 d5 d6 d7 d8 d9 d10 d11 d12 d13 d14
    obtain ⟨d0, d1, d2, d3, d4, d5, d6, d7, d8, d9, d10, d11, d12, d13, d14⟩ := ST.out W4 BB4.out
    go_wp2_with fail
    refine (KP2.out a4 c4 W4 q4.out.1 q4.out.2).mono ?_
    rintro e W5 ⟨a5, c5, rfl, f5⟩
    have BB5 : Hid (Below wc.heap.size wc W5) := BB4.out.trans (f5.below.mono BB4.out.size)
    have q5 : Hid (Row W5 a5 L2 ∧ (a5 = none → c5 = 0)) := ⟨f5.row, f5.nil⟩
    clear f5 d0 d1 d2 d3 d4 d5 d6 d7 d8 d9 d10 d11 d12 d13 d14
    obtain ⟨d0, d1, d2, d3, d4, d5, d6, d7, d8, d9, d10, d11, d12, d13, d14⟩ := ST.out W5 BB5.out
    go_wp2_with fail
    refine (KP3.out a5 c5 W5 q5.out.1 q5.out.2).mono ?_
    rintro e W6 ⟨a6, c6, rfl, f6⟩
    have BB6 : Hid (Below wc.heap.size wc W6) := BB5.out.trans (f6.below.mono BB5.out.size)
    have own : Hid (Owns W6 wc.heap.size (.slice a6 L3.length c6) L3 ∧ M.Bytes L3) := ⟨owns_le BB5.out.size f6.owns, f6.row.bytes⟩
    have z6 : wc.heap.size ≤ W6.heap.size := BB6.out.size
    clear f6 d0 d1 d2 d3 d4 d5 d6 d7 d8 d9 d10 d11 d12 d13 d14
    obtain ⟨d0, d1, d2, d3, d4, d5, d6, d7, d8, d9, d10, d11, d12, d13, d14⟩ := ST.out W6 BB6.out
    have OW := own.out.1
    have hb3 := own.out.2
    have hr : Hid (L4.length ≤ 10) := by show _ ≤ _; have := LL.out; omega
    go_wp2_with (at_builtin; refine wpList_app2 _ rfl _ _ rfl wc.heap.size _ L3 rfl (OW.alloc _) hb3 _ 2 [ho, pr] rfl ?row (fun hh => by cases hh) L4 HL4.out ?c1 ?c2 ?_)
    case row =>
      refine row_at _ 5 [ho, pr] _ (by simp) (by simp) ?_
      intro z hz
      simp at hz
      omega
    case c1 => have := hr.out; omega
    case c2 => simp; omega
    intro a7 c7 W7 o7 hc7 hn7 r7 b7 _
    have BB7 : Hid (Below wc.heap.size wc W7) := (BB6.out.alloc z6 _).trans b7
    have R7 : Hid (Row W7 a7 L4 ∧ (a7 = none → c7 = 0) ∧ Row W7 da dat) := ⟨r7, hn7, R3.out.below BB7.out⟩
    clear d0 d1 d2 d3 d4 d5 d6 d7 d8 d9 d10 d11 d12 d13 d14 o7 hc7 hn7 r7 b7 OW hb3 own
    have kB : ∀ (x : Ad) (B : List Int) (W : World), (∀ W, Calls Try.prog 21 #[.agg #[.int .i64 x.fam, .int .u64 x.hi, .int .u64 x.lo]] W fun e w' => ∃ a c, e = .returned (.slice a B.length c) ∧ Fresh W w' a c B) → Below W7.heap.size W7 W →
        Calls Try.prog 21 #[.agg #[.int .i64 x.fam, .int .u64 x.hi, .int .u64 x.lo]] W fun e w' => ∃ a c, e = .returned (.slice a B.length c) ∧ (w'.cell? ⟨w.heap.size, 1, none⟩ = some (.int .i64 sf) ∧ w'.cell? ⟨w.heap.size, 2, none⟩ = some (.int .u64 sh) ∧ w'.cell? ⟨w.heap.size, 3, none⟩ = some (.int .u64 sl) ∧ w'.cell? ⟨w.heap.size, 4, none⟩ = some (.int .i64 df) ∧ w'.cell? ⟨w.heap.size, 5, none⟩ = some (.int .u64 dh) ∧ w'.cell? ⟨w.heap.size, 6, none⟩ = some (.int .u64 dl)) ∧ Fresh W w' a c B ∧ Below W7.heap.size W7 w' := by
      intro x B W hK hW
      refine (hK W).mono ?_
      rintro e w' ⟨a, c, rfl, fr⟩
      have hb : Below W7.heap.size W7 w' := hW.trans (fr.below.mono hW.size)
      obtain ⟨d0, d1, d2, d3, d4, d5, d6, d7, d8, d9, d10, d11, d12, d13, d14⟩ := ST.out w' (BB7.out.trans (hb.mono BB7.out.size))
      exact ⟨a, c, rfl, ⟨d1, d2, d3, d4, d5, d6⟩, fr, hb⟩
    have K8 : Hid (∀ W, Below W7.heap.size W7 W → Calls Try.prog 21 #[.agg #[.int .i64 sf, .int .u64 sh, .int .u64 sl]] W fun e w' => ∃ a c, e = .returned (.slice a SB.length c) ∧ (w'.cell? ⟨w.heap.size, 1, none⟩ = some (.int .i64 sf) ∧ w'.cell? ⟨w.heap.size, 2, none⟩ = some (.int .u64 sh) ∧ w'.cell? ⟨w.heap.size, 3, none⟩ = some (.int .u64 sl) ∧ w'.cell? ⟨w.heap.size, 4, none⟩ = some (.int .i64 df) ∧ w'.cell? ⟨w.heap.size, 5, none⟩ = some (.int .u64 dh) ∧ w'.cell? ⟨w.heap.size, 6, none⟩ = some (.int .u64 dl)) ∧ Fresh W w' a c SB ∧ Below W7.heap.size W7 w') := fun W hW => kB ⟨sf, sh, sl⟩ SB W KB1.out hW
    have K9 : Hid (∀ W, Below W7.heap.size W7 W → Calls Try.prog 21 #[.agg #[.int .i64 df, .int .u64 dh, .int .u64 dl]] W fun e w' => ∃ a c, e = .returned (.slice a DB.length c) ∧ (w'.cell? ⟨w.heap.size, 1, none⟩ = some (.int .i64 sf) ∧ w'.cell? ⟨w.heap.size, 2, none⟩ = some (.int .u64 sh) ∧ w'.cell? ⟨w.heap.size, 3, none⟩ = some (.int .u64 sl) ∧ w'.cell? ⟨w.heap.size, 4, none⟩ = some (.int .i64 df) ∧ w'.cell? ⟨w.heap.size, 5, none⟩ = some (.int .u64 dh) ∧ w'.cell? ⟨w.heap.size, 6, none⟩ = some (.int .u64 dl)) ∧ Fresh W w' a c DB ∧ Below W7.heap.size W7 w') := fun W hW => kB ⟨df, dh, dl⟩ DB W KB2.out hW
    clear kB KB1 KB2
    obtain ⟨d0, d1, d2, d3, d4, d5, d6, d7, d8, d9, d10, d11, d12, d13, d14⟩ := ST.out W7 BB7.out
    clear d0 d7 d8 d9 d10 d11 d12 d13 d14
    go_wp2
    go_region_held3 (fun w'' => w''.cell? ⟨w.heap.size, 1, none⟩ = some (.int .i64 sf) ∧ w''.cell? ⟨w.heap.size, 2, none⟩ = some (.int .u64 sh) ∧ w''.cell? ⟨w.heap.size, 3, none⟩ = some (.int .u64 sl) ∧ w''.cell? ⟨w.heap.size, 4, none⟩ = some (.int .i64 df) ∧ w''.cell? ⟨w.heap.size, 5, none⟩ = some (.int .u64 dh) ∧ w''.cell? ⟨w.heap.size, 6, none⟩ = some (.int .u64 dl)) (go_keep) (first
      | (go_at_call 21; (with_reducible show Calls _ _ _ (World.drew _) _); refine (K8.out _ (Below.refl _ _).drew).mono ?_; rintro e W8 ⟨a8, c8, rfl, ⟨q1, q2, q3, q4, q5, q6⟩, f8, b8⟩)
      | (go_at_call 21; refine (K9.out _ b8).mono ?_; rintro e W9 ⟨a9, c9, rfl, ⟨r1, r2, r3, r4, r5, r6⟩, f9, b9⟩)
      | (refine step_app _ rfl (.tmp 45) (.tmp 48) rfl W7.heap.size (.slice a8 SB.length c8) SB (by simp [Act.eval, Act.put]) (f8.owns.below f9.below) a9 DB.length c9 DB (by simp [Act.eval, Act.put]) rfl f9.row f9.nil (by have := LL.out; omega) b9.size ?_; intro v10 W10 o10 g10; obtain ⟨a10, c10, rfl, h10, n10, _⟩ := o10.form; have bw := (b9.trans ((Below.refl W7.heap.size W9).grown g10 b9.size (fun k hk => (World.ownsRow.lt (f8.owns.below f9.below) k hk).1))); obtain ⟨x0, x1, x2, x3, x4, x5, x6, x7, x8, x9, x10, x11, x12, x13, x14⟩ := ST.out W10 (BB7.out.trans (bw.mono BB7.out.size))))
    obtain ⟨RD, hRD⟩ : ∃ RD, SB ++ DB = RD := ⟨_, rfl⟩
    rw [hRD] at o10 h10
    have lRD : RD.length = 8 := by rw [← hRD, List.length_append]; have := LL.out; omega
    have bRD : M.Bytes RD := by rw [← hRD]; exact HBD.out.1.app HBD.out.2
    have r10 := o10.row (by omega) bRD
    have B10 : Below wc.heap.size wc W10 := BB7.out.trans (bw.mono BB7.out.size)
    have P10 : Hid (Row W10 a7 L4 ∧ Row W10 a10 RD ∧ Row W10 da dat ∧ (a7 = none → c7 = 0) ∧ (a10 = none → c10 = 0)) := ⟨R7.out.1.below bw, r10, R3.out.below B10, R7.out.2.1, n10⟩
    have BB10 : Hid (Below wc.heap.size wc W10) := B10
    obtain ⟨S, hS⟩ : ∃ S, M.sumOf [L4, RD] = S := ⟨_, rfl⟩
    have eS : M.sumOf [L4, RD] = M.sumOf [L4, SB, DB] := by
      have := M.cut_parts L4 RD 4
      rw [← hRD] at this ⊢
      rw [← this]
      have h4 : SB.length = 4 := LL.out.2.2.2.2.2.1
      rw [List.take_left' h4, List.drop_left' h4]
    have HCS : Hid (65535 - S = CK) := by show _ = _; rw [← hS, eS]; exact HCC.out
    have S0 : 0 ≤ S ∧ S ≤ 65535 := by rw [← hS]; exact sumOf_bd _
    have KC : Hid (Calls Try.prog 22 #[.slice (some ⟨W10.heap.size, 0, none⟩) 2 2] (W10.alloc (.cells #[.slice a7 L4.length c7, .slice a10 RD.length c10] 27)) fun e w' => e = .returned (.int .i64 S) ∧ w' = W10.alloc (.cells #[.slice a7 L4.length c7, .slice a10 RD.length c10] 27)) := by
      have := refsum_any _ 2 [L4, RD] _ (rowss_two W10 27 W10.heap.size rfl a7 a10 c7 c10 L4 RD P10.out.1 P10.out.2.1)
      rw [hS] at this
      exact this
    have KP6 : Hid (∀ (a' : Option Addr) (c' : Nat) (W : World), Row W a' L4 → (a' = none → c' = 0) → Calls Try.prog 20 #[.slice a' L4.length c', .int .i64 (65535 - S)] W fun e w' => ∃ a c, e = .returned (.slice a L5.length c) ∧ Fresh W w' a c L5) := by
      intro a' c' W h1 h2
      rw [HCS.out]
      exact KP5.out a' c' W h1 h2
    obtain ⟨L6, hL6⟩ : ∃ L, L5 ++ RD = L := ⟨_, rfl⟩
    obtain ⟨L7, hL7⟩ : ∃ L, L6 ++ dat = L := ⟨_, rfl⟩
    have HL67 : Hid (L5 ++ RD = L6 ∧ L6 ++ dat = L7) := ⟨hL6, hL7⟩
    have l6 : Hid (L6.length = 20 ∧ L7.length = 20 + dat.length) := by
      have h := LL.out
      refine ⟨?_, ?_⟩
      · rw [← hL6, List.length_append]; omega
      · rw [← hL7, List.length_append, ← hL6, List.length_append]; omega
    have HM7 : Hid (Pk.made ⟨f, ⟨sf, sh, sl⟩, ⟨df, dh, dl⟩, pr, ho, fg, ID, OF, MO, dat⟩ = L7) := by
      show _ = _
      rw [HMM.out, ← hL7, ← hL6, ← hRD]
      simp only [List.flatten_cons, List.flatten_nil, List.append_nil, List.append_assoc]
    have HRB : Hid (M.Bytes RD ∧ RD.length = 8) := ⟨bRD, lRD⟩
    have hsl : SB.length + DB.length = RD.length := by rw [← hRD, List.length_append]
    have HSL : Hid _ := hsl
    clear hsl
    clear hS eS hRD o10 h10 r10 B10 bw f8 f9 b8 b9 g10 n10 hL6 hL7 HMM KP5 HCC HCS bRD lRD q1 q2 q3 q4 q5 q6 r1 r2 r3 r4 r5 r6 x0 x1 x2 x3 x4 x5 x6 x7 x8 x9 x10 x11 x12 x13 x14 d1 d2 d3 d4 d5 d6 K8 K9 KP1 KP2 KP3
    go_wp2_with fail
    rw [HSL.out]
    refine KC.out.mono ?_
    rintro e W10' ⟨rfl, h10'⟩
    rw [h10']
    clear h10' W10' KC
    go_wp2_with fail
    refine (KP6.out a7 c7 _ (P10.out.1.alloc _) P10.out.2.2.2.1).mono ?_
    rintro e W11 ⟨a11, c11, rfl, f11⟩
    have b11 : Below W10.heap.size W10 W11 := ((Below.refl _ _).alloc (Nat.le_refl _) _).trans (f11.below.mono (by simp))
    have BB11 : Hid (Below wc.heap.size wc W11) := BB10.out.trans (b11.mono BB10.out.size)
    have OW := owns_le (show wc.heap.size ≤ (W10.alloc _).heap.size by rw [World.size_alloc]; have := BB10.out.size; omega) f11.owns
    have by5 := f11.row.bytes
    have rR := P10.out.2.1.below b11
    have nR := P10.out.2.2.2.2
    have z11 := BB11.out.size
    have hl6 : L6.length ≤ 140737488355328 := by have := l6.out; omega
    clear f11 b11 KP6
    go_wp2_with (at_builtin; refine wpList_app2 _ rfl _ _ rfl wc.heap.size _ L5 rfl OW by5 a10 c10 RD rfl rR nR L6 HL67.out.1 hl6 z11 ?_)
    intro a12 c12 W12 o12 hc12 hn12 r12 b12 _
    have BB12 : Hid (Below wc.heap.size wc W12) := BB11.out.trans b12
    have z12 := BB12.out.size
    have m14 := (ST.out W12 BB12.out).c14
    have rD := R3.out.below BB12.out
    have by6 := r12.bytes
    have hl7 : L7.length ≤ 140737488355328 := by have := l6.out; omega
    clear OW by5 rR hc12 hn12 r12 b12
    go_wp2_with (at_builtin; refine wpList_app2 _ rfl _ _ rfl wc.heap.size _ L6 rfl o12 by6 da dc dat rfl rD hdn L7 HL67.out.2 hl7 z12 ?_)
    intro a13 c13 W13 o13 hc13 hn13 r13 b13 _
    have BB13 : Below wc.heap.size wc W13 := BB12.out.trans b13
    go_wp2
    refine bodyPost_ret (v := .tuple #[.slice a13 L7.length c13, .int .i64 0]) (by simp [results, Try.results6, go_sem]) rfl ⟨a13, c13, ?_, ?_⟩
    · rw [HM7.out]
    · rw [HM7.out]
      exact ⟨owns_le B3'.out.size o13, hc13, hn13, r13, B3'.out.trans (BB13.mono B3'.out.size)⟩
end Go.Proofs.Ytpcdmjjlgoeglaa
