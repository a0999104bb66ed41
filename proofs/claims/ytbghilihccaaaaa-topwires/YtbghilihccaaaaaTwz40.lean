/- Texts joined: Ip6F Ip6G -/
import Derived.Test.YtbghilihccaaaaaTwz10
namespace Go.Proofs.Ytbghilihccaaaaa
open Go.RowKit
set_option linter.unusedVariables false
set_option linter.unusedSimpArgs false
def T6 (b : List Int) : Int × St := wend (st0 (b.getD 6 0) ((b.drop 40).take (u16 b 4).toNat) false)
/-- What is wrong with a fragment. -/
def wrongp (t : St) : Int := if t.more = true ∧ t.l.length % 8 ≠ 0 then 5 else if t.off + t.l.length > 65535 then 11 else if t.off = 0 ∧ whole t.next t.l = false then 4 else 0
def perr6 (b : List Int) : Int :=
  if b.length < 40 then 2 else if b.getD 0 0 / 16 ≠ 6 then 3 else if u16 b 4 > (b.length : Int) - 40 then 5 else if b.getD 7 0 = 0 then 26
  else if (T6 b).1 ≠ 0 then (T6 b).1 else if (T6 b).2.cut = true then wrongp (T6 b).2 else 0
def pk6 (b : List Int) : Pk :=
  ⟨6, (fromB (part b 8 16)).1, (fromB (part b 24 16)).1, (T6 b).2.next, b.getD 7 0, (T6 b).2.cut, if (T6 b).2.cut = true then (T6 b).2.id else 0, if (T6 b).2.cut = true then (T6 b).2.off else 0, (T6 b).2.cut && (T6 b).2.more, (T6 b).2.l⟩
def parsed6 (b : List Int) : Pk := if perr6 b = 0 then pk6 b else Pk.none
def exts6 (b : List Int) : List Int := if perr6 b = 0 then (T6 b).2.ex else []
set_option maxHeartbeats 400000 in
theorem addrAt6_any (a : Option Addr) (c : Nat) (l : List Int) (k : Int) (w : World) (h : Row w a l) (hnil : a = none → c = 0) (hl : l.length ≤ 140737488351232) (hc : l.length ≤ c) (hcm : c ≤ 9223372036854775807) (h0 : 0 ≤ k) (hk : k + 16 ≤ l.length) :
    Calls Try.prog 69 #[.slice a l.length c, .int .i64 k] w fun e w' => e = .returned (fromB (part l k 16)).1.v ∧ Below w.heap.size w w' := by
  have b0 : Below w.heap.size w (w.alloc (.cells #[.int .i64 0, .int .u64 0, .int .u64 0] 37)) := (Below.refl _ _).alloc (Nat.le_refl _) _
  have r0 := h.alloc (.cells #[.int .i64 0, .int .u64 0, .int .u64 0] 37)
  go_enter Try.func69, Try.ntmps69
  go_wp2_with fail
  refine (part_yes _ _ _ _ _ _ r0 hnil hl hc hcm h0 (by omega) (by omega)).mono ?_
  rintro e w1 ⟨a1, c1, rfl, f1⟩
  have b1 := f1.below
  have r1 := f1.row
  have z1 := b1.size
  simp only [World.size_alloc] at b1 z1
  clear f1 r0
  go_wp2_with fail
  refine (from_any _ _ _ _ r1).mono ?_
  rintro e w2 ⟨rfl, b2⟩
  have b3 := b1.trans (b2.mono z1)
  have z2 := b3.size
  simp only [World.size_alloc] at z2
  obtain ⟨A, hA⟩ : ∃ A, (fromB (part l k 16)).1 = A := ⟨_, rfl⟩
  rw [hA]
  obtain ⟨f, hi, lo⟩ := A
  obtain ⟨w3, hw3⟩ : ∃ w3, w2.alloc (.cells #[.int .i64 f, .int .u64 hi, .int .u64 lo] 37) = w3 := ⟨_, rfl⟩
  have b4 : Below (w.alloc (.cells #[.int .i64 0, .int .u64 0, .int .u64 0] 37)).heap.size (w.alloc (.cells #[.int .i64 0, .int .u64 0, .int .u64 0] 37)) w3 := by
    rw [← hw3]; simp only [World.size_alloc]; exact b3.alloc z2 _
  have d0 : w3.cell? ⟨w.heap.size, 0, none⟩ = some (.int .i64 0) := kept b4 (by simp)
  have d1 : w3.cell? ⟨w.heap.size, 1, none⟩ = some (.int .u64 0) := kept b4 (by simp)
  have d2 : w3.cell? ⟨w.heap.size, 2, none⟩ = some (.int .u64 0) := kept b4 (by simp)
  have fz : ∀ o, w3.frozen? ⟨w.heap.size, o, none⟩ = false := fun o => (b4.frozen (p := ⟨w.heap.size, o, none⟩) (by simp)).trans (by simp)
  have e0 : w3.cell? ⟨w2.heap.size, 0, none⟩ = some (.int .i64 f) := by rw [← hw3]; simp
  have e1 : w3.cell? ⟨w2.heap.size, 1, none⟩ = some (.int .u64 hi) := by rw [← hw3]; simp
  have e2 : w3.cell? ⟨w2.heap.size, 2, none⟩ = some (.int .u64 lo) := by rw [← hw3]; simp
  have b5 : Below w.heap.size w w3 := b0.trans (b4.mono (by simp))
  clear r1 b1 z1 b2 b3 b4
  go_wp2
  exact bodyPost_ret (v := .agg #[.int .i64 f, .int .u64 hi, .int .u64 lo]) (by simp [results, Try.results69, go_sem, d0, d1, d2]) rfl ⟨by rw [hA], ((b5.setCell (by simp) _).setCell (by simp) _).setCell (by simp) _⟩
set_option maxHeartbeats 400000 in
theorem leastHead_any (n : Int) (w : World) : Calls Try.prog 91 #[.int .i64 n] w fun e w' => e = .returned (.int .i64 (least n)) ∧ w' = w := by
  by_cases h6 : n = 6
  · subst h6
    go_enter Try.func91, Try.ntmps91
    go_wp2
    go_ret
    exact ⟨rfl, rfl⟩
  have h6' : (n == 6) = false := by simpa using h6
  by_cases h17 : n = 17
  · subst h17
    go_enter Try.func91, Try.ntmps91
    go_wp2
    go_ret
    exact ⟨rfl, rfl⟩
  have h17' : (n == 17) = false := by simpa using h17
  by_cases h1 : n = 1
  · subst h1
    go_enter Try.func91, Try.ntmps91
    go_wp2
    go_ret
    exact ⟨rfl, rfl⟩
  have h1' : (n == 1) = false := by simpa using h1
  by_cases h58 : n = 58
  · subst h58
    go_enter Try.func91, Try.ntmps91
    go_wp2
    go_ret
    exact ⟨rfl, rfl⟩
  have h58' : (n == 58) = false := by simpa using h58
  have e : least n = 0 := by unfold least; rw [if_neg h6, if_neg (by omega)]
  rw [e]
  clear e
  go_enter Try.func91, Try.ntmps91
  go_wp2
  go_ret
  exact ⟨rfl, rfl⟩
theorem whole_is (proto : Int) (l : List Int) : whole proto l = (decide (wE proto l = 0) && decide (least (wS proto l).next ≤ ((wS proto l).l.length : Int))) := by
  unfold whole wE wS
  by_cases h0 : (wend (st0 proto l true)).1 = 0
  · simp [h0]
  · simp [h0]
set_option maxHeartbeats 1000000 in
theorem allHeads_any (proto : Int) (a : Option Addr) (c : Nat) (l : List Int) (w : World) (h : Row w a l) (hc : l.length ≤ c) (hcm : c ≤ 9223372036854775807) (hnil : a = none → c = 0) :
    Calls Try.prog 84 #[.int .i64 proto, .slice a l.length c] w fun e w' => e = .returned (.bool (whole proto l)) ∧ Below w.heap.size w w' := by
  have KW := walk6_any proto a c l w h hc hcm hnil
  rw [whole_is]
  obtain ⟨T, hT⟩ : ∃ T, wS proto l = T := ⟨_, rfl⟩
  obtain ⟨E, hE⟩ : ∃ E, wE proto l = E := ⟨_, rfl⟩
  rw [hT, hE] at KW ⊢
  clear hT hE
  have HKW : Hid _ := KW
  clear KW
  obtain ⟨nx, tl, ex, met, cut, id, off, more⟩ := T
  simp only at HKW ⊢
  go_enter Try.func84, Try.ntmps84
  go_wp2_with fail
  refine Calls.mono HKW.out ?_
  rintro e w2 ⟨xa, xc, a', c', rfl, f, o, _⟩
  have bb := f.below
  clear HKW f o
  by_cases h0 : E = 0
  · subst h0
    go_wp2_with (go_at_call 91; refine (leastHead_any _ _).mono ?_; rintro e w' ⟨rfl, rfl⟩)
    go_ret
    exact ⟨by simp, bb⟩
  · have h0' : (E == 0) = false := by simpa using h0
    go_wp2
    go_ret
    exact ⟨by simp [h0], bb⟩
set_option maxHeartbeats 2000000 in
theorem wrongPiece_any (f sf sh sl df dh dl pr ho : Int) (fg : Bool) (id of : Int) (mo : Bool) (xv : Value) (hxv : xv.oneCell' = true) (a : Option Addr) (c : Nat) (l : List Int) (w : World) (h : Row w a l) (hc : l.length ≤ c) (hcm : c ≤ 9223372036854775807) (hnil : a = none → c = 0) (hof : 0 ≤ of ∧ of ≤ 65535) :
    Calls Try.prog 70 #[.agg #[.int .i64 f, .int .i64 sf, .int .u64 sh, .int .u64 sl, .int .i64 df, .int .u64 dh, .int .u64 dl, .int .i64 pr, .int .i64 ho, .bool fg, .int .u32 id, .int .i64 of, .bool mo, xv, .slice a l.length c]] w
      fun e w' => e = .returned (.int .i64 (wrongp ⟨pr, l, [], true, true, id, of, mo⟩)) ∧ Below w.heap.size w w' := by
  have hs := h.small
  obtain ⟨W1, hW1⟩ : ∃ W1, w.alloc (.cells #[.int .i64 f, .int .i64 sf, .int .u64 sh, .int .u64 sl, .int .i64 df, .int .u64 dh, .int .u64 dl, .int .i64 pr, .int .i64 ho, .bool fg, .int .u32 id, .int .i64 of, .bool mo, xv, .slice a l.length c] 42) = W1 := ⟨_, rfl⟩
  have b1 : Below w.heap.size w W1 := by rw [← hW1]; exact (Below.refl _ _).alloc (Nat.le_refl _) _
  obtain ⟨d0, d1, d2, d3, d4, d5, d6, d7, d8, d9, d10, d11, d12, d13, d14⟩ : SIp W1 w.heap.size (.int .i64 f) (.int .i64 sf) (.int .u64 sh) (.int .u64 sl) (.int .i64 df) (.int .u64 dh) (.int .u64 dl) (.int .i64 pr) (.int .i64 ho) (.bool fg) (.int .u32 id) (.int .i64 of) (.bool mo) xv (.slice a l.length c) := by rw [← hW1]; exact sIp_new w _ _ _ _ _ _ _ _ _ _ _ _ _ _ _
  have HA : Hid _ := allHeads_any pr a c l W1 (h.below b1) hc hcm hnil
  obtain ⟨R, hR⟩ : ∃ R, wrongp ⟨pr, l, [], true, true, id, of, mo⟩ = R := ⟨_, rfl⟩
  have HR : Hid (wrongp ⟨pr, l, [], true, true, id, of, mo⟩ = R) := hR
  rw [hR]
  clear hR d0 d1 d2 d3 d4 d5 d6 d8 d9 d10 d13
  have htm : ((l.length : Int)).tmod 8 = ((l.length % 8 : Nat) : Int) := by
    rw [Int.tmod_eq_emod_of_nonneg (by omega)]
    omega
  by_cases h5 : mo = true ∧ l.length % 8 ≠ 0
  · have e : Hid (5 = R) := by show 5 = R; rw [← HR.out]; unfold wrongp; rw [if_pos h5]
    obtain ⟨rfl, hm⟩ := h5
    have hm' : (((l.length % 8 : Nat) : Int) != 0) = true := by simp; omega
    clear HR HA
    go_enter Try.func70, Try.ntmps70
    go_wp2
    go_ret
    exact ⟨ret_int e.out, b1⟩
  · have hg : mo = false ∨ (mo = true ∧ (((l.length % 8 : Nat) : Int) != 0) = false) := by
      cases mo with
      | false => exact .inl rfl
      | true => exact .inr ⟨rfl, by simp at h5 ⊢; omega⟩
    by_cases h11 : of + l.length > 65535
    · have e : Hid (11 = R) := by show 11 = R; rw [← HR.out]; unfold wrongp; rw [if_neg h5, if_pos h11]
      clear HR HA h5
      rcases hg with rfl | ⟨rfl, hm⟩
      all_goals (
        go_enter Try.func70, Try.ntmps70
        go_wp2
        go_ret
        exact ⟨ret_int e.out, b1⟩)
    · by_cases h0 : of = 0
      · subst h0
        cases hw : whole pr l with
        | true =>
          rw [hw] at HA
          have e : Hid (0 = R) := by show 0 = R; rw [← HR.out]; unfold wrongp; rw [if_neg h5, if_neg h11, if_neg (by rw [hw]; simp)]
          clear HR h5
          rcases hg with rfl | ⟨rfl, hm⟩
          all_goals (
            go_enter Try.func70, Try.ntmps70
            go_wp2_with fail
            refine Calls.mono HA.out ?_
            rintro e' w2 ⟨rfl, b2⟩
            go_wp2
            go_ret
            exact ⟨ret_int e.out, b1.trans (b2.mono b1.size)⟩)
        | false =>
          rw [hw] at HA
          have e : Hid (4 = R) := by show 4 = R; rw [← HR.out]; unfold wrongp; rw [if_neg h5, if_neg h11, if_pos ⟨rfl, hw⟩]
          clear HR h5
          rcases hg with rfl | ⟨rfl, hm⟩
          all_goals (
            go_enter Try.func70, Try.ntmps70
            go_wp2_with fail
            refine Calls.mono HA.out ?_
            rintro e' w2 ⟨rfl, b2⟩
            go_wp2
            go_ret
            exact ⟨ret_int e.out, b1.trans (b2.mono b1.size)⟩)
      · have h0' : (of == 0) = false := by simpa using h0
        have e : Hid (0 = R) := by show 0 = R; rw [← HR.out]; unfold wrongp; rw [if_neg h5, if_neg h11, if_neg (fun hh => h0 hh.1)]
        clear HR HA h5
        rcases hg with rfl | ⟨rfl, hm⟩
        all_goals (
          go_enter Try.func70, Try.ntmps70
          go_wp2
          go_ret
          exact ⟨ret_int e.out, b1⟩)
theorem parse_ret6 {R : Ending → World → Prop} {a : Act} {w : World} {g : Nat} {x : Int} {v0 v1 v2 v3 v4 v5 v6 v7 v8 v9 v10 v11 v12 v13 v14 : Value} (s : SIp w g v0 v1 v2 v3 v4 v5 v6 v7 v8 v9 v10 v11 v12 v13 v14) (h2 : a.tmps[2]?.getD undef = .pointer (some ⟨g, 0, none⟩)) (h3 : a.tmps[3]?.getD undef = .int .i64 x) (hd : a.defers = [])
    (hR : R (.returned (.tuple #[.agg #[v0, v1, v2, v3, v4, v5, v6, v7, v8, v9, v10, v11, v12, v13, v14], .int .i64 x])) w) : bodyPost Try.prog Try.f42 R .ret a w := by
  obtain ⟨c0, c1, c2, c3, c4, c5, c6, c7, c8, c9, c10, c11, c12, c13, c14⟩ := s
  refine bodyPost_ret (v := .tuple #[.agg #[v0, v1, v2, v3, v4, v5, v6, v7, v8, v9, v10, v11, v12, v13, v14], .int .i64 x]) ?_ hd hR
  simp [results, Try.results42, go_sem, h2, h3, c0, c1, c2, c3, c4, c5, c6, c7, c8, c9, c10, c11, c12, c13, c14]
/-- What Parse answers. -/
def Got6 (w : World) (l : List Int) (e : Ending) (w' : World) : Prop :=
  ∃ a' c' xa xc, e = .returned (.tuple #[(parsed6 l).v (.slice xa (exts6 l).length xc) (.slice a' (parsed6 l).data.length c'), .int .i64 (perr6 l)]) ∧ Fresh w w' a' c' (parsed6 l).data ∧ OwnsI w' w.heap.size (.slice xa (exts6 l).length xc) (exts6 l) ∧ (exts6 l).length ≤ 8
theorem bad6 {w : World} {l : List Int} {x : Int} {W : World} (hx : perr6 l = x) (hn : x ≠ 0) (hb : Below w.heap.size w W) : Got6 w l (.returned (.tuple #[.agg zIp, .int .i64 x])) W := by
  subst hx
  have e1 : parsed6 l = Pk.none := by unfold parsed6; rw [if_neg hn]
  have e2 : exts6 l = [] := by unfold exts6; rw [if_neg hn]
  refine ⟨none, 0, none, 0, ?_, ?_, ?_, ?_⟩
  · rw [e1, e2]; rfl
  · rw [e1]; exact ⟨Owns.nil _ _, Nat.le_refl _, fun _ => rfl, ⟨by simp [Pk.none], M.Bytes.nil, fun h => by simp [Pk.none] at h⟩, hb⟩
  · rw [e2]; exact OwnsI.nil _ _
  · rw [e2]; simp
set_option maxRecDepth 100000 in
set_option maxHeartbeats 16000000 in
theorem parse6_e2 (a : Option Addr) (c : Nat) (l : List Int) (w : World) (h : Row w a l) (hnil : a = none → c = 0) (hll : l.length ≤ 140737488351232) (hc : l.length ≤ c) (hcm : c ≤ 9223372036854775807) (h40 : l.length < 40) :
    Calls Try.prog 42 #[.slice a l.length c] w (Got6 w l) := by
  obtain ⟨W0, hW0⟩ : ∃ W0, w.alloc (.cells zIp 42) = W0 := ⟨_, rfl⟩
  have b0 : Below w.heap.size w W0 := by rw [← hW0]; exact (Below.refl _ _).alloc (Nat.le_refl _) _
  have z0 : ZIp W0 w.heap.size := by rw [← hW0]; exact zIp_new w
  have s0 : W0.heap.size = w.heap.size + 1 := by rw [← hW0]; simp
  have r0 := h.below b0
  have hp : perr6 l = 2 := by unfold perr6; rw [if_pos h40]
  have HP : Hid _ := hp
  have h40' : (l.length : Int) < 40 := by omega
  have zz := z0
  obtain ⟨d0, d1, d2, d3, d4, d5, d6, d7, d8, d9, d10, d11, d12, d13, d14, dz⟩ := z0
  have hW0' := hW0
  go_enter Try.func42, Try.ntmps42
  go_wp2
  exact parse_ret6 (sIp_set zz _ _ _ _ _ _ _ _ _ _ _ _ _ _ _) rfl rfl rfl (bad6 HP.out (by decide) (set15_below b0 (Nat.le_refl _) _ _ _ _ _ _ _ _ _ _ _ _ _ _ _))
set_option maxRecDepth 100000 in
set_option maxHeartbeats 16000000 in
theorem parse6_e3 (a : Option Addr) (c : Nat) (l : List Int) (w : World) (h : Row w a l) (hnil : a = none → c = 0) (hll : l.length ≤ 140737488351232) (hc : l.length ≤ c) (hcm : c ≤ 9223372036854775807) (h40 : ¬ l.length < 40) (hv : l.getD 0 0 / 16 ≠ 6) :
    Calls Try.prog 42 #[.slice a l.length c] w (Got6 w l) := by
  obtain ⟨W0, hW0⟩ : ∃ W0, w.alloc (.cells zIp 42) = W0 := ⟨_, rfl⟩
  have b0 : Below w.heap.size w W0 := by rw [← hW0]; exact (Below.refl _ _).alloc (Nat.le_refl _) _
  have z0 : ZIp W0 w.heap.size := by rw [← hW0]; exact zIp_new w
  have s0 : W0.heap.size = w.heap.size + 1 := by rw [← hW0]; simp
  have r0 := h.below b0
  have hpp : perr6 l = 3 := by
    unfold perr6
    rw [if_neg h40, if_pos hv]
  have h40' : ¬ (l.length : Int) < 40 := by omega
  obtain ⟨bk, off, rfl, hcl⟩ := h.cells (by omega)
  have KU : Hid _ := u16_yes (some ⟨bk, off, none⟩) c l 4 W0 r0 (by decide) (by omega)
  have y0 := hcl 0 (by omega)
  have y7 := hcl 7 (by omega)
  have i0 : (0 : Int) < (l.length : Int) := by omega
  have i7 : (7 : Int) < (l.length : Int) := by omega
  rw [Nat.add_zero] at y0
  obtain ⟨x0, e0⟩ : ∃ x, l.getD 0 0 = x := ⟨_, rfl⟩
  obtain ⟨x7, e7⟩ : ∃ x, l.getD 7 0 = x := ⟨_, rfl⟩
  obtain ⟨sz, es⟩ : ∃ x, u16 l 4 = x := ⟨_, rfl⟩
  have q0 := h.bytes.get 0
  have q7 := h.bytes.get 7
  have qs := u16_bd h.bytes 4
  rw [e0] at y0 q0
  rw [e7] at y7 q7
  rw [es] at KU qs
  have HE : Hid (l.getD 0 0 = x0 ∧ l.getD 7 0 = x7 ∧ u16 l 4 = sz) := ⟨e0, e7, es⟩
  have HPP : Hid (perr6 l = _) := hpp
  rw [e0] at hv
  have hv' : (x0 / 16 != 6) = true := by simpa using hv
  clear hcl e0 e7 es hpp
  go_enter Try.func42, Try.ntmps42
  go_wp2_with fail
  refine Calls.mono KU.out ?_
  rintro e w' ⟨rfl, n, rfl⟩
  have b1 : Below w.heap.size w (W0.drewN n) := below_drewN b0 n
  have bb : Below W0.heap.size W0 (W0.drewN n) := below_drewN (Below.refl _ _) n
  have z1 : ZIp (W0.drewN n) w.heap.size := z0.below (by omega) bb
  have k0 := kept (b := bk) (o := off) b1 y0
  have k7 := kept (b := bk) (o := off + 7) b1 y7
  obtain ⟨W1, hW1⟩ : ∃ W1, W0.drewN n = W1 := ⟨_, rfl⟩
  rw [hW1] at b1 z1 k0 k7 ⊢
  have zz := z1
  clear KU bb z0 r0 hW1 hW0 y0 y7
  obtain ⟨d0, d1, d2, d3, d4, d5, d6, d7, d8, d9, d10, d11, d12, d13, d14, dz⟩ := z1
  go_wp2
  exact parse_ret6 (sIp_set zz _ _ _ _ _ _ _ _ _ _ _ _ _ _ _) rfl rfl rfl (bad6 HPP.out (by decide) (set15_below b1 (Nat.le_refl _) _ _ _ _ _ _ _ _ _ _ _ _ _ _ _))
set_option maxRecDepth 100000 in
set_option maxHeartbeats 16000000 in
theorem parse6_e5 (a : Option Addr) (c : Nat) (l : List Int) (w : World) (h : Row w a l) (hnil : a = none → c = 0) (hll : l.length ≤ 140737488351232) (hc : l.length ≤ c) (hcm : c ≤ 9223372036854775807) (h40 : ¬ l.length < 40) (hv : l.getD 0 0 / 16 = 6) (h5 : u16 l 4 > (l.length : Int) - 40) :
    Calls Try.prog 42 #[.slice a l.length c] w (Got6 w l) := by
  obtain ⟨W0, hW0⟩ : ∃ W0, w.alloc (.cells zIp 42) = W0 := ⟨_, rfl⟩
  have b0 : Below w.heap.size w W0 := by rw [← hW0]; exact (Below.refl _ _).alloc (Nat.le_refl _) _
  have z0 : ZIp W0 w.heap.size := by rw [← hW0]; exact zIp_new w
  have s0 : W0.heap.size = w.heap.size + 1 := by rw [← hW0]; simp
  have r0 := h.below b0
  have hpp : perr6 l = 5 := by
    unfold perr6
    rw [if_neg h40, if_neg (by rw [hv]; simp), if_pos h5]
  have h40' : ¬ (l.length : Int) < 40 := by omega
  obtain ⟨bk, off, rfl, hcl⟩ := h.cells (by omega)
  have KU : Hid _ := u16_yes (some ⟨bk, off, none⟩) c l 4 W0 r0 (by decide) (by omega)
  have y0 := hcl 0 (by omega)
  have y7 := hcl 7 (by omega)
  have i0 : (0 : Int) < (l.length : Int) := by omega
  have i7 : (7 : Int) < (l.length : Int) := by omega
  rw [Nat.add_zero] at y0
  obtain ⟨x0, e0⟩ : ∃ x, l.getD 0 0 = x := ⟨_, rfl⟩
  obtain ⟨x7, e7⟩ : ∃ x, l.getD 7 0 = x := ⟨_, rfl⟩
  obtain ⟨sz, es⟩ : ∃ x, u16 l 4 = x := ⟨_, rfl⟩
  have q0 := h.bytes.get 0
  have q7 := h.bytes.get 7
  have qs := u16_bd h.bytes 4
  rw [e0] at y0 q0
  rw [e7] at y7 q7
  rw [es] at KU qs
  have HE : Hid (l.getD 0 0 = x0 ∧ l.getD 7 0 = x7 ∧ u16 l 4 = sz) := ⟨e0, e7, es⟩
  have HPP : Hid (perr6 l = _) := hpp
  rw [e0] at hv
  rw [es] at h5
  have hv' : (x0 / 16 != 6) = false := by simpa using hv
  clear hv
  clear hcl e0 e7 es hpp
  go_enter Try.func42, Try.ntmps42
  go_wp2_with fail
  refine Calls.mono KU.out ?_
  rintro e w' ⟨rfl, n, rfl⟩
  have b1 : Below w.heap.size w (W0.drewN n) := below_drewN b0 n
  have bb : Below W0.heap.size W0 (W0.drewN n) := below_drewN (Below.refl _ _) n
  have z1 : ZIp (W0.drewN n) w.heap.size := z0.below (by omega) bb
  have k0 := kept (b := bk) (o := off) b1 y0
  have k7 := kept (b := bk) (o := off + 7) b1 y7
  obtain ⟨W1, hW1⟩ : ∃ W1, W0.drewN n = W1 := ⟨_, rfl⟩
  rw [hW1] at b1 z1 k0 k7 ⊢
  have zz := z1
  clear KU bb z0 r0 hW1 hW0 y0 y7
  obtain ⟨d0, d1, d2, d3, d4, d5, d6, d7, d8, d9, d10, d11, d12, d13, d14, dz⟩ := z1
  go_wp2
  exact parse_ret6 (sIp_set zz _ _ _ _ _ _ _ _ _ _ _ _ _ _ _) rfl rfl rfl (bad6 HPP.out (by decide) (set15_below b1 (Nat.le_refl _) _ _ _ _ _ _ _ _ _ _ _ _ _ _ _))
set_option maxRecDepth 100000 in
set_option maxHeartbeats 16000000 in
theorem parse6_e26 (a : Option Addr) (c : Nat) (l : List Int) (w : World) (h : Row w a l) (hnil : a = none → c = 0) (hll : l.length ≤ 140737488351232) (hc : l.length ≤ c) (hcm : c ≤ 9223372036854775807) (h40 : ¬ l.length < 40) (hv : l.getD 0 0 / 16 = 6) (h5 : ¬ u16 l 4 > (l.length : Int) - 40) (h7 : l.getD 7 0 = 0) :
    Calls Try.prog 42 #[.slice a l.length c] w (Got6 w l) := by
  obtain ⟨W0, hW0⟩ : ∃ W0, w.alloc (.cells zIp 42) = W0 := ⟨_, rfl⟩
  have b0 : Below w.heap.size w W0 := by rw [← hW0]; exact (Below.refl _ _).alloc (Nat.le_refl _) _
  have z0 : ZIp W0 w.heap.size := by rw [← hW0]; exact zIp_new w
  have s0 : W0.heap.size = w.heap.size + 1 := by rw [← hW0]; simp
  have r0 := h.below b0
  have hpp : perr6 l = 26 := by
    unfold perr6
    rw [if_neg h40, if_neg (by rw [hv]; simp), if_neg h5, if_pos h7]
  have h40' : ¬ (l.length : Int) < 40 := by omega
  obtain ⟨bk, off, rfl, hcl⟩ := h.cells (by omega)
  have KU : Hid _ := u16_yes (some ⟨bk, off, none⟩) c l 4 W0 r0 (by decide) (by omega)
  have y0 := hcl 0 (by omega)
  have y7 := hcl 7 (by omega)
  have i0 : (0 : Int) < (l.length : Int) := by omega
  have i7 : (7 : Int) < (l.length : Int) := by omega
  rw [Nat.add_zero] at y0
  obtain ⟨x0, e0⟩ : ∃ x, l.getD 0 0 = x := ⟨_, rfl⟩
  obtain ⟨x7, e7⟩ : ∃ x, l.getD 7 0 = x := ⟨_, rfl⟩
  obtain ⟨sz, es⟩ : ∃ x, u16 l 4 = x := ⟨_, rfl⟩
  have q0 := h.bytes.get 0
  have q7 := h.bytes.get 7
  have qs := u16_bd h.bytes 4
  rw [e0] at y0 q0
  rw [e7] at y7 q7
  rw [es] at KU qs
  have HE : Hid (l.getD 0 0 = x0 ∧ l.getD 7 0 = x7 ∧ u16 l 4 = sz) := ⟨e0, e7, es⟩
  have HPP : Hid (perr6 l = _) := hpp
  rw [e0] at hv
  rw [es] at h5
  rw [e7] at h7
  have hv' : (x0 / 16 != 6) = false := by simpa using hv
  clear hv
  have h7' : (x7 == 0) = true := by simpa using h7
  clear h7
  clear hcl e0 e7 es hpp
  go_enter Try.func42, Try.ntmps42
  go_wp2_with fail
  refine Calls.mono KU.out ?_
  rintro e w' ⟨rfl, n, rfl⟩
  have b1 : Below w.heap.size w (W0.drewN n) := below_drewN b0 n
  have bb : Below W0.heap.size W0 (W0.drewN n) := below_drewN (Below.refl _ _) n
  have z1 : ZIp (W0.drewN n) w.heap.size := z0.below (by omega) bb
  have k0 := kept (b := bk) (o := off) b1 y0
  have k7 := kept (b := bk) (o := off + 7) b1 y7
  obtain ⟨W1, hW1⟩ : ∃ W1, W0.drewN n = W1 := ⟨_, rfl⟩
  rw [hW1] at b1 z1 k0 k7 ⊢
  have zz := z1
  clear KU bb z0 r0 hW1 hW0 y0 y7
  obtain ⟨d0, d1, d2, d3, d4, d5, d6, d7, d8, d9, d10, d11, d12, d13, d14, dz⟩ := z1
  go_wp2
  exact parse_ret6 (sIp_set zz _ _ _ _ _ _ _ _ _ _ _ _ _ _ _) rfl rfl rfl (bad6 HPP.out (by decide) (set15_below b1 (Nat.le_refl _) _ _ _ _ _ _ _ _ _ _ _ _ _ _ _))
end Go.Proofs.Ytbghilihccaaaaa
