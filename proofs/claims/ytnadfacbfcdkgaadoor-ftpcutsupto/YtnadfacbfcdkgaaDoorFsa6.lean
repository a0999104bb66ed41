/- Texts joined: Par -/
import Derived.Test.YtnadfacbfcdkgaaDoorFsa3
import Derived.Test.YtnadfacbfcdkgaaDoorFsa4
import Derived.Test.YtnadfacbfcdkgaaDoorFsa5
namespace Go.Proofs.YtnadfacbfcdkgaaDoor
open Go.RowKit
set_option linter.unusedVariables false
set_option linter.unusedSimpArgs false
theorem wpList_appz {ops : Array Oper} {rest : List Oper} {o : Oper} {ac : Act} {Q : Exit → Act → World → Prop} (w : World) (hgd : o.guard = none) (s x : Operand)
    (ho : o.op = .call { callee := .builtin .append, args := #[s, x], argTypes := #[22, 3] })
    (B : Nat) (v : Value) (l : List Int) (m : Nat) (hs : ac.eval s = v) (hown : Owns w B v l) (hlb : M.Bytes l) (hx : ac.eval x = .int .i64 m)
    (r : List Int) (hr : l ++ List.replicate m 0 = r) (hm : l.length + m ≤ 1048576) (hbase : B ≤ w.heap.size)
    (h : ∀ a' c' w', Owns w' B (.slice a' r.length c') r → Below B w w' → w.grownBy w' v.ownBlock → wpList Tryd.prog ops Q rest (ac.put o.dst (.slice a' r.length c')) w') : wpList Tryd.prog ops Q (o :: rest) ac w := by
  subst hr
  obtain ⟨v', w', h1, h2, h3⟩ := run_append_zeros w o.type B v l m hown hm hbase
  refine wpList_plain hgd fun _ hK => ?_
  obtain ⟨a', c', rfl, h4, h5, h6, h7⟩ := h2.form
  unfold Oper.wp execOp
  simp only [ho, resolve, invoke, builtin, Sem.run_bind, Sem.run_pure, Result.andThen_ok, List.map_toArray, List.map_cons, List.map_nil, hs, hx, h1]
  exact hK _ _ (h a' c' w' h2 ((Below.refl _ _).grown h3 hbase fun k hk => (World.ownsRow.lt hown k hk).1) h3)
theorem Row.grown {w w' : World} {row : Option Nat} {a : Option Addr} {l : List Int} (h : Row w a l) (hg : w.grownBy w' row) (hne : ∀ b off, a = some ⟨b, off, none⟩ → some b ≠ row) : Row w' a l :=
  ⟨h.small, h.bytes, fun hp => by
    obtain ⟨b, off, ha, hc⟩ := h.cells hp
    exact ⟨b, off, ha, fun i hi => hg.cell (hc i hi) (hne b off ha)⟩⟩
def p6 (s : List UInt8) : Option (List Int) := match gs (Lib.cut s [58, 58]).1 with
  | none => none
  | some h => match gs (Lib.cut s [58, 58]).2.1 with
    | none => none
    | some t => if 16 < h.length + t.length ∨ (Lib.cut s [58, 58]).2.2 ≠ decide (h.length + t.length < 16) then none else some (h ++ List.replicate (16 - h.length - t.length) 0 ++ t)
theorem cut_sizes (s sep : List UInt8) : (Lib.cut s sep).1.length ≤ s.length ∧ (Lib.cut s sep).2.1.length ≤ s.length := by
  unfold Lib.cut
  split <;> simp <;> omega
set_option maxRecDepth 100000 in
set_option maxHeartbeats 1000000 in
theorem parse6_any (s : ByteArray) (w : World) (m : Int) (hs : s.size < 4294967281) (hm : w.cell? ⟨0, 0, none⟩ = some (.int .i64 m)) :
    Calls Tryd.prog 52 #[.string s] w (GotBytes w (p6 s.data.toList)) := by
  have e1 : s.data.toList.length = s.size := Array.length_toList
  have hcs := cut_sizes s.data.toList [58, 58]
  rw [e1] at hcs
  obtain ⟨T, hT⟩ : ∃ T, p6 s.data.toList = T := ⟨_, rfl⟩
  rw [hT]
  have hcut := fun w hm => Tryd.strings_Cut s (ByteArray.mk #[58, 58]) m w hs hm
  unfold p6 at hT
  replace hcut : ∀ w, w.cell? ⟨0, 0, none⟩ = some (.int .i64 m) → Calls Tryd.prog 46 #[.string s, .string (ByteArray.mk #[58, 58])] w fun e w' => e = .returned (.tuple #[.string ⟨(Lib.cut s.data.toList [58, 58]).1.toArray⟩, .string ⟨(Lib.cut s.data.toList [58, 58]).2.1.toArray⟩, .bool (Lib.cut s.data.toList [58, 58]).2.2]) ∧ ∃ n, w' = w.drewN n := hcut
  generalize Lib.cut s.data.toList [58, 58] = C at *
  obtain ⟨ah, be, ok⟩ := C
  simp only at hT hcut hcs
  have s1 : (ByteArray.mk ah.toArray).size < 4294967281 := by show ah.toArray.size < _; simp; omega
  have s2 : (ByteArray.mk be.toArray).size < 4294967281 := by show be.toArray.size < _; simp; omega
  have g1 := fun w hm => groups_any (ByteArray.mk ah.toArray) w m s1 hm
  have g2 := fun w hm => groups_any (ByteArray.mk be.toArray) w m s2 hm
  replace g1 : ∀ w, w.cell? ⟨0, 0, none⟩ = some (.int .i64 m) → Calls Tryd.prog 59 #[.string (ByteArray.mk ah.toArray)] w (GotBytes w (gs ah)) := g1
  replace g2 : ∀ w, w.cell? ⟨0, 0, none⟩ = some (.int .i64 m) → Calls Tryd.prog 59 #[.string (ByteArray.mk be.toArray)] w (GotBytes w (gs be)) := g2
  have HT : Hid ((match gs ah with | none => none | some h => match gs be with | none => none | some t => if 16 < h.length + t.length ∨ ok ≠ decide (h.length + t.length < 16) then none else some (h ++ List.replicate (16 - h.length - t.length) 0 ++ t)) = T) := hT
  clear hT hcs s1 s2 e1 hs
  generalize gs ah = G1 at *
  generalize gs be = G2 at *
  go_enter Tryd.func52, Tryd.ntmps52
  go_wp2_with fail
  refine (hcut _ hm).mono ?_
  rintro e w1 ⟨rfl, n1, rfl⟩
  go_wp2_with fail
  have b0 : Below w.heap.size w (w.drewN n1) := below_drewN (Below.refl _ _) n1
  have hm1 := kept b0 hm
  generalize w.drewN n1 = w1 at *
  refine (g1 w1 hm1).mono ?_
  cases G1 with
  | none =>
    rintro e w2 ⟨rfl, b2⟩
    obtain rfl : T = none := HT.out.symm
    have := b0.size
    go_wp2
    go_ret2
    exact ⟨rfl, b0.trans (b2.mono this)⟩
  | some h =>
    rintro e w2 ⟨a2, c2, rfl, f2, l2⟩
    have z0 := b0.size
    have b2 := f2.below
    have hm2 := kept b2 hm1
    have z2 := b2.size
    go_wp2_with fail
    refine (g2 w2 hm2).mono ?_
    cases G2 with
    | none =>
      rintro e w3 ⟨rfl, b3⟩
      obtain rfl : T = none := HT.out.symm
      go_wp2
      go_ret2
      exact ⟨rfl, b0.trans ((b2.mono z0).trans (b3.mono (by omega)))⟩
    | some t =>
      rintro e w3 ⟨a3, c3, rfl, f3, l3⟩
      have b3 := f3.below
      have z3 := b3.size
      have bb : Below w.heap.size w w3 := b0.trans ((b2.mono z0).trans (b3.mono (by omega)))
      have hlb := f2.row.bytes
      have own : Owns w3 w.heap.size (.slice a2 h.length c2) h := owns_down z0 (f2.owns.below b3)
      have L2 : ∀ k, (Value.slice a2 h.length c2).ownBlock = some k → k < w2.heap.size := fun k hk => (World.ownsRow.lt f2.owns k hk).2
      have L3 : ∀ k, (Value.slice a3 t.length c3).ownBlock = some k → w2.heap.size ≤ k := fun k hk => (World.ownsRow.lt f3.owns k hk).1
      have r3 := f3.row
      have n3 := f3.nil
      have HT' : Hid ((if 16 < h.length + t.length ∨ ok ≠ decide (h.length + t.length < 16) then none else some (h ++ List.replicate (16 - h.length - t.length) 0 ++ t)) = T) := HT.out
      clear f2 f3 HT g1 g2 hcut
      by_cases hbad : 16 < h.length + t.length ∨ ok ≠ decide (h.length + t.length < 16)
      · obtain rfl : T = none := by have := HT'.out; rw [if_pos hbad] at this; exact this.symm
        by_cases hsum : 16 < h.length + t.length
        · have q1 : decide ((16 : Int) - (h.length : Int) - (t.length : Int) < 0) = true := by simp; omega
          clear hbad HT'
          go_wp2
          go_ret2
          exact ⟨rfl, bb⟩
        · have hok : ok ≠ decide (h.length + t.length < 16) := by rcases hbad with hb | hb; exact absurd hb hsum; exact hb
          obtain ⟨mm, hmm⟩ : ∃ mm : Nat, (16 : Int) - (h.length : Int) - (t.length : Int) = mm := ⟨16 - h.length - t.length, by omega⟩
          have h16 : decide (h.length + t.length < 16) = decide ((0 : Int) < (mm : Int)) := by congr 1; apply propext; constructor <;> intro _ <;> omega
          rw [h16] at hok
          have q1 : decide ((mm : Int) < 0) = false := by simp
          clear hbad HT' h16 hsum
          by_cases h0 : 0 < mm
          · have q2 : decide ((0 : Int) < (mm : Int)) = true := by simp; omega
            rw [q2] at hok
            obtain rfl : ok = false := by simpa using hok
            clear hok
            go_wp2
            go_ret2
            exact ⟨rfl, bb⟩
          · have q2 : decide ((0 : Int) < (mm : Int)) = false := by simp; omega
            rw [q2] at hok
            obtain rfl : ok = true := by simpa using hok
            clear hok
            go_wp2
            go_ret2
            exact ⟨rfl, bb⟩
      · have hT2 := HT'.out
        rw [if_neg hbad] at hT2
        subst hT2
        clear HT'
        have hsum : ¬ 16 < h.length + t.length := fun hh => hbad (.inl hh)
        have hok : ok = decide (h.length + t.length < 16) := by
          cases ok <;> cases hd : decide (h.length + t.length < 16) <;> simp_all
        clear hbad
        obtain ⟨mm, hmm⟩ : ∃ mm : Nat, (16 : Int) - (h.length : Int) - (t.length : Int) = mm := ⟨16 - h.length - t.length, by omega⟩
        have emm : 16 - h.length - t.length = mm := by omega
        rw [emm]
        obtain ⟨r, hr⟩ : ∃ r, h ++ List.replicate mm 0 = r := ⟨_, rfl⟩
        have HR : Hid (h ++ List.replicate mm 0 = r) := hr
        have hrb : M.Bytes r := by rw [← hr]; exact hlb.app (fun z hz => by have := List.eq_of_mem_replicate hz; omega)
        have hrl : r.length + t.length ≤ 16 := by rw [← hr]; simp; omega
        rw [hr]
        have hmb : h.length + mm ≤ 1048576 := by omega
        have h16 : decide (h.length + t.length < 16) = decide ((0 : Int) < (mm : Int)) := by congr 1; apply propext; constructor <;> intro _ <;> omega
        rw [h16] at hok
        have HM : Hid (16 - h.length - t.length = mm) := emm
        clear emm hr h16 hsum
        obtain ⟨r2, hr2⟩ : ∃ r2, r ++ t = r2 := ⟨_, rfl⟩
        have HR2 : Hid (r ++ t = r2) := hr2
        have hr2l : r2.length ≤ 16 := by rw [← hr2]; simp; omega
        have hr2b : M.Bytes r2 := by rw [← hr2]; exact hrb.app r3.bytes
        rw [hr2]
        clear hr2
        have zz : w.heap.size ≤ w3.heap.size := by omega
        have q1 : decide ((mm : Int) < 0) = false := by simp
        by_cases h0 : 0 < mm
        · have q2 : decide ((0 : Int) < (mm : Int)) = true := by simp; omega
          rw [q2] at hok
          subst hok
          go_wp2_with (at_builtin; refine wpList_appz (w := w3) rfl _ _ rfl w.heap.size (.slice a2 h.length c2) h mm ?appS own hlb ?appX r HR.out hmb zz ?_)
          case appS => rfl
          case appX => first | rfl | exact int_eq hmm
          intro a4 c4 w4 o4 b4 g4
          have r4 : Row w4 a3 t := r3.grown g4 (fun b off hb e => by
            have h1 := L2 b e.symm
            have h2 := L3 b (by rw [hb]; rfl)
            omega)
          have z4 := b4.size
          go_wp2_with (at_builtin; refine wpList_app2 _ rfl _ _ rfl w.heap.size _ r rfl o4 hrb a3 c3 t rfl r4 n3 r2 HR2.out ?c1 ?c2 ?_)
          case c1 => omega
          case c2 => omega
          intro a5 c5 w5 o5 hc5 hn5 r5 b5 _
          go_wp2
          go_ret2
          rw [HM.out, HR.out, HR2.out]
          exact ⟨a5, c5, rfl, ⟨o5, hc5, hn5, r5, bb.trans (b4.trans b5)⟩, by omega⟩
        · have q2 : decide ((0 : Int) < (mm : Int)) = false := by simp; omega
          rw [q2] at hok
          subst hok
          go_wp2_with (at_builtin; refine wpList_appz (w := w3) rfl _ _ rfl w.heap.size (.slice a2 h.length c2) h mm ?appS own hlb ?appX r HR.out hmb zz ?_)
          case appS => rfl
          case appX => first | rfl | exact int_eq hmm
          intro a4 c4 w4 o4 b4 g4
          have r4 : Row w4 a3 t := r3.grown g4 (fun b off hb e => by
            have h1 := L2 b e.symm
            have h2 := L3 b (by rw [hb]; rfl)
            omega)
          have z4 := b4.size
          go_wp2_with (at_builtin; refine wpList_app2 _ rfl _ _ rfl w.heap.size _ r rfl o4 hrb a3 c3 t rfl r4 n3 r2 HR2.out ?c1 ?c2 ?_)
          case c1 => omega
          case c2 => omega
          intro a5 c5 w5 o5 hc5 hn5 r5 b5 _
          go_wp2
          go_ret2
          rw [HM.out, HR.out, HR2.out]
          exact ⟨a5, c5, rfl, ⟨o5, hc5, hn5, r5, bb.trans (b4.trans b5)⟩, by omega⟩
/-- What a text is as an address. -/
def parseB (s : List UInt8) : Ad × Int := match p4 s with
  | some b => fromB b
  | none => match p6 s with
    | some b => fromB b
    | none => (⟨0, 0, 0⟩, 1)
set_option maxHeartbeats 1000000 in
theorem parse_any (s : ByteArray) (w : World) (m : Int) (hs : s.size < 4294967281) (hm : w.cell? ⟨0, 0, none⟩ = some (.int .i64 m)) :
    Calls Tryd.prog 45 #[.string s] w fun e w' => e = .returned (.tuple #[(parseB s.data.toList).1.v, .int .i64 (parseB s.data.toList).2]) ∧ Below w.heap.size w w' := by
  have g4 := fun w hm => parse4_any s w m hs hm
  have g6 := fun w hm => parse6_any s w m hs hm
  obtain ⟨T, hT⟩ : ∃ T, parseB s.data.toList = T := ⟨_, rfl⟩
  rw [hT]
  have HT : Hid ((match p4 s.data.toList with | some b => fromB b | none => match p6 s.data.toList with | some b => fromB b | none => (⟨0, 0, 0⟩, 1)) = T) := hT
  clear hT
  generalize p4 s.data.toList = P4 at *
  generalize p6 s.data.toList = P6 at *
  obtain ⟨⟨tf, th, tl⟩, te⟩ := T
  go_enter Tryd.func45, Tryd.ntmps45
  go_wp2_with fail
  have hm0 : (w.alloc (.cells #[.int .i64 0, .int .u64 0, .int .u64 0] 30)).cell? ⟨0, 0, none⟩ = some (.int .i64 m) := kept ((Below.refl _ _).alloc (Nat.le_refl _) _) hm
  refine (g4 _ hm0).mono ?_
  cases P4 with
  | some b =>
    have HT' : Hid (fromB b = (⟨tf, th, tl⟩, te)) := HT.out
    rintro e w2 ⟨a2, c2, rfl, f2, l2⟩
    have b2 := f2.below
    have z2 := b2.size
    simp at z2
    have hf := from_any a2 c2 b w2 f2.row
    rw [HT'.out] at hf
    go_wp2_with fail
    refine hf.mono ?_
    rintro e w3 ⟨rfl, b3⟩
    have z3 := b3.size
    have bb : Below (w.heap.size + 1) (w.alloc (.cells #[.int .i64 0, .int .u64 0, .int .u64 0] 30)) w3 := by
      have := b2.trans (b3.mono (by simp; omega))
      simpa using this
    have k0 : w3.cell? ⟨w.heap.size, 0, none⟩ = some (.int .i64 0) := (bb.cell (p := ⟨w.heap.size, 0, none⟩) (by simp)).trans (by simp)
    have k1 : w3.cell? ⟨w.heap.size, 1, none⟩ = some (.int .u64 0) := (bb.cell (p := ⟨w.heap.size, 1, none⟩) (by simp)).trans (by simp)
    have k2 : w3.cell? ⟨w.heap.size, 2, none⟩ = some (.int .u64 0) := (bb.cell (p := ⟨w.heap.size, 2, none⟩) (by simp)).trans (by simp)
    have q0 : ∀ o, w3.frozen? ⟨w.heap.size, o, none⟩ = _ := fun o => bb.frozen (p := ⟨w.heap.size, o, none⟩) (by simp)
    have hz : w.heap.size < w3.heap.size := by omega
    go_wp2
    exact bodyPost_ret (v := .tuple #[.agg #[.int .i64 tf, .int .u64 th, .int .u64 tl], .int .i64 te]) (by simp [results, Tryd.results45, go_sem, k0, k1, k2, hz]) rfl
      ⟨rfl, (((((Below.refl _ _).alloc (Nat.le_refl _) _).trans (bb.mono (by omega))).setCell (by simp) _).setCell (by simp) _).setCell (by simp) _⟩
  | none =>
    rintro e w2 ⟨rfl, b2⟩
    have z2 := b2.size
    simp at z2
    have hm2 := kept b2 hm0
    go_wp2_with fail
    refine (g6 w2 hm2).mono ?_
    cases P6 with
    | some b =>
      have HT' : Hid (fromB b = (⟨tf, th, tl⟩, te)) := HT.out
      rintro e w4 ⟨a2, c2, rfl, f2, l2⟩
      have b4 := f2.below
      have z4 := b4.size
      have hf := from_any a2 c2 b w4 f2.row
      rw [HT'.out] at hf
      go_wp2_with fail
      refine hf.mono ?_
      rintro e w3 ⟨rfl, b3⟩
      have z3 := b3.size
      have bb : Below (w.heap.size + 1) (w.alloc (.cells #[.int .i64 0, .int .u64 0, .int .u64 0] 30)) w3 := by
        have := b2.trans ((b4.mono (by simp; omega)).trans (b3.mono (by simp; omega)))
        simpa using this
      have k0 : w3.cell? ⟨w.heap.size, 0, none⟩ = some (.int .i64 0) := (bb.cell (p := ⟨w.heap.size, 0, none⟩) (by simp)).trans (by simp)
      have k1 : w3.cell? ⟨w.heap.size, 1, none⟩ = some (.int .u64 0) := (bb.cell (p := ⟨w.heap.size, 1, none⟩) (by simp)).trans (by simp)
      have k2 : w3.cell? ⟨w.heap.size, 2, none⟩ = some (.int .u64 0) := (bb.cell (p := ⟨w.heap.size, 2, none⟩) (by simp)).trans (by simp)
      have q0 : ∀ o, w3.frozen? ⟨w.heap.size, o, none⟩ = _ := fun o => bb.frozen (p := ⟨w.heap.size, o, none⟩) (by simp)
      have hz : w.heap.size < w3.heap.size := by omega
      go_wp2
      exact bodyPost_ret (v := .tuple #[.agg #[.int .i64 tf, .int .u64 th, .int .u64 tl], .int .i64 te]) (by simp [results, Tryd.results45, go_sem, k0, k1, k2, hz]) rfl
        ⟨rfl, (((((Below.refl _ _).alloc (Nat.le_refl _) _).trans (bb.mono (by omega))).setCell (by simp) _).setCell (by simp) _).setCell (by simp) _⟩
    | none =>
      have HT' : Hid (((⟨0, 0, 0⟩, 1) : Ad × Int) = (⟨tf, th, tl⟩, te)) := HT.out
      have e := HT'.out
      simp only [Prod.mk.injEq, Ad.mk.injEq] at e
      obtain ⟨⟨rfl, rfl, rfl⟩, rfl⟩ := e
      clear HT HT'
      rintro e w3 ⟨rfl, b3⟩
      have z3 := b3.size
      have bb : Below (w.heap.size + 1) (w.alloc (.cells #[.int .i64 0, .int .u64 0, .int .u64 0] 30)) w3 := by
        have := b2.trans (b3.mono (by simp; omega))
        simpa using this
      have k0 : w3.cell? ⟨w.heap.size, 0, none⟩ = some (.int .i64 0) := (bb.cell (p := ⟨w.heap.size, 0, none⟩) (by simp)).trans (by simp)
      have k1 : w3.cell? ⟨w.heap.size, 1, none⟩ = some (.int .u64 0) := (bb.cell (p := ⟨w.heap.size, 1, none⟩) (by simp)).trans (by simp)
      have k2 : w3.cell? ⟨w.heap.size, 2, none⟩ = some (.int .u64 0) := (bb.cell (p := ⟨w.heap.size, 2, none⟩) (by simp)).trans (by simp)
      have q0 : ∀ o, w3.frozen? ⟨w.heap.size, o, none⟩ = _ := fun o => bb.frozen (p := ⟨w.heap.size, o, none⟩) (by simp)
      have hz : w.heap.size < w3.heap.size := by omega
      go_wp2
      exact bodyPost_ret (v := .tuple #[.agg #[.int .i64 0, .int .u64 0, .int .u64 0], .int .i64 1]) (by simp [results, Tryd.results45, go_sem, k0, k1, k2, hz]) rfl
        ⟨rfl, (((((Below.refl _ _).alloc (Nat.le_refl _) _).trans (bb.mono (by omega))).setCell (by simp) _).setCell (by simp) _).setCell (by simp) _⟩
end Go.Proofs.YtnadfacbfcdkgaaDoor
