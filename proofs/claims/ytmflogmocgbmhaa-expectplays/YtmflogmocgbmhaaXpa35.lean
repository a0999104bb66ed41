/- Texts joined: XpX -/
import Derived.Test.YtmflogmocgbmhaaXpa34
namespace Go.Proofs.Ytmflogmocgbmhaa
abbrev xpa35o0 : Oper := { dst := none, op := Op.store 39 (.tmp 44) (.tmp 42), type := 0, pos := "ref.go:93", after := #[{ on := 17, ground := Ground.data }, { on := 15, ground := Ground.data }, { on := 15, ground := Ground.chain }, { on := 0, ground := Ground.phase }, { on := 1, ground := Ground.phase }, { on := 2, ground := Ground.phase }, { on := 3, ground := Ground.phase }, { on := 4, ground := Ground.phase }, { on := 5, ground := Ground.phase }, { on := 6, ground := Ground.phase }, { on := 7, ground := Ground.phase }, { on := 8, ground := Ground.phase }, { on := 9, ground := Ground.phase }, { on := 10, ground := Ground.phase }, { on := 11, ground := Ground.phase }, { on := 12, ground := Ground.phase }, { on := 13, ground := Ground.phase }, { on := 14, ground := Ground.phase }, { on := 15, ground := Ground.phase }], guard := none }
abbrev xpa35o1 : Oper := { dst := some 44, op := Op.fieldAddr 41 (.tmp 43) 3, type := 0, pos := "ref.go:93", after := #[{ on := 16, ground := Ground.data }, { on := 0, ground := Ground.phase }, { on := 1, ground := Ground.phase }, { on := 2, ground := Ground.phase }, { on := 3, ground := Ground.phase }, { on := 4, ground := Ground.phase }, { on := 5, ground := Ground.phase }, { on := 6, ground := Ground.phase }, { on := 7, ground := Ground.phase }, { on := 8, ground := Ground.phase }, { on := 9, ground := Ground.phase }, { on := 10, ground := Ground.phase }, { on := 11, ground := Ground.phase }, { on := 12, ground := Ground.phase }, { on := 13, ground := Ground.phase }, { on := 14, ground := Ground.phase }, { on := 15, ground := Ground.phase }], guard := none }
abbrev xpa35o2 : Oper := { dst := some 43, op := Op.nilCheck (.tmp 27), type := 0, pos := "ref.go:93", after := #[{ on := 0, ground := Ground.data }, { on := 0, ground := Ground.phase }, { on := 1, ground := Ground.phase }, { on := 2, ground := Ground.phase }, { on := 3, ground := Ground.phase }, { on := 4, ground := Ground.phase }, { on := 5, ground := Ground.phase }, { on := 6, ground := Ground.phase }, { on := 7, ground := Ground.phase }, { on := 8, ground := Ground.phase }, { on := 9, ground := Ground.phase }, { on := 10, ground := Ground.phase }, { on := 11, ground := Ground.phase }, { on := 12, ground := Ground.phase }, { on := 13, ground := Ground.phase }, { on := 14, ground := Ground.phase }, { on := 15, ground := Ground.phase }], guard := none }
abbrev xpa35o3 : Oper := { dst := some 42, op := Op.call { callee := Callee.builtin Builtin.append, args := #[.tmp 34, .tmp 41], argTypes := #[39, 39] }, type := 39, pos := "ref.go:93", after := #[{ on := 7, ground := Ground.data }, { on := 14, ground := Ground.data }, { on := 7, ground := Ground.chain }], guard := none }
abbrev xpa35o4 : Oper := { dst := some 34, op := Op.call { callee := Callee.builtin Builtin.append, args := #[.const (Value.slice none 0 0), .tmp 33], argTypes := #[39, 39] }, type := 39, pos := "ref.go:93", after := #[{ on := 6, ground := Ground.data }], guard := none }
abbrev xpa35o5 : Oper := { dst := some 41, op := Op.slice 39 (.tmp 38) (some (.tmp 40)) none none, type := 39, pos := "ref.go:93", after := #[{ on := 11, ground := Ground.data }, { on := 13, ground := Ground.data }], guard := none }
abbrev xpa35o6 : Oper := { dst := some 38, op := Op.load 39 (.tmp 37), type := 39, pos := "ref.go:93", after := #[{ on := 10, ground := Ground.data }], guard := none }
abbrev xpa35o7 : Oper := { dst := some 33, op := Op.slice 39 (.tmp 31) none (some (.tmp 32)) none, type := 39, pos := "ref.go:93", after := #[{ on := 4, ground := Ground.data }, { on := 5, ground := Ground.data }], guard := none }
abbrev xpa35o8 : Oper := { dst := some 31, op := Op.load 39 (.tmp 30), type := 39, pos := "ref.go:93", after := #[{ on := 3, ground := Ground.data }], guard := none }
end Go.Proofs.Ytmflogmocgbmhaa
namespace Go.Proofs.Ytmflogmocgbmhaa
open Go.RowKit
set_option linter.unusedVariables false
set_option linter.unusedSimpArgs false
theorem yieldsIf_slice {ops : Array Oper} {S : World → Prop} {o : Oper} {ac : Act} (hgd : o.guard = none) (t : TypeId) (x : Operand) (lo hi mx : Option Operand) (ho : o.op = Op.slice t x lo hi mx)
    (v : Value) (l h m : Option Value) (hx : ac.eval x = v) (hl : lo.map ac.eval = l) (hh : hi.map ac.eval = h) (hm : mx.map ac.eval = m) (r : Value) (hrun : ∀ w, (Instr.sliceAt t v l h m).run Try.prog w = .ok r w) : YieldsIf Try.prog ops S o r ac := by
  refine .inl ⟨by simp [Region.wanted, hgd], fun w _ => ?_⟩
  subst hx hl hh hm
  unfold execOp
  simp only [ho]
  simp [hrun, Result.andThen]
/-- Where x[k:] of a slice with places lies. -/
def subP (p o c k : Nat) : Option Addr := if c = k then some ⟨p, o, none⟩ else some ⟨p, o + k * 22, none⟩
theorem run_from (p o n c k : Nat) (lo : Int) (hlo : lo = (k : Int)) (hk : k ≤ n) (w : World) : (Instr.sliceAt 39 (.slice (some ⟨p, o, none⟩) n c) (some (.int .i64 lo)) none none).run Try.prog w = .ok (.slice (subP p o c k) (n - k) (c - k)) w := by
  have hu : Try.prog.underlying 39 = some (.slice (Try.prog.elem 39)) := by kernel_rfl
  have hs : (sizeOf (Try.prog.elem 39)).run Try.prog w = .ok 22 w := by kernel_rfl
  subst hlo
  rw [run_sliceAt_slice _ _ _ _ _ _ hu, run_slice_l _ _ _ _ _ hu .i64 (k : Int) (by omega) (by omega), hs]
  show Result.ok _ _ = _
  unfold sliced subP
  simp only [Int.toNat_natCast]
  by_cases h : c = k
  · rw [if_pos h, if_pos h]
  · rw [if_neg h, if_neg h]
    show Result.ok (Value.slice (some ((⟨p, o, none⟩ : Addr).add (k * 22))) (n - k) (c - k)) w = _
    rw [Go.WideShapes.add_plain]
theorem run_upto (p o n c k : Nat) (hk : k ≤ c) (w : World) : (Instr.sliceAt 39 (.slice (some ⟨p, o, none⟩) n c) none (some (.int .i64 (k : Int))) none).run Try.prog w = .ok (.slice (some ⟨p, o, none⟩) k c) w := by
  have hu : Try.prog.underlying 39 = some (.slice (Try.prog.elem 39)) := by kernel_rfl
  have hs : (sizeOf (Try.prog.elem 39)).run Try.prog w = .ok 22 w := by kernel_rfl
  rw [run_sliceAt_slice _ _ _ _ _ _ hu, run_slice_h _ _ _ _ _ hu .i64 (k : Int) (by omega) (by omega), hs]
  show Result.ok _ _ = _
  unfold sliced
  simp only [Int.toNat_natCast, Nat.sub_zero, Nat.zero_mul]
  by_cases h : c = 0
  · rw [if_pos h]
  · rw [if_neg h]
    rfl
theorem RowE.from_ {w : World} {p o c : Nat} {L : List Wt} (h : RowE w (some ⟨p, o, none⟩) c L) (k : Nat) (hk : k ≤ L.length) : RowE w (subP p o c k) (c - k) (L.drop k) := by
  unfold subP
  split
  · have hl := h.le
    have e : L.drop k = [] := List.drop_eq_nil_of_le (by omega)
    rw [e]
    exact ⟨⟨fun _ _ => trivial, fun i q hi => by simp at hi⟩, h.lt, Nat.zero_le _, fun e => by cases e⟩
  · exact h.drop k hk
set_option maxRecDepth 100000 in
set_option maxHeartbeats 16000000 in
theorem rtake_xp (rb : Nat) (s : Xt) (a : Option Addr) (c : Nat) (x : Wy) (w : World) (hXK : XtOk s) (hx : x.ok) (hll : s.L.length ≤ 100000) (H : DocO w rb s a c) :
    Calls Try.prog 36 #[.pointer (some ⟨rb, 0, none⟩), .agg x.v] w fun e w' => e = .returned (.tuple #[.agg (s.take x).2.1.v, .bool (s.take x).2.2]) ∧ DocN w.heap.size a w' rb (s.take x).1 ∧ But (fun k => k = rb) w w' := by
  have HXK : Hid (XtOk s) := hXK
  clear hXK
  have T := H.tab
  have E := H.row
  have hne := H.ne
  have hgl := T.lt
  have hal := E.lt
  have nET : ∀ y : Addr, a = some y → y.block ≠ rb := hne
  clear H
  obtain ⟨R, hR⟩ : ∃ R, s.take x = R := ⟨_, rfl⟩
  have HR : Hid (s.take x = R) := hR
  try rw [hR]
  clear hR
  have b := But.refl (fun k => k = rb) w
  go_enter Try.func36, Try.ntmps36
  obtain ⟨Wm1, hWm1⟩ : ∃ W, w.alloc (.cells x.v 26) = W := ⟨_, rfl⟩
  have bm1 := but_al b hWm1
  have Tm1 := T.al hWm1
  have Em1 := E.al hWm1
  have Am1 := blk_nw hWm1
  have gA : (fun k => k = rb) w.heap.size ∨ w.heap.size ≤ w.heap.size := .inr b.size
  have nTA : rb ≠ w.heap.size := by have := T.lt; omega
  have nAT : w.heap.size ≠ rb := fun e => nTA e.symm
  have nEA : ∀ y : Addr, a = some y → y.block ≠ w.heap.size := fun y hy => by have := E.lt y hy; omega
  obtain ⟨Wm2, hWm2⟩ : ∃ W, Wm1.alloc (.cells #[.int .i64 0, .int .i64 0, .int .i64 0, .int .u64 0, .int .u64 0, .int .i64 0, .int .u64 0, .int .u64 0, .int .i64 0, .int .i64 0, .int .i64 0, .int .i64 0, .int .i64 0, .int .u64 0, .int .u64 0, .int .i64 0, .int .u64 0, .int .u64 0, .int .i64 0, .int .i64 0, .int .i64 0, .int .i64 0] 28) = W := ⟨_, rfl⟩
  have bm2 := but_al bm1 hWm2
  have Tm2 := Tm1.al hWm2
  have Em2 := Em1.al hWm2
  have Am2 := Am1.al hWm2
  have Bm2 := blk_nw hWm2
  have gB : (fun k => k = rb) Wm1.heap.size ∨ w.heap.size ≤ Wm1.heap.size := .inr bm1.size
  have nTB : rb ≠ Wm1.heap.size := by have := Tm1.lt; omega
  have nBT : Wm1.heap.size ≠ rb := fun e => nTB e.symm
  have nEB : ∀ y : Addr, a = some y → y.block ≠ Wm1.heap.size := fun y hy => by have := Em1.lt y hy; omega
  have nAB : w.heap.size ≠ Wm1.heap.size := by have := Am1.lt; omega
  have nBA : Wm1.heap.size ≠ w.heap.size := fun e => nAB e.symm
  go_wp2_with fail
  go_loopw [6] (fun i wr => ∃ k : Nat, k ≤ s.L.length ∧ i = .int .i64 k ∧ Hid (∀ j q, j < k → s.L[j]? = some q → Wt.waits q x = false) ∧ Blk wr rb 41 #[.int .i64 s.most, .int .i64 s.quota, .int .i64 s.now, .slice a s.L.length c] ∧ RowE wr a c s.L ∧ Blk wr w.heap.size 26 x.v ∧ Blk wr Wm1.heap.size 28 #[.int .i64 0, .int .i64 0, .int .i64 0, .int .u64 0, .int .u64 0, .int .i64 0, .int .u64 0, .int .u64 0, .int .i64 0, .int .i64 0, .int .i64 0, .int .i64 0, .int .i64 0, .int .u64 0, .int .u64 0, .int .i64 0, .int .u64 0, .int .u64 0, .int .i64 0, .int .i64 0, .int .i64 0, .int .i64 0] ∧ But (fun k => k = rb) w wr) (fun i _ => s.L.length - (intOf i).toNat)
  case atStart => exact ⟨0, Nat.zero_le _, rfl, fun j q hj => absurd hj (Nat.not_lt_zero _), Tm2, Em2, Am2, Bm2, bm2⟩
  case round =>
    obtain ⟨k, hk, rfl, HB, Tr, Er, Ar, Br, br⟩ := hrel
    obtain ⟨Wr, rfl⟩ : ∃ W, W = wr := ⟨_, rfl⟩
    have in0 : (0 : Int) ≤ (k : Int) := by omega
    by_cases hlt : k < s.L.length
    · have ik : (k : Int) < (s.L.length : Int) := by omega
      have ik' : decide ((k : Int) < (s.L.length : Int)) = true := by simpa using ik
      obtain ⟨q, hx⟩ : ∃ q, s.L[k]? = some q := ⟨_, List.getElem?_eq_getElem hlt⟩
      have HX : Hid (s.L[k]? = some q) := hx
      have hqo : q.ok := (HXK.out.each q (List.mem_of_getElem? hx)).2.2
      obtain ⟨p2, off2, rfl, hcells⟩ := Er.row.cells k q hx
      have hcb := Er.at_ HX.out
      have hltk : (s.L.take k).length = k := by rw [List.length_take]; omega
      have hldk : (s.L.drop (k + 1)).length = s.L.length - (k + 1) := List.length_drop
      have hkc : k ≤ c := by have := Er.le; omega
      have hk1 : ((k + 1 : Nat) : Int) = (k : Int) + 1 := by omega
      clear hcells hx
      have c3 := Tr.cell 3 (.slice (some ⟨p2, off2, none⟩) s.L.length c) rfl
      obtain ⟨Wm4, hWm4⟩ : ∃ W, Wr.alloc (.cells #[.int .i64 0, .int .i64 0, .int .i64 0, .int .u64 0, .int .u64 0, .int .i64 0, .int .u64 0, .int .u64 0, .int .i64 0, .int .i64 0, .int .i64 0, .int .i64 0, .int .i64 0, .int .u64 0, .int .u64 0, .int .i64 0, .int .u64 0, .int .u64 0, .int .i64 0, .int .i64 0, .int .i64 0, .int .i64 0] 28) = W := ⟨_, rfl⟩
      have bm4 := but_al br hWm4
      have Tm4 := Tr.al hWm4
      have Em4 := Er.al hWm4
      have Am4 := Ar.al hWm4
      have Bm4 := Br.al hWm4
      have Cm4 := blk_nw hWm4
      have gC : (fun k => k = rb) Wr.heap.size ∨ w.heap.size ≤ Wr.heap.size := .inr br.size
      have nTC : rb ≠ Wr.heap.size := by have := Tr.lt; omega
      have nCT : Wr.heap.size ≠ rb := fun e => nTC e.symm
      have nEC : ∀ y : Addr, (some ⟨p2, off2, none⟩) = some y → y.block ≠ Wr.heap.size := fun y hy => by have := Er.lt y hy; omega
      have nAC : w.heap.size ≠ Wr.heap.size := by have := Ar.lt; omega
      have nCA : Wr.heap.size ≠ w.heap.size := fun e => nAC e.symm
      have nBC : Wm1.heap.size ≠ Wr.heap.size := by have := Br.lt; omega
      have nCB : Wr.heap.size ≠ Wm1.heap.size := fun e => nBC e.symm
      obtain ⟨Wm5, hWm5⟩ : ∃ W, Wm4.setRow Wr.heap.size q.v = W := ⟨_, rfl⟩
      have Cm5 : Blk Wm5 Wr.heap.size 28 q.v := hWm5 ▸ Cm4.set q.v
      have Tm5 := hWm5 ▸ Tm4.other nTC q.v
      have Em5 := hWm5 ▸ Em4.other nEC q.v
      have Am5 := hWm5 ▸ Am4.other nAC q.v
      have Bm5 := hWm5 ▸ Bm4.other nBC q.v
      have bm5 := hWm5 ▸ but_setRow bm4 gC q.v
      go_wp2_with (first | (refine wpList_load_at_w (by rfl) _ _ rfl p2 (off2 + k * 22) (by rfl) _ hcb Try.underlying28 (by kernel_rfl) ?_) | (refine wpList_store_row rfl _ _ _ rfl Wr.heap.size q.v (by rfl) (by rfl) _ _ Cm4 (by kernel_rfl) (by rfl) (by kernel_rfl) ?_; rw [hWm5]) | (refine wpList_load_blk_w (by rfl) _ _ rfl Wr.heap.size (by rfl) _ Cm5 Try.underlying28 (by kernel_rfl) ?_) | (refine wpList_load_blk_w (by rfl) _ _ rfl w.heap.size (by rfl) _ Am5 Try.underlying26 (by kernel_rfl) ?_))
      clear c3
      refine Calls.mono (rwaits_xp q x _ (by first | assumption | exact hok) (by first | assumption | exact hokx)) ?_
      rintro e Wm6 ⟨rfl, bb⟩
      have Tm6 := Tm5.kept bb
      have Em6 := Em5.kept bb
      have Am6 := Am5.kept bb
      have Bm6 := Bm5.kept bb
      have Cm6 := Cm5.kept bb
      have bm6 := bm5.below bb
      clear bb
      clear Tm5 Em5 Am5 Bm5 Cm5 bm5
      cases hq7 : (Wt.waits q x) with
      | false =>
        go_wp2_with fail
        refine ⟨⟨k + 1, by omega, by go_num, fun j p hj hf => ?_, Tm6, Em6, Am6, Bm6, bm6⟩, by simp [intOf]; omega⟩
        rcases Nat.lt_succ_iff_lt_or_eq.1 hj with h | rfl
        · exact HB.out j p h hf
        · rw [HX.out] at hf
          cases hf
          assumption

      | true =>
        go_wp2_with fail
        obtain ⟨Wdq8, hWdq8⟩ : ∃ W, Wm6.drew = W := ⟨_, rfl⟩
        have Tdq8 := hWdq8 ▸ Tm6.drew
        have Edq8 := hWdq8 ▸ Em6.drew
        have Adq8 := hWdq8 ▸ Am6.drew
        have Bdq8 := hWdq8 ▸ Bm6.drew
        have Cdq8 := hWdq8 ▸ Cm6.drew
        have bdq8 := hWdq8 ▸ bm6.drew
        refine wp_region_noPanic ?_
        refine wp_region_held_drew (S := fun w' => RowE w' (some ⟨p2, off2, none⟩) c s.L ∧ Blk w' w.heap.size 26 x.v ∧ Blk w' Wm1.heap.size 28 #[.int .i64 0, .int .i64 0, .int .i64 0, .int .u64 0, .int .u64 0, .int .i64 0, .int .u64 0, .int .u64 0, .int .i64 0, .int .i64 0, .int .i64 0, .int .i64 0, .int .i64 0, .int .u64 0, .int .u64 0, .int .i64 0, .int .u64 0, .int .u64 0, .int .i64 0, .int .i64 0, .int .i64 0, .int .i64 0] ∧ Blk w' Wr.heap.size 28 q.v) (by kernel_rfl) (by rw [hWdq8]; exact ⟨Edq8, Adq8, Bdq8, Cdq8⟩) (fun hHeld => ?_)
        rw [hWdq8] at hHeld ⊢
        refine qtk (i := 0) (oi := { dst := some 27, op := Op.move (.tmp 0), type := 47, pos := "ref.go:93", after := #[], guard := none }) (v := (.pointer (some ⟨rb, 0, none⟩))) hHeld ?_ ?_
        · intro w9 hSw
          try dsimp only at hSw
          go_simp
        try simp only [qpu]
        refine qtk (i := 1) (oi := { dst := some 28, op := Op.move (.tmp 0), type := 47, pos := "ref.go:93", after := #[], guard := none }) (v := (.pointer (some ⟨rb, 0, none⟩))) hHeld ?_ ?_
        · intro w9 hSw
          try dsimp only at hSw
          go_simp
        try simp only [qpu]
        refine qtk (i := 2) (oi := { dst := some 29, op := Op.nilCheck (.tmp 28), type := 0, pos := "ref.go:93", after := #[{ on := 1, ground := Ground.data }], guard := none }) (v := (.pointer (some ⟨rb, 0, none⟩))) hHeld ?_ ?_
        · intro w9 hSw
          try dsimp only at hSw
          go_simp
        try simp only [qpu]
        refine qtk (i := 3) (oi := { dst := some 30, op := Op.fieldAddr 41 (.tmp 29) 3, type := 0, pos := "ref.go:93", after := #[{ on := 2, ground := Ground.data }], guard := none }) (v := (.pointer (some ⟨rb, 3, none⟩))) hHeld ?_ ?_
        · intro w9 hSw
          try dsimp only at hSw
          go_simp
        try simp only [qpu]
        refine qtk (i := 5) (oi := { dst := some 32, op := Op.move (.tmp 6), type := 3, pos := "ref.go:93", after := #[], guard := none }) (v := (.int .i64 (k : Int))) hHeld ?_ ?_
        · intro w9 hSw
          try dsimp only at hSw
          go_simp
        try simp only [qpu]
        refine qtk (i := 8) (oi := { dst := some 35, op := Op.move (.tmp 0), type := 47, pos := "ref.go:93", after := #[], guard := none }) (v := (.pointer (some ⟨rb, 0, none⟩))) hHeld ?_ ?_
        · intro w9 hSw
          try dsimp only at hSw
          go_simp
        try simp only [qpu]
        refine qtk (i := 9) (oi := { dst := some 36, op := Op.nilCheck (.tmp 35), type := 0, pos := "ref.go:93", after := #[{ on := 8, ground := Ground.data }], guard := none }) (v := (.pointer (some ⟨rb, 0, none⟩))) hHeld ?_ ?_
        · intro w9 hSw
          try dsimp only at hSw
          go_simp
        try simp only [qpu]
        refine qtk (i := 10) (oi := { dst := some 37, op := Op.fieldAddr 41 (.tmp 36) 3, type := 0, pos := "ref.go:93", after := #[{ on := 9, ground := Ground.data }], guard := none }) (v := (.pointer (some ⟨rb, 3, none⟩))) hHeld ?_ ?_
        · intro w9 hSw
          try dsimp only at hSw
          go_simp
        try simp only [qpu]
        refine qtk (i := 12) (oi := { dst := some 39, op := Op.move (.tmp 6), type := 3, pos := "ref.go:93", after := #[], guard := none }) (v := (.int .i64 (k : Int))) hHeld ?_ ?_
        · intro w9 hSw
          try dsimp only at hSw
          go_simp
        try simp only [qpu]
        refine qtk (i := 13) (oi := { dst := some 40, op := Op.binOp BinOp.add 3 (.tmp 39) (.const (.int .i64 1)) 3, type := 3, pos := "ref.go:93", after := #[{ on := 12, ground := Ground.data }], guard := none }) (v := (.int .i64 ((k : Int) + 1))) hHeld ?_ ?_
        · intro w9 hSw
          try dsimp only at hSw
          go_simp
          try decide
          try (rw [IntKind.wrap_i64]; omega)
        try simp only [qpu]
        refine wpAnyH_ready (rs := [4, 11]) (by kernel_rfl) (by simp) ?_
        refine AllReadyH.cons (o := xpa35o8) rfl (fun K hK => ?_) (AllReadyH.cons (o := xpa35o6) rfl (fun K hK => ?_) AllReadyH.nil)
        · have cld := Tdq8.cell 3 (.slice (some ⟨p2, off2, none⟩) s.L.length c) rfl
          go_simp
          clear cld
          refine hK.out _ _ (by exact ⟨Edq8, Adq8, Bdq8, Cdq8⟩) (fun hHeld => ?_)
          clear hK K
          try simp only [qpu]
          refine qty (i := 6) (oi := xpa35o7) (v := (.slice (some ⟨p2, off2, none⟩) k c)) (yieldsIf_slice rfl _ _ _ _ _ rfl _ _ _ _ (by rfl) (by rfl) (by rfl) (by rfl) _ (run_upto p2 off2 s.L.length c k hkc)) hHeld ?_
          try simp only [qpu]
          refine wpAnyH_ready (rs := [7, 11]) (by kernel_rfl) (by simp) ?_
          refine AllReadyH.cons (o := xpa35o4) rfl (fun K hK => ?_) (AllReadyH.cons (o := xpa35o6) rfl (fun K hK => ?_) AllReadyH.nil)
          · obtain ⟨a8, c8, Wp9, hrun, Op9, gr⟩ := run_appWs Wdq8 39 Wdq8.heap.size none 0 [] (own_noneW _ _) (some ⟨p2, off2, none⟩) c (s.L.take k) (Edq8.take k) (by simp; omega) (Nat.le_refl _)
            have hl0 : ([] ++ s.L.take k).length = k := by simpa using hltk
            rw [hl0] at hrun
            try rw [hltk] at hrun
            refine step_rnW rfl _ _ _ rfl _ _ (by rfl) (by rfl) _ _ hrun ?_
            have bg : But (fun _ => False) Wdq8 Wp9 := (But.refl _ _).grown gr (fun n hn => by cases hn)
            have bp9 := bdq8.trans bg (fun n _ e => e.elim)
            obtain ⟨B8, hB8⟩ : ∃ B, Wdq8.heap.size = B := ⟨_, rfl⟩
            rw [hB8] at Op9
            have hw8 : w.heap.size ≤ B8 := by rw [← hB8]; exact bdq8.size
            have hlE : ∀ y : Addr, (some ⟨p2, off2, none⟩) = some y → y.block < B8 := by rw [← hB8]; exact Edq8.lt
            have Ep9 := Edq8.but bg (fun _ _ h => h)
            have hlA : w.heap.size < B8 := by rw [← hB8]; exact Adq8.lt
            have Ap9 := Adq8.but bg (fun h => h)
            have hlB : Wm1.heap.size < B8 := by rw [← hB8]; exact Bdq8.lt
            have Bp9 := Bdq8.but bg (fun h => h)
            have hlC : Wr.heap.size < B8 := by rw [← hB8]; exact Cdq8.lt
            have Cp9 := Cdq8.but bg (fun h => h)
            have hlT : rb < B8 := by rw [← hB8]; exact Tdq8.lt
            have Tp9 := Tdq8.but bg (fun h => h)
            have hsz8 : B8 ≤ Wp9.heap.size := by rw [← hB8]; exact bg.size
            clear hrun gr bg hB8
            refine hK.out _ _ (by exact ⟨Ep9, Ap9, Bp9, Cp9⟩) (fun hHeld => ?_)
            clear hK K
            try simp only [qpu]
            refine wpAnyH_ready (rs := [11]) (by kernel_rfl) (by simp) ?_
            refine AllReadyH.cons (o := xpa35o6) rfl (fun K hK => ?_) AllReadyH.nil
            have cld := Tp9.cell 3 (.slice (some ⟨p2, off2, none⟩) s.L.length c) rfl
            go_simp
            clear cld
            refine hK.out _ _ (by exact ⟨Ep9, Ap9, Bp9, Cp9⟩) (fun hHeld => ?_)
            clear hK K
            try simp only [qpu]
            refine qty (i := 14) (oi := xpa35o5) (v := (.slice (subP p2 off2 c (k + 1)) (s.L.length - (k + 1)) (c - (k + 1)))) (yieldsIf_slice rfl _ _ _ _ _ rfl _ _ _ _ (by rfl) (by rfl) (by rfl) (by rfl) _ (run_from p2 off2 s.L.length c (k + 1) ((k : Int) + 1) (by omega) hlt)) hHeld ?_
            try simp only [qpu]
            refine wpAnyH_ready (rs := [15]) (by kernel_rfl) (by simp) ?_
            refine AllReadyH.cons (o := xpa35o3) rfl (fun K hK => ?_) AllReadyH.nil
            obtain ⟨a9, c9, Wp10, hrun, Op10, gr⟩ := run_appWs Wp9 39 B8 a8 c8 ([] ++ s.L.take k) Op9 (subP p2 off2 c (k + 1)) (c - (k + 1)) (s.L.drop (k + 1)) (Ep9.from_ (k + 1) hlt) (by simp; omega) hsz8
            rw [hl0, hldk] at hrun
            refine step_rnW rfl _ _ _ rfl _ _ (by rfl) (by rfl) _ _ hrun ?_
            have bg : But (fun k => a8.map (·.block) = some k) Wp9 Wp10 := (But.refl _ _).grown gr (fun n hn => .inl hn)
            have hga : ∀ y, a9 = some y → B8 ≤ y.block := Op10.lt
            have bp10 : But (fun k => k = rb) w Wp10 := bp9.trans bg (fun n hn e => absurd e (map_geW Op9.lt (Nat.lt_of_lt_of_le hn hw8)))
            have Ep10 := Ep9.but bg (fun y hy => map_geW Op9.lt (hlE y hy))
            have Ap10 := Ap9.but bg (map_geW Op9.lt hlA)
            have nOA : ∀ y : Addr, a9 = some y → y.block ≠ w.heap.size := fun y hy => by have := hga y hy; have := hlA; omega
            have Bp10 := Bp9.but bg (map_geW Op9.lt hlB)
            have nOB : ∀ y : Addr, a9 = some y → y.block ≠ Wm1.heap.size := fun y hy => by have := hga y hy; have := hlB; omega
            have Cp10 := Cp9.but bg (map_geW Op9.lt hlC)
            have nOC : ∀ y : Addr, a9 = some y → y.block ≠ Wr.heap.size := fun y hy => by have := hga y hy; have := hlC; omega
            have Tp10 := Tp9.but bg (map_geW Op9.lt hlT)
            have nOT : ∀ y : Addr, a9 = some y → y.block ≠ rb := fun y hy => by have := hga y hy; have := hlT; omega
            clear hrun gr bg
            refine hK.out _ _ (by exact ⟨Ep10, Ap10, Bp10, Cp10⟩) (fun hHeld => ?_)
            clear hK K
            try simp only [qpu]
            refine qtk (i := 16) (oi := xpa35o2) (v := (.pointer (some ⟨rb, 0, none⟩))) hHeld ?_ ?_
            · intro w9 hSw
              try dsimp only at hSw
              go_simp
            try simp only [qpu]
            refine qtk (i := 17) (oi := xpa35o1) (v := (.pointer (some ⟨rb, 3, none⟩))) hHeld ?_ ?_
            · intro w9 hSw
              try dsimp only at hSw
              go_simp
            try simp only [qpu]
            refine wpAnyH_ready (rs := [18]) (by kernel_rfl) (by simp) ?_
            refine AllReadyH.cons (o := xpa35o0) rfl (fun K hK => ?_) AllReadyH.nil
            refine step_store_one rfl _ _ _ rfl rb 3 _ (.slice a9 ([] ++ s.L.take k ++ s.L.drop (k + 1)).length c9) #[.int .i64 s.most, .int .i64 s.quota, .int .i64 s.now, .slice (some ⟨p2, off2, none⟩) s.L.length c] #[.int .i64 s.most, .int .i64 s.quota, .int .i64 s.now, .slice a9 ([] ++ s.L.take k ++ s.L.drop (k + 1)).length c9] (by rfl) (by rfl) rfl rfl Tp10 (by kernel_rfl) (by simp) (by rfl) ?_
            obtain ⟨Wx11, hWx11⟩ : ∃ W, Wp10.setRow rb #[.int .i64 s.most, .int .i64 s.quota, .int .i64 s.now, .slice a9 ([] ++ s.L.take k ++ s.L.drop (k + 1)).length c9] = W := ⟨_, rfl⟩
            rw [hWx11]
            have Tx11 : Blk Wx11 rb 41 #[.int .i64 s.most, .int .i64 s.quota, .int .i64 s.now, .slice a9 ([] ++ s.L.take k ++ s.L.drop (k + 1)).length c9] := hWx11 ▸ Tp10.set #[.int .i64 s.most, .int .i64 s.quota, .int .i64 s.now, .slice a9 ([] ++ s.L.take k ++ s.L.drop (k + 1)).length c9]
            have Ex11 := hWx11 ▸ Ep10.other nET #[.int .i64 s.most, .int .i64 s.quota, .int .i64 s.now, .slice a9 ([] ++ s.L.take k ++ s.L.drop (k + 1)).length c9]
            have Ax11 := hWx11 ▸ Ap10.other nAT #[.int .i64 s.most, .int .i64 s.quota, .int .i64 s.now, .slice a9 ([] ++ s.L.take k ++ s.L.drop (k + 1)).length c9]
            have Bx11 := hWx11 ▸ Bp10.other nBT #[.int .i64 s.most, .int .i64 s.quota, .int .i64 s.now, .slice a9 ([] ++ s.L.take k ++ s.L.drop (k + 1)).length c9]
            have Cx11 := hWx11 ▸ Cp10.other nCT #[.int .i64 s.most, .int .i64 s.quota, .int .i64 s.now, .slice a9 ([] ++ s.L.take k ++ s.L.drop (k + 1)).length c9]
            have Ox11 := hWx11 ▸ Op10.other (fun y hy => by have := Op10.lt y hy; have := hlT; omega) #[.int .i64 s.most, .int .i64 s.quota, .int .i64 s.now, .slice a9 ([] ++ s.L.take k ++ s.L.drop (k + 1)).length c9]
            have bx11 := hWx11 ▸ bp10.setRow rb (.inl rfl) #[.int .i64 s.most, .int .i64 s.quota, .int .i64 s.now, .slice a9 ([] ++ s.L.take k ++ s.L.drop (k + 1)).length c9]
            refine hK.out _ _ (by exact ⟨Ex11, Ax11, Bx11, Cx11⟩) (fun hHeld => ?_)
            clear hK K
            try simp only [qpu]
            refine wpAnyH_done (by kernel_rfl) ?_ _
            refine NoPanic.normal ?_
            obtain ⟨Wm12, hWm12⟩ : ∃ W, Wx11.setRow Wm1.heap.size q.v = W := ⟨_, rfl⟩
            have Bm12 : Blk Wm12 Wm1.heap.size 28 q.v := hWm12 ▸ Bx11.set q.v
            have Tm12 := hWm12 ▸ Tx11.other nTB q.v
            have Em12 := hWm12 ▸ Ex11.other nEB q.v
            have Am12 := hWm12 ▸ Ax11.other nAB q.v
            have Cm12 := hWm12 ▸ Cx11.other nCB q.v
            have Om12 := hWm12 ▸ Ox11.other nOB q.v
            have bm12 := hWm12 ▸ but_setRow bx11 gB q.v
            go_wp2_with (first | (refine wpList_load_blk_w (by rfl) _ _ rfl Wr.heap.size (by rfl) _ Cx11 Try.underlying28 (by kernel_rfl) ?_) | (refine wpList_store_row rfl _ _ _ rfl Wm1.heap.size q.v (by rfl) (by rfl) _ _ Bx11 (by kernel_rfl) (by rfl) (by kernel_rfl) ?_; rw [hWm12]))
            have hR2 : R = (((⟨s.most, s.quota, s.now, s.L.take k ++ s.L.drop (k + 1)⟩, q, true) : Xt × Wt × Bool)) := by rw [← HR.out]; exact take_erase HXK.out (wait_at HX.out (by assumption) HB.out) HX.out
            subst hR2
            exact ret_cell_tmp (k := 4) (j := 5) Try.f36 (by kernel_rfl) Bm12 Try.underlying28 (by kernel_rfl) (by rfl) (by rfl) rfl ⟨rfl, ⟨a9, c9, ⟨Tm12, Om12.toE, (fun y hy => by have := hga y hy; have := hlT; omega)⟩, (fun y hy => .inr (Nat.le_trans hw8 (hga y hy)))⟩, bm12⟩
          · have cld := Tdq8.cell 3 (.slice (some ⟨p2, off2, none⟩) s.L.length c) rfl
            go_simp
            clear cld
            refine hK.out _ _ (by exact ⟨Edq8, Adq8, Bdq8, Cdq8⟩) (fun hHeld => ?_)
            clear hK K
            try simp only [qpu]
            refine qty (i := 14) (oi := xpa35o5) (v := (.slice (subP p2 off2 c (k + 1)) (s.L.length - (k + 1)) (c - (k + 1)))) (yieldsIf_slice rfl _ _ _ _ _ rfl _ _ _ _ (by rfl) (by rfl) (by rfl) (by rfl) _ (run_from p2 off2 s.L.length c (k + 1) ((k : Int) + 1) (by omega) hlt)) hHeld ?_
            try simp only [qpu]
            refine wpAnyH_ready (rs := [7]) (by kernel_rfl) (by simp) ?_
            refine AllReadyH.cons (o := xpa35o4) rfl (fun K hK => ?_) AllReadyH.nil
            obtain ⟨a8, c8, Wp13, hrun, Op13, gr⟩ := run_appWs Wdq8 39 Wdq8.heap.size none 0 [] (own_noneW _ _) (some ⟨p2, off2, none⟩) c (s.L.take k) (Edq8.take k) (by simp; omega) (Nat.le_refl _)
            have hl0 : ([] ++ s.L.take k).length = k := by simpa using hltk
            rw [hl0] at hrun
            try rw [hltk] at hrun
            refine step_rnW rfl _ _ _ rfl _ _ (by rfl) (by rfl) _ _ hrun ?_
            have bg : But (fun _ => False) Wdq8 Wp13 := (But.refl _ _).grown gr (fun n hn => by cases hn)
            have bp13 := bdq8.trans bg (fun n _ e => e.elim)
            obtain ⟨B8, hB8⟩ : ∃ B, Wdq8.heap.size = B := ⟨_, rfl⟩
            rw [hB8] at Op13
            have hw8 : w.heap.size ≤ B8 := by rw [← hB8]; exact bdq8.size
            have hlE : ∀ y : Addr, (some ⟨p2, off2, none⟩) = some y → y.block < B8 := by rw [← hB8]; exact Edq8.lt
            have Ep13 := Edq8.but bg (fun _ _ h => h)
            have hlA : w.heap.size < B8 := by rw [← hB8]; exact Adq8.lt
            have Ap13 := Adq8.but bg (fun h => h)
            have hlB : Wm1.heap.size < B8 := by rw [← hB8]; exact Bdq8.lt
            have Bp13 := Bdq8.but bg (fun h => h)
            have hlC : Wr.heap.size < B8 := by rw [← hB8]; exact Cdq8.lt
            have Cp13 := Cdq8.but bg (fun h => h)
            have hlT : rb < B8 := by rw [← hB8]; exact Tdq8.lt
            have Tp13 := Tdq8.but bg (fun h => h)
            have hsz8 : B8 ≤ Wp13.heap.size := by rw [← hB8]; exact bg.size
            clear hrun gr bg hB8
            refine hK.out _ _ (by exact ⟨Ep13, Ap13, Bp13, Cp13⟩) (fun hHeld => ?_)
            clear hK K
            try simp only [qpu]
            refine wpAnyH_ready (rs := [15]) (by kernel_rfl) (by simp) ?_
            refine AllReadyH.cons (o := xpa35o3) rfl (fun K hK => ?_) AllReadyH.nil
            obtain ⟨a9, c9, Wp14, hrun, Op14, gr⟩ := run_appWs Wp13 39 B8 a8 c8 ([] ++ s.L.take k) Op13 (subP p2 off2 c (k + 1)) (c - (k + 1)) (s.L.drop (k + 1)) (Ep13.from_ (k + 1) hlt) (by simp; omega) hsz8
            rw [hl0, hldk] at hrun
            refine step_rnW rfl _ _ _ rfl _ _ (by rfl) (by rfl) _ _ hrun ?_
            have bg : But (fun k => a8.map (·.block) = some k) Wp13 Wp14 := (But.refl _ _).grown gr (fun n hn => .inl hn)
            have hga : ∀ y, a9 = some y → B8 ≤ y.block := Op14.lt
            have bp14 : But (fun k => k = rb) w Wp14 := bp13.trans bg (fun n hn e => absurd e (map_geW Op13.lt (Nat.lt_of_lt_of_le hn hw8)))
            have Ep14 := Ep13.but bg (fun y hy => map_geW Op13.lt (hlE y hy))
            have Ap14 := Ap13.but bg (map_geW Op13.lt hlA)
            have nOA : ∀ y : Addr, a9 = some y → y.block ≠ w.heap.size := fun y hy => by have := hga y hy; have := hlA; omega
            have Bp14 := Bp13.but bg (map_geW Op13.lt hlB)
            have nOB : ∀ y : Addr, a9 = some y → y.block ≠ Wm1.heap.size := fun y hy => by have := hga y hy; have := hlB; omega
            have Cp14 := Cp13.but bg (map_geW Op13.lt hlC)
            have nOC : ∀ y : Addr, a9 = some y → y.block ≠ Wr.heap.size := fun y hy => by have := hga y hy; have := hlC; omega
            have Tp14 := Tp13.but bg (map_geW Op13.lt hlT)
            have nOT : ∀ y : Addr, a9 = some y → y.block ≠ rb := fun y hy => by have := hga y hy; have := hlT; omega
            clear hrun gr bg
            refine hK.out _ _ (by exact ⟨Ep14, Ap14, Bp14, Cp14⟩) (fun hHeld => ?_)
            clear hK K
            try simp only [qpu]
            refine qtk (i := 16) (oi := xpa35o2) (v := (.pointer (some ⟨rb, 0, none⟩))) hHeld ?_ ?_
            · intro w9 hSw
              try dsimp only at hSw
              go_simp
            try simp only [qpu]
            refine qtk (i := 17) (oi := xpa35o1) (v := (.pointer (some ⟨rb, 3, none⟩))) hHeld ?_ ?_
            · intro w9 hSw
              try dsimp only at hSw
              go_simp
            try simp only [qpu]
            refine wpAnyH_ready (rs := [18]) (by kernel_rfl) (by simp) ?_
            refine AllReadyH.cons (o := xpa35o0) rfl (fun K hK => ?_) AllReadyH.nil
            refine step_store_one rfl _ _ _ rfl rb 3 _ (.slice a9 ([] ++ s.L.take k ++ s.L.drop (k + 1)).length c9) #[.int .i64 s.most, .int .i64 s.quota, .int .i64 s.now, .slice (some ⟨p2, off2, none⟩) s.L.length c] #[.int .i64 s.most, .int .i64 s.quota, .int .i64 s.now, .slice a9 ([] ++ s.L.take k ++ s.L.drop (k + 1)).length c9] (by rfl) (by rfl) rfl rfl Tp14 (by kernel_rfl) (by simp) (by rfl) ?_
            obtain ⟨Wx15, hWx15⟩ : ∃ W, Wp14.setRow rb #[.int .i64 s.most, .int .i64 s.quota, .int .i64 s.now, .slice a9 ([] ++ s.L.take k ++ s.L.drop (k + 1)).length c9] = W := ⟨_, rfl⟩
            rw [hWx15]
            have Tx15 : Blk Wx15 rb 41 #[.int .i64 s.most, .int .i64 s.quota, .int .i64 s.now, .slice a9 ([] ++ s.L.take k ++ s.L.drop (k + 1)).length c9] := hWx15 ▸ Tp14.set #[.int .i64 s.most, .int .i64 s.quota, .int .i64 s.now, .slice a9 ([] ++ s.L.take k ++ s.L.drop (k + 1)).length c9]
            have Ex15 := hWx15 ▸ Ep14.other nET #[.int .i64 s.most, .int .i64 s.quota, .int .i64 s.now, .slice a9 ([] ++ s.L.take k ++ s.L.drop (k + 1)).length c9]
            have Ax15 := hWx15 ▸ Ap14.other nAT #[.int .i64 s.most, .int .i64 s.quota, .int .i64 s.now, .slice a9 ([] ++ s.L.take k ++ s.L.drop (k + 1)).length c9]
            have Bx15 := hWx15 ▸ Bp14.other nBT #[.int .i64 s.most, .int .i64 s.quota, .int .i64 s.now, .slice a9 ([] ++ s.L.take k ++ s.L.drop (k + 1)).length c9]
            have Cx15 := hWx15 ▸ Cp14.other nCT #[.int .i64 s.most, .int .i64 s.quota, .int .i64 s.now, .slice a9 ([] ++ s.L.take k ++ s.L.drop (k + 1)).length c9]
            have Ox15 := hWx15 ▸ Op14.other (fun y hy => by have := Op14.lt y hy; have := hlT; omega) #[.int .i64 s.most, .int .i64 s.quota, .int .i64 s.now, .slice a9 ([] ++ s.L.take k ++ s.L.drop (k + 1)).length c9]
            have bx15 := hWx15 ▸ bp14.setRow rb (.inl rfl) #[.int .i64 s.most, .int .i64 s.quota, .int .i64 s.now, .slice a9 ([] ++ s.L.take k ++ s.L.drop (k + 1)).length c9]
            refine hK.out _ _ (by exact ⟨Ex15, Ax15, Bx15, Cx15⟩) (fun hHeld => ?_)
            clear hK K
            try simp only [qpu]
            refine wpAnyH_done (by kernel_rfl) ?_ _
            refine NoPanic.normal ?_
            obtain ⟨Wm16, hWm16⟩ : ∃ W, Wx15.setRow Wm1.heap.size q.v = W := ⟨_, rfl⟩
            have Bm16 : Blk Wm16 Wm1.heap.size 28 q.v := hWm16 ▸ Bx15.set q.v
            have Tm16 := hWm16 ▸ Tx15.other nTB q.v
            have Em16 := hWm16 ▸ Ex15.other nEB q.v
            have Am16 := hWm16 ▸ Ax15.other nAB q.v
            have Cm16 := hWm16 ▸ Cx15.other nCB q.v
            have Om16 := hWm16 ▸ Ox15.other nOB q.v
            have bm16 := hWm16 ▸ but_setRow bx15 gB q.v
            go_wp2_with (first | (refine wpList_load_blk_w (by rfl) _ _ rfl Wr.heap.size (by rfl) _ Cx15 Try.underlying28 (by kernel_rfl) ?_) | (refine wpList_store_row rfl _ _ _ rfl Wm1.heap.size q.v (by rfl) (by rfl) _ _ Bx15 (by kernel_rfl) (by rfl) (by kernel_rfl) ?_; rw [hWm16]))
            have hR2 : R = (((⟨s.most, s.quota, s.now, s.L.take k ++ s.L.drop (k + 1)⟩, q, true) : Xt × Wt × Bool)) := by rw [← HR.out]; exact take_erase HXK.out (wait_at HX.out (by assumption) HB.out) HX.out
            subst hR2
            exact ret_cell_tmp (k := 4) (j := 5) Try.f36 (by kernel_rfl) Bm16 Try.underlying28 (by kernel_rfl) (by rfl) (by rfl) rfl ⟨rfl, ⟨a9, c9, ⟨Tm16, Om16.toE, (fun y hy => by have := hga y hy; have := hlT; omega)⟩, (fun y hy => .inr (Nat.le_trans hw8 (hga y hy)))⟩, bm16⟩
        · have cld := Tdq8.cell 3 (.slice (some ⟨p2, off2, none⟩) s.L.length c) rfl
          go_simp
          clear cld
          refine hK.out _ _ (by exact ⟨Edq8, Adq8, Bdq8, Cdq8⟩) (fun hHeld => ?_)
          clear hK K
          try simp only [qpu]
          refine qty (i := 14) (oi := xpa35o5) (v := (.slice (subP p2 off2 c (k + 1)) (s.L.length - (k + 1)) (c - (k + 1)))) (yieldsIf_slice rfl _ _ _ _ _ rfl _ _ _ _ (by rfl) (by rfl) (by rfl) (by rfl) _ (run_from p2 off2 s.L.length c (k + 1) ((k : Int) + 1) (by omega) hlt)) hHeld ?_
          try simp only [qpu]
          refine wpAnyH_ready (rs := [4]) (by kernel_rfl) (by simp) ?_
          refine AllReadyH.cons (o := xpa35o8) rfl (fun K hK => ?_) AllReadyH.nil
          have cld := Tdq8.cell 3 (.slice (some ⟨p2, off2, none⟩) s.L.length c) rfl
          go_simp
          clear cld
          refine hK.out _ _ (by exact ⟨Edq8, Adq8, Bdq8, Cdq8⟩) (fun hHeld => ?_)
          clear hK K
          try simp only [qpu]
          refine qty (i := 6) (oi := xpa35o7) (v := (.slice (some ⟨p2, off2, none⟩) k c)) (yieldsIf_slice rfl _ _ _ _ _ rfl _ _ _ _ (by rfl) (by rfl) (by rfl) (by rfl) _ (run_upto p2 off2 s.L.length c k hkc)) hHeld ?_
          try simp only [qpu]
          refine wpAnyH_ready (rs := [7]) (by kernel_rfl) (by simp) ?_
          refine AllReadyH.cons (o := xpa35o4) rfl (fun K hK => ?_) AllReadyH.nil
          obtain ⟨a8, c8, Wp17, hrun, Op17, gr⟩ := run_appWs Wdq8 39 Wdq8.heap.size none 0 [] (own_noneW _ _) (some ⟨p2, off2, none⟩) c (s.L.take k) (Edq8.take k) (by simp; omega) (Nat.le_refl _)
          have hl0 : ([] ++ s.L.take k).length = k := by simpa using hltk
          rw [hl0] at hrun
          try rw [hltk] at hrun
          refine step_rnW rfl _ _ _ rfl _ _ (by rfl) (by rfl) _ _ hrun ?_
          have bg : But (fun _ => False) Wdq8 Wp17 := (But.refl _ _).grown gr (fun n hn => by cases hn)
          have bp17 := bdq8.trans bg (fun n _ e => e.elim)
          obtain ⟨B8, hB8⟩ : ∃ B, Wdq8.heap.size = B := ⟨_, rfl⟩
          rw [hB8] at Op17
          have hw8 : w.heap.size ≤ B8 := by rw [← hB8]; exact bdq8.size
          have hlE : ∀ y : Addr, (some ⟨p2, off2, none⟩) = some y → y.block < B8 := by rw [← hB8]; exact Edq8.lt
          have Ep17 := Edq8.but bg (fun _ _ h => h)
          have hlA : w.heap.size < B8 := by rw [← hB8]; exact Adq8.lt
          have Ap17 := Adq8.but bg (fun h => h)
          have hlB : Wm1.heap.size < B8 := by rw [← hB8]; exact Bdq8.lt
          have Bp17 := Bdq8.but bg (fun h => h)
          have hlC : Wr.heap.size < B8 := by rw [← hB8]; exact Cdq8.lt
          have Cp17 := Cdq8.but bg (fun h => h)
          have hlT : rb < B8 := by rw [← hB8]; exact Tdq8.lt
          have Tp17 := Tdq8.but bg (fun h => h)
          have hsz8 : B8 ≤ Wp17.heap.size := by rw [← hB8]; exact bg.size
          clear hrun gr bg hB8
          refine hK.out _ _ (by exact ⟨Ep17, Ap17, Bp17, Cp17⟩) (fun hHeld => ?_)
          clear hK K
          try simp only [qpu]
          refine wpAnyH_ready (rs := [15]) (by kernel_rfl) (by simp) ?_
          refine AllReadyH.cons (o := xpa35o3) rfl (fun K hK => ?_) AllReadyH.nil
          obtain ⟨a9, c9, Wp18, hrun, Op18, gr⟩ := run_appWs Wp17 39 B8 a8 c8 ([] ++ s.L.take k) Op17 (subP p2 off2 c (k + 1)) (c - (k + 1)) (s.L.drop (k + 1)) (Ep17.from_ (k + 1) hlt) (by simp; omega) hsz8
          rw [hl0, hldk] at hrun
          refine step_rnW rfl _ _ _ rfl _ _ (by rfl) (by rfl) _ _ hrun ?_
          have bg : But (fun k => a8.map (·.block) = some k) Wp17 Wp18 := (But.refl _ _).grown gr (fun n hn => .inl hn)
          have hga : ∀ y, a9 = some y → B8 ≤ y.block := Op18.lt
          have bp18 : But (fun k => k = rb) w Wp18 := bp17.trans bg (fun n hn e => absurd e (map_geW Op17.lt (Nat.lt_of_lt_of_le hn hw8)))
          have Ep18 := Ep17.but bg (fun y hy => map_geW Op17.lt (hlE y hy))
          have Ap18 := Ap17.but bg (map_geW Op17.lt hlA)
          have nOA : ∀ y : Addr, a9 = some y → y.block ≠ w.heap.size := fun y hy => by have := hga y hy; have := hlA; omega
          have Bp18 := Bp17.but bg (map_geW Op17.lt hlB)
          have nOB : ∀ y : Addr, a9 = some y → y.block ≠ Wm1.heap.size := fun y hy => by have := hga y hy; have := hlB; omega
          have Cp18 := Cp17.but bg (map_geW Op17.lt hlC)
          have nOC : ∀ y : Addr, a9 = some y → y.block ≠ Wr.heap.size := fun y hy => by have := hga y hy; have := hlC; omega
          have Tp18 := Tp17.but bg (map_geW Op17.lt hlT)
          have nOT : ∀ y : Addr, a9 = some y → y.block ≠ rb := fun y hy => by have := hga y hy; have := hlT; omega
          clear hrun gr bg
          refine hK.out _ _ (by exact ⟨Ep18, Ap18, Bp18, Cp18⟩) (fun hHeld => ?_)
          clear hK K
          try simp only [qpu]
          refine qtk (i := 16) (oi := xpa35o2) (v := (.pointer (some ⟨rb, 0, none⟩))) hHeld ?_ ?_
          · intro w9 hSw
            try dsimp only at hSw
            go_simp
          try simp only [qpu]
          refine qtk (i := 17) (oi := xpa35o1) (v := (.pointer (some ⟨rb, 3, none⟩))) hHeld ?_ ?_
          · intro w9 hSw
            try dsimp only at hSw
            go_simp
          try simp only [qpu]
          refine wpAnyH_ready (rs := [18]) (by kernel_rfl) (by simp) ?_
          refine AllReadyH.cons (o := xpa35o0) rfl (fun K hK => ?_) AllReadyH.nil
          refine step_store_one rfl _ _ _ rfl rb 3 _ (.slice a9 ([] ++ s.L.take k ++ s.L.drop (k + 1)).length c9) #[.int .i64 s.most, .int .i64 s.quota, .int .i64 s.now, .slice (some ⟨p2, off2, none⟩) s.L.length c] #[.int .i64 s.most, .int .i64 s.quota, .int .i64 s.now, .slice a9 ([] ++ s.L.take k ++ s.L.drop (k + 1)).length c9] (by rfl) (by rfl) rfl rfl Tp18 (by kernel_rfl) (by simp) (by rfl) ?_
          obtain ⟨Wx19, hWx19⟩ : ∃ W, Wp18.setRow rb #[.int .i64 s.most, .int .i64 s.quota, .int .i64 s.now, .slice a9 ([] ++ s.L.take k ++ s.L.drop (k + 1)).length c9] = W := ⟨_, rfl⟩
          rw [hWx19]
          have Tx19 : Blk Wx19 rb 41 #[.int .i64 s.most, .int .i64 s.quota, .int .i64 s.now, .slice a9 ([] ++ s.L.take k ++ s.L.drop (k + 1)).length c9] := hWx19 ▸ Tp18.set #[.int .i64 s.most, .int .i64 s.quota, .int .i64 s.now, .slice a9 ([] ++ s.L.take k ++ s.L.drop (k + 1)).length c9]
          have Ex19 := hWx19 ▸ Ep18.other nET #[.int .i64 s.most, .int .i64 s.quota, .int .i64 s.now, .slice a9 ([] ++ s.L.take k ++ s.L.drop (k + 1)).length c9]
          have Ax19 := hWx19 ▸ Ap18.other nAT #[.int .i64 s.most, .int .i64 s.quota, .int .i64 s.now, .slice a9 ([] ++ s.L.take k ++ s.L.drop (k + 1)).length c9]
          have Bx19 := hWx19 ▸ Bp18.other nBT #[.int .i64 s.most, .int .i64 s.quota, .int .i64 s.now, .slice a9 ([] ++ s.L.take k ++ s.L.drop (k + 1)).length c9]
          have Cx19 := hWx19 ▸ Cp18.other nCT #[.int .i64 s.most, .int .i64 s.quota, .int .i64 s.now, .slice a9 ([] ++ s.L.take k ++ s.L.drop (k + 1)).length c9]
          have Ox19 := hWx19 ▸ Op18.other (fun y hy => by have := Op18.lt y hy; have := hlT; omega) #[.int .i64 s.most, .int .i64 s.quota, .int .i64 s.now, .slice a9 ([] ++ s.L.take k ++ s.L.drop (k + 1)).length c9]
          have bx19 := hWx19 ▸ bp18.setRow rb (.inl rfl) #[.int .i64 s.most, .int .i64 s.quota, .int .i64 s.now, .slice a9 ([] ++ s.L.take k ++ s.L.drop (k + 1)).length c9]
          refine hK.out _ _ (by exact ⟨Ex19, Ax19, Bx19, Cx19⟩) (fun hHeld => ?_)
          clear hK K
          try simp only [qpu]
          refine wpAnyH_done (by kernel_rfl) ?_ _
          refine NoPanic.normal ?_
          obtain ⟨Wm20, hWm20⟩ : ∃ W, Wx19.setRow Wm1.heap.size q.v = W := ⟨_, rfl⟩
          have Bm20 : Blk Wm20 Wm1.heap.size 28 q.v := hWm20 ▸ Bx19.set q.v
          have Tm20 := hWm20 ▸ Tx19.other nTB q.v
          have Em20 := hWm20 ▸ Ex19.other nEB q.v
          have Am20 := hWm20 ▸ Ax19.other nAB q.v
          have Cm20 := hWm20 ▸ Cx19.other nCB q.v
          have Om20 := hWm20 ▸ Ox19.other nOB q.v
          have bm20 := hWm20 ▸ but_setRow bx19 gB q.v
          go_wp2_with (first | (refine wpList_load_blk_w (by rfl) _ _ rfl Wr.heap.size (by rfl) _ Cx19 Try.underlying28 (by kernel_rfl) ?_) | (refine wpList_store_row rfl _ _ _ rfl Wm1.heap.size q.v (by rfl) (by rfl) _ _ Bx19 (by kernel_rfl) (by rfl) (by kernel_rfl) ?_; rw [hWm20]))
          have hR2 : R = (((⟨s.most, s.quota, s.now, s.L.take k ++ s.L.drop (k + 1)⟩, q, true) : Xt × Wt × Bool)) := by rw [← HR.out]; exact take_erase HXK.out (wait_at HX.out (by assumption) HB.out) HX.out
          subst hR2
          exact ret_cell_tmp (k := 4) (j := 5) Try.f36 (by kernel_rfl) Bm20 Try.underlying28 (by kernel_rfl) (by rfl) (by rfl) rfl ⟨rfl, ⟨a9, c9, ⟨Tm20, Om20.toE, (fun y hy => by have := hga y hy; have := hlT; omega)⟩, (fun y hy => .inr (Nat.le_trans hw8 (hga y hy)))⟩, bm20⟩


    · have ik : ¬ (k : Int) < (s.L.length : Int) := by omega
      have ik' : decide ((k : Int) < (s.L.length : Int)) = false := by simpa using ik
      have hWN := wait_no (fun j q hj hf => HB.out j q (by omega) hf)
      have c21 := Tr.cell 3 (.slice a s.L.length c) rfl
      obtain ⟨Wm22, hWm22⟩ : ∃ W, Wr.setRow Wm1.heap.size wt0.v = W := ⟨_, rfl⟩
      have Bm22 : Blk Wm22 Wm1.heap.size 28 wt0.v := hWm22 ▸ Br.set wt0.v
      have Tm22 := hWm22 ▸ Tr.other nTB wt0.v
      have Em22 := hWm22 ▸ Er.other nEB wt0.v
      have Am22 := hWm22 ▸ Ar.other nAB wt0.v
      have bm22 := hWm22 ▸ but_setRow br gB wt0.v
      go_wp2_with (refine wpList_store_row rfl _ _ _ rfl Wm1.heap.size wt0.v (by rfl) (by rfl) _ _ Br (by kernel_rfl) (by rfl) (by kernel_rfl) ?_; rw [hWm22])
      have hR2 : R = (((s, wt0, false) : Xt × Wt × Bool)) := by rw [← HR.out]; exact take_zero hWN
      subst hR2
      exact ret_cell_tmp (k := 4) (j := 5) Try.f36 (by kernel_rfl) Bm22 Try.underlying28 (by kernel_rfl) (by rfl) (by rfl) rfl ⟨rfl, ⟨a, c, ⟨Tm22, Em22, nET⟩, (fun y hy => .inl hy)⟩, bm22⟩
end Go.Proofs.Ytmflogmocgbmhaa
