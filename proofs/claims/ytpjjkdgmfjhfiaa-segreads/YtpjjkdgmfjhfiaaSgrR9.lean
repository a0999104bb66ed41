/- Texts joined: SgE -/
import Derived.Test.YtpjjkdgmfjhfiaaSgrR7
namespace Go.Proofs.Ytpjjkdgmfjhfiaa
abbrev sgrR9o0 : Oper := { dst := some 9, op := Op.assign (.tmp 21), type := 28, pos := "seg.go:30", after := #[{ on := 5, ground := Ground.data }, { on := 5, ground := Ground.chain }, { on := 0, ground := Ground.phase }, { on := 1, ground := Ground.phase }, { on := 2, ground := Ground.phase }, { on := 3, ground := Ground.phase }, { on := 4, ground := Ground.phase }, { on := 5, ground := Ground.phase }], guard := none }
abbrev sgrR9o1 : Oper := { dst := some 21, op := Op.call { callee := Callee.value (.func 24), args := #[.tmp 20], argTypes := #[74] }, type := 28, pos := "seg.go:30", after := #[{ on := 4, ground := Ground.data }, { on := 3, ground := Ground.chain }], guard := none }
abbrev sgrR9o2 : Oper := { dst := some 19, op := Op.call { callee := Callee.value (.func 25), args := #[.tmp 18], argTypes := #[24] }, type := 28, pos := "seg.go:30", after := #[{ on := 2, ground := Ground.data }, { on := 1, ground := Ground.chain }], guard := none }
abbrev sgrR9o3 : Oper := { dst := some 17, op := Op.call { callee := Callee.value (.func 25), args := #[.tmp 16], argTypes := #[24] }, type := 28, pos := "seg.go:30", after := #[{ on := 0, ground := Ground.data }], guard := none }
abbrev sgrR9o4 : Oper := { dst := some 20, op := Op.buildSlice 74 2 #[(0, .tmp 17), (1, .tmp 19)], type := 74, pos := "seg.go:30", after := #[{ on := 1, ground := Ground.data }, { on := 3, ground := Ground.data }], guard := none }
abbrev sgrR9o5 : Oper := { dst := some 16, op := Op.load 24 (.tmp 4), type := 24, pos := "seg.go:30", after := #[], guard := none }
abbrev sgrR9o6 : Oper := { dst := some 18, op := Op.load 24 (.tmp 5), type := 24, pos := "seg.go:30", after := #[], guard := none }
end Go.Proofs.Ytpjjkdgmfjhfiaa
namespace Go.Proofs.Ytpjjkdgmfjhfiaa
open Go.RowKit
set_option linter.unusedVariables false
set_option linter.unusedSimpArgs false
theorem Ad.bytes_le (a : Ad) : a.bytes.length ≤ 16 := by
  unfold Ad.bytes
  split
  · rw [bytesGo_length]; split <;> omega
  · simp
theorem wrapU8 (x : Int) : IntKind.u8.wrap x = x % 256 := by rw [IntKind.wrap_u8]
theorem wrapU32 (x : Int) : IntKind.u32.wrap x = x % 4294967296 := by rw [IntKind.wrap_u32]
theorem bytes_two (p : Int) : M.Bytes [0, p % 256] := by
  intro x hx
  simp at hx
  rcases hx with rfl | rfl <;> omega
theorem bytes_four (p : Int) : M.Bytes [0, 0, 0, p % 256] := by
  intro x hx
  simp at hx
  rcases hx with rfl | rfl <;> omega
set_option maxRecDepth 100000 in
set_option maxHeartbeats 4000000 in
theorem pseudo_no (sf sh sl df dh dl pr sz : Int) (w : World) (ho : Ad.ok ⟨sf, sh, sl⟩) (ho' : Ad.ok ⟨df, dh, dl⟩) (hE : endsB sf ⟨sf, sh, sl⟩ ⟨df, dh, dl⟩ = false) :
    Calls Try.prog 11 #[.agg #[.int .i64 sf, .int .u64 sh, .int .u64 sl], .agg #[.int .i64 df, .int .u64 dh, .int .u64 dl], .int .i64 pr, .int .i64 sz] w fun e w' => ∃ a c, e = .returned (.slice a (pseudo ⟨sf, sh, sl⟩ ⟨df, dh, dl⟩ pr sz).length c) ∧ Fresh w w' a c (pseudo ⟨sf, sh, sl⟩ ⟨df, dh, dl⟩ pr sz) := by
  obtain ⟨W1, hW1⟩ : ∃ W1, w.alloc (.cells #[.int .i64 sf, .int .u64 sh, .int .u64 sl] 24) = W1 := ⟨_, rfl⟩
  obtain ⟨W2, hW2⟩ : ∃ W2, W1.alloc (.cells #[.int .i64 df, .int .u64 dh, .int .u64 dl] 24) = W2 := ⟨_, rfl⟩
  have b1 := bel_nw hW1
  have b2 := bel_al b1 hW2
  have B1' := blk_nw hW1
  have B1 := B1'.al hW2
  have B2 := blk_nw hW2
  have g1 : w.heap.size < W1.heap.size := B1'.lt
  clear B1'
  have c0 := B1.cell 0 (.int .i64 sf) rfl
  have c1 := B1.cell 1 (.int .u64 sh) rfl
  have c2 := B1.cell 2 (.int .u64 sl) rfl
  have d0 := B2.cell 0 (.int .i64 df) rfl
  have d1 := B2.cell 1 (.int .u64 dh) rfl
  have d2 := B2.cell 2 (.int .u64 dl) rfl
  have K0 := ofFamily_any sf sf sh sl df dh dl W2
  rw [hE] at K0
  have K0 : Hid _ := K0
  obtain ⟨L, hL⟩ : ∃ L, pseudo ⟨sf, sh, sl⟩ ⟨df, dh, dl⟩ pr sz = L := ⟨_, rfl⟩
  rw [hL]
  unfold pseudo at hL
  rw [hE] at hL
  rw [if_neg (by decide)] at hL
  subst hL
  go_enter Try.func11, Try.ntmps11
  go_wp2_with fail
  refine Calls.mono K0.out ?_
  rintro e W3 ⟨rfl, bb⟩
  have b3 := bel_tr b2 bb
  have B3 := B1.kept bb
  have B3' := B2.kept bb
  clear K0 bb B1 B2 b2 hW1 hW2 c0 c1 c2 d0 d1 d2
  go_wp2
  go_ret
  exact ⟨none, 0, rfl, fresh_nil b3⟩
set_option maxRecDepth 100000 in
set_option maxHeartbeats 4000000 in
theorem pseudo_4 (sf sh sl df dh dl pr sz : Int) (w : World) (ho : Ad.ok ⟨sf, sh, sl⟩) (ho' : Ad.ok ⟨df, dh, dl⟩) (hE : endsB sf ⟨sf, sh, sl⟩ ⟨df, dh, dl⟩ = true) (h4 : sf = 4) :
    Calls Try.prog 11 #[.agg #[.int .i64 sf, .int .u64 sh, .int .u64 sl], .agg #[.int .i64 df, .int .u64 dh, .int .u64 dl], .int .i64 pr, .int .i64 sz] w fun e w' => ∃ a c, e = .returned (.slice a (pseudo ⟨sf, sh, sl⟩ ⟨df, dh, dl⟩ pr sz).length c) ∧ Fresh w w' a c (pseudo ⟨sf, sh, sl⟩ ⟨df, dh, dl⟩ pr sz) := by
  obtain ⟨W1, hW1⟩ : ∃ W1, w.alloc (.cells #[.int .i64 sf, .int .u64 sh, .int .u64 sl] 24) = W1 := ⟨_, rfl⟩
  obtain ⟨W2, hW2⟩ : ∃ W2, W1.alloc (.cells #[.int .i64 df, .int .u64 dh, .int .u64 dl] 24) = W2 := ⟨_, rfl⟩
  have b1 := bel_nw hW1
  have b2 := bel_al b1 hW2
  have B1' := blk_nw hW1
  have B1 := B1'.al hW2
  have B2 := blk_nw hW2
  have g1 : w.heap.size < W1.heap.size := B1'.lt
  clear B1'
  have c0 := B1.cell 0 (.int .i64 sf) rfl
  have c1 := B1.cell 1 (.int .u64 sh) rfl
  have c2 := B1.cell 2 (.int .u64 sl) rfl
  have d0 := B2.cell 0 (.int .i64 df) rfl
  have d1 := B2.cell 1 (.int .u64 dh) rfl
  have d2 := B2.cell 2 (.int .u64 dl) rfl
  have K0 := ofFamily_any sf sf sh sl df dh dl W2
  rw [hE] at K0
  have K0 : Hid _ := K0
  obtain ⟨L, hL⟩ : ∃ L, pseudo ⟨sf, sh, sl⟩ ⟨df, dh, dl⟩ pr sz = L := ⟨_, rfl⟩
  rw [hL]
  unfold pseudo at hL
  rw [hE] at hL
  rw [if_pos rfl] at hL
  unfold pseudoL at hL
  obtain ⟨SB, hSB⟩ : ∃ x, Ad.bytes ⟨sf, sh, sl⟩ = x := ⟨_, rfl⟩
  obtain ⟨DB, hDB⟩ : ∃ x, Ad.bytes ⟨df, dh, dl⟩ = x := ⟨_, rfl⟩
  obtain ⟨R, hR⟩ : ∃ x, SB ++ DB = x := ⟨_, rfl⟩
  have lR : R.length ≤ 32 := by
    have h1 := Ad.bytes_le ⟨sf, sh, sl⟩
    have h2 := Ad.bytes_le ⟨df, dh, dl⟩
    rw [hSB] at h1
    rw [hDB] at h2
    rw [← hR, List.length_append]
    omega
  have KB1 : Hid (∀ W, Calls Try.prog 25 #[.agg #[.int .i64 sf, .int .u64 sh, .int .u64 sl]] W fun e w' => ∃ a c, e = .returned (.slice a SB.length c) ∧ Fresh W w' a c SB) := fun W => by
    have := bytes_any sf sh sl W ho
    rw [hSB] at this
    exact this
  have KB2 : Hid (∀ W, Calls Try.prog 25 #[.agg #[.int .i64 df, .int .u64 dh, .int .u64 dl]] W fun e w' => ∃ a c, e = .returned (.slice a DB.length c) ∧ Fresh W w' a c DB) := fun W => by
    have := bytes_any df dh dl W ho'
    rw [hDB] at this
    exact this
  rw [hSB, hDB, hR] at hL
  have HR : Hid (SB ++ DB = R) := hR
  clear hR hSB hDB hE
  rw [if_pos h4] at hL
  obtain ⟨R2, hR2⟩ : ∃ x, R ++ [0, pr % 256] = x := ⟨_, rfl⟩
  rw [hR2] at hL
  have lR2 : R2.length ≤ 34 := by rw [← hR2]; simp; omega
  have HR2 : Hid (R ++ [0, pr % 256] = R2) := hR2
  have HL : Hid (put16 R2 sz = L) := hL
  have wu := wrapU8 pr
  clear hR2 hL
  have h4' : (sf == 4) = true := by simpa using h4
  clear h4
  go_enter Try.func11, Try.ntmps11
  go_wp2_with fail
  refine Calls.mono K0.out ?_
  rintro e W3 ⟨rfl, bb⟩
  have b3 := bel_tr b2 bb
  have B3 := B1.kept bb
  have B3' := B2.kept bb
  clear K0 bb B1 B2 b2 hW1 hW2 c0 c1 c2 d0 d1 d2
  go_wp2_with fail
  refine wp_region_noPanic ?_
  refine wp_region_held_drew (S := fun w' => Blk w' w.heap.size 24 #[.int .i64 sf, .int .u64 sh, .int .u64 sl] ∧ Blk w' W1.heap.size 24 #[.int .i64 df, .int .u64 dh, .int .u64 dl]) (by kernel_rfl) (by exact ⟨B3.drew, B3'.drew⟩) (fun hHeld => ?_)
  refine wpAnyH_take (i := 0) (oi := sgrR9o5) (v := (.agg #[.int .i64 sf, .int .u64 sh, .int .u64 sl])) rfl (by kernel_rfl) (by kernel_rfl) (by kernel_rfl) (fun _ _ _ h => h) (yieldsIf_blk rfl _ _ rfl w.heap.size (by rfl) _ (fun _ hSw => hSw.1) Try.underlying24 (by kernel_rfl)) hHeld ?_
  try simp only [pu]
  refine wpAnyH_take (i := 2) (oi := sgrR9o6) (v := (.agg #[.int .i64 df, .int .u64 dh, .int .u64 dl])) rfl (by kernel_rfl) (by kernel_rfl) (by kernel_rfl) (fun _ _ _ h => h) (yieldsIf_blk rfl _ _ rfl W1.heap.size (by rfl) _ (fun _ hSw => hSw.2) Try.underlying24 (by kernel_rfl)) hHeld ?_
  try simp only [pu]
  refine wpAnyH_ready (rs := [1]) (by kernel_rfl) (by simp) ?_
  refine AllReadyH.cons (o := sgrR9o3) rfl (fun K hK => ?_) AllReadyH.nil
  go_simp
  refine Calls.mono (KB1.out _) ?_
  rintro e W4 ⟨a4, c4, rfl, f4⟩
  have B4 := B3.drew.kept f4.below
  have B4' := B3'.drew.kept f4.below
  have b4 : Below w.heap.size w W4 := b3.drew.trans (f4.below.mono b3.drew.size)
  refine hK.out _ _ ?_ (fun hHeld => ?_)
  · exact ⟨B4, B4'⟩
  clear hK K
  try simp only [pu]
  refine wpAnyH_ready (rs := [3]) (by kernel_rfl) (by simp) ?_
  refine AllReadyH.cons (o := sgrR9o2) rfl (fun K hK => ?_) AllReadyH.nil
  go_simp
  refine Calls.mono (KB2.out _) ?_
  rintro e W5 ⟨a5, c5, rfl, f5⟩
  have B5 := B4.kept f5.below
  have B5' := B4'.kept f5.below
  have b5 := bel_tr b4 f5.below
  refine hK.out _ _ ?_ (fun hHeld => ?_)
  · exact ⟨B5, B5'⟩
  clear hK K
  try simp only [pu]
  refine wpAnyH_ready (rs := [4]) (by kernel_rfl) (by simp) ?_
  refine AllReadyH.cons (o := sgrR9o4) rfl (fun K hK => ?_) AllReadyH.nil
  go_simp
  refine hK.out _ _ ?_ (fun hHeld => ?_)
  · exact ⟨B5.alloc _, B5'.alloc _⟩
  clear hK K
  try simp only [pu]
  refine wpAnyH_ready (rs := [5]) (by kernel_rfl) (by simp) ?_
  refine AllReadyH.cons (o := sgrR9o1) rfl (fun K hK => ?_) AllReadyH.nil
  go_simp
  refine Calls.mono (concat2 W5 a4 a5 c4 c5 SB DB R (f4.row.below f5.below) f4.nil f5.row f5.nil HR.out (by omega)) ?_
  rintro e W6 ⟨a6, c6, rfl, f6⟩
  have B6 := B5.kept f6.below
  have B6' := B5'.kept f6.below
  have b6 := bel_tr b5 f6.below
  refine hK.out _ _ ?_ (fun hHeld => ?_)
  · exact ⟨B6, B6'⟩
  clear hK K
  try simp only [pu]
  refine tk (i := 6) (oi := sgrR9o0) (v := (.slice a6 R.length c6)) hHeld ?_ ?_
  · intro w9 hSw
    try dsimp only at hSw
    go_simp
  try simp only [pu]
  refine wpAnyH_done (by kernel_rfl) ?_ _
  refine NoPanic.normal ?_
  have e0 := B6.cell 0 (.int .i64 sf) rfl
  have OW := owns_le b5.size f6.owns
  have rb := f6.row.bytes
  clear KB1 KB2 HR f4 f5 f6 B3 B3' B4 B4' B5 B5' B6 B6' b3 b4 b5 hHeld
  go_wp2_with (at_builtin; refine wpList_app2 _ rfl _ _ rfl w.heap.size _ R rfl (OW.alloc _) rb _ 2 [0, pr % 256] rfl ?row (fun hh => by cases hh) R2 HR2.out ?c1 ?c2 ?_)
  case row => exact row_at W6 5 [0, pr % 256] W6.heap.size rfl (by simp) (bytes_two pr)
  case c1 => omega
  case c2 => exact Nat.le_trans b6.size (by simp)
  intro a7 c7 W7 o7 h7 n7 r7 bb _
  have b7 : Below w.heap.size w W7 := (b6.alloc b6.size _).trans bb
  have K7 := put16_any a7 c7 R2 sz W7 r7 n7 (by omega)
  rw [HL.out] at K7
  have K7 : Hid _ := K7
  clear HL bb OW o7 e0
  go_wp2_with fail
  refine Calls.mono K7.out ?_
  rintro e W8 ⟨a8, c8, rfl, f8⟩
  clear K7
  go_wp2
  go_ret
  exact ⟨a8, c8, rfl, owns_le b7.size f8.owns, f8.room, f8.nil, f8.row, b7.trans (f8.below.mono b7.size)⟩
set_option maxRecDepth 100000 in
set_option maxHeartbeats 4000000 in
theorem pseudo_6 (sf sh sl df dh dl pr sz : Int) (w : World) (ho : Ad.ok ⟨sf, sh, sl⟩) (ho' : Ad.ok ⟨df, dh, dl⟩) (hE : endsB sf ⟨sf, sh, sl⟩ ⟨df, dh, dl⟩ = true) (h4 : ¬ sf = 4) :
    Calls Try.prog 11 #[.agg #[.int .i64 sf, .int .u64 sh, .int .u64 sl], .agg #[.int .i64 df, .int .u64 dh, .int .u64 dl], .int .i64 pr, .int .i64 sz] w fun e w' => ∃ a c, e = .returned (.slice a (pseudo ⟨sf, sh, sl⟩ ⟨df, dh, dl⟩ pr sz).length c) ∧ Fresh w w' a c (pseudo ⟨sf, sh, sl⟩ ⟨df, dh, dl⟩ pr sz) := by
  obtain ⟨W1, hW1⟩ : ∃ W1, w.alloc (.cells #[.int .i64 sf, .int .u64 sh, .int .u64 sl] 24) = W1 := ⟨_, rfl⟩
  obtain ⟨W2, hW2⟩ : ∃ W2, W1.alloc (.cells #[.int .i64 df, .int .u64 dh, .int .u64 dl] 24) = W2 := ⟨_, rfl⟩
  have b1 := bel_nw hW1
  have b2 := bel_al b1 hW2
  have B1' := blk_nw hW1
  have B1 := B1'.al hW2
  have B2 := blk_nw hW2
  have g1 : w.heap.size < W1.heap.size := B1'.lt
  clear B1'
  have c0 := B1.cell 0 (.int .i64 sf) rfl
  have c1 := B1.cell 1 (.int .u64 sh) rfl
  have c2 := B1.cell 2 (.int .u64 sl) rfl
  have d0 := B2.cell 0 (.int .i64 df) rfl
  have d1 := B2.cell 1 (.int .u64 dh) rfl
  have d2 := B2.cell 2 (.int .u64 dl) rfl
  have K0 := ofFamily_any sf sf sh sl df dh dl W2
  rw [hE] at K0
  have K0 : Hid _ := K0
  obtain ⟨L, hL⟩ : ∃ L, pseudo ⟨sf, sh, sl⟩ ⟨df, dh, dl⟩ pr sz = L := ⟨_, rfl⟩
  rw [hL]
  unfold pseudo at hL
  rw [hE] at hL
  rw [if_pos rfl] at hL
  unfold pseudoL at hL
  obtain ⟨SB, hSB⟩ : ∃ x, Ad.bytes ⟨sf, sh, sl⟩ = x := ⟨_, rfl⟩
  obtain ⟨DB, hDB⟩ : ∃ x, Ad.bytes ⟨df, dh, dl⟩ = x := ⟨_, rfl⟩
  obtain ⟨R, hR⟩ : ∃ x, SB ++ DB = x := ⟨_, rfl⟩
  have lR : R.length ≤ 32 := by
    have h1 := Ad.bytes_le ⟨sf, sh, sl⟩
    have h2 := Ad.bytes_le ⟨df, dh, dl⟩
    rw [hSB] at h1
    rw [hDB] at h2
    rw [← hR, List.length_append]
    omega
  have KB1 : Hid (∀ W, Calls Try.prog 25 #[.agg #[.int .i64 sf, .int .u64 sh, .int .u64 sl]] W fun e w' => ∃ a c, e = .returned (.slice a SB.length c) ∧ Fresh W w' a c SB) := fun W => by
    have := bytes_any sf sh sl W ho
    rw [hSB] at this
    exact this
  have KB2 : Hid (∀ W, Calls Try.prog 25 #[.agg #[.int .i64 df, .int .u64 dh, .int .u64 dl]] W fun e w' => ∃ a c, e = .returned (.slice a DB.length c) ∧ Fresh W w' a c DB) := fun W => by
    have := bytes_any df dh dl W ho'
    rw [hDB] at this
    exact this
  rw [hSB, hDB, hR] at hL
  have HR : Hid (SB ++ DB = R) := hR
  clear hR hSB hDB hE
  rw [if_neg h4] at hL
  obtain ⟨R2, hR2⟩ : ∃ x, put32 R (sz % 4294967296) = x := ⟨_, rfl⟩
  rw [hR2] at hL
  have lR2 : R2.length ≤ 36 := by rw [← hR2]; simp [put32]; omega
  have K32 : Hid (∀ W a c, Row W a R → (a = none → c = 0) → Calls Try.prog 27 #[.slice a R.length c, .int .u32 (sz % 4294967296)] W fun e w' => ∃ a' c', e = .returned (.slice a' R2.length c') ∧ Fresh W w' a' c' R2) := fun W a c hr hn => by
    have := put32_any a c R (sz % 4294967296) W hr hn (by omega) (by omega)
    rw [hR2] at this
    exact this
  have HL : Hid (R2 ++ [0, 0, 0, pr % 256] = L) := hL
  have lL : L.length ≤ 40 := by rw [← hL]; simp; omega
  have wu := wrapU8 pr
  have wz := wrapU32 sz
  have h4' : (sf == 4) = false := by simpa using h4
  clear hR2 hL h4
  go_enter Try.func11, Try.ntmps11
  go_wp2_with fail
  refine Calls.mono K0.out ?_
  rintro e W3 ⟨rfl, bb⟩
  have b3 := bel_tr b2 bb
  have B3 := B1.kept bb
  have B3' := B2.kept bb
  clear K0 bb B1 B2 b2 hW1 hW2 c0 c1 c2 d0 d1 d2
  go_wp2_with fail
  refine wp_region_noPanic ?_
  refine wp_region_held_drew (S := fun w' => Blk w' w.heap.size 24 #[.int .i64 sf, .int .u64 sh, .int .u64 sl] ∧ Blk w' W1.heap.size 24 #[.int .i64 df, .int .u64 dh, .int .u64 dl]) (by kernel_rfl) (by exact ⟨B3.drew, B3'.drew⟩) (fun hHeld => ?_)
  refine wpAnyH_take (i := 0) (oi := sgrR9o5) (v := (.agg #[.int .i64 sf, .int .u64 sh, .int .u64 sl])) rfl (by kernel_rfl) (by kernel_rfl) (by kernel_rfl) (fun _ _ _ h => h) (yieldsIf_blk rfl _ _ rfl w.heap.size (by rfl) _ (fun _ hSw => hSw.1) Try.underlying24 (by kernel_rfl)) hHeld ?_
  try simp only [pu]
  refine wpAnyH_take (i := 2) (oi := sgrR9o6) (v := (.agg #[.int .i64 df, .int .u64 dh, .int .u64 dl])) rfl (by kernel_rfl) (by kernel_rfl) (by kernel_rfl) (fun _ _ _ h => h) (yieldsIf_blk rfl _ _ rfl W1.heap.size (by rfl) _ (fun _ hSw => hSw.2) Try.underlying24 (by kernel_rfl)) hHeld ?_
  try simp only [pu]
  refine wpAnyH_ready (rs := [1]) (by kernel_rfl) (by simp) ?_
  refine AllReadyH.cons (o := sgrR9o3) rfl (fun K hK => ?_) AllReadyH.nil
  go_simp
  refine Calls.mono (KB1.out _) ?_
  rintro e W4 ⟨a4, c4, rfl, f4⟩
  have B4 := B3.drew.kept f4.below
  have B4' := B3'.drew.kept f4.below
  have b4 : Below w.heap.size w W4 := b3.drew.trans (f4.below.mono b3.drew.size)
  refine hK.out _ _ ?_ (fun hHeld => ?_)
  · exact ⟨B4, B4'⟩
  clear hK K
  try simp only [pu]
  refine wpAnyH_ready (rs := [3]) (by kernel_rfl) (by simp) ?_
  refine AllReadyH.cons (o := sgrR9o2) rfl (fun K hK => ?_) AllReadyH.nil
  go_simp
  refine Calls.mono (KB2.out _) ?_
  rintro e W5 ⟨a5, c5, rfl, f5⟩
  have B5 := B4.kept f5.below
  have B5' := B4'.kept f5.below
  have b5 := bel_tr b4 f5.below
  refine hK.out _ _ ?_ (fun hHeld => ?_)
  · exact ⟨B5, B5'⟩
  clear hK K
  try simp only [pu]
  refine wpAnyH_ready (rs := [4]) (by kernel_rfl) (by simp) ?_
  refine AllReadyH.cons (o := sgrR9o4) rfl (fun K hK => ?_) AllReadyH.nil
  go_simp
  refine hK.out _ _ ?_ (fun hHeld => ?_)
  · exact ⟨B5.alloc _, B5'.alloc _⟩
  clear hK K
  try simp only [pu]
  refine wpAnyH_ready (rs := [5]) (by kernel_rfl) (by simp) ?_
  refine AllReadyH.cons (o := sgrR9o1) rfl (fun K hK => ?_) AllReadyH.nil
  go_simp
  refine Calls.mono (concat2 W5 a4 a5 c4 c5 SB DB R (f4.row.below f5.below) f4.nil f5.row f5.nil HR.out (by omega)) ?_
  rintro e W6 ⟨a6, c6, rfl, f6⟩
  have B6 := B5.kept f6.below
  have B6' := B5'.kept f6.below
  have b6 := bel_tr b5 f6.below
  refine hK.out _ _ ?_ (fun hHeld => ?_)
  · exact ⟨B6, B6'⟩
  clear hK K
  try simp only [pu]
  refine tk (i := 6) (oi := sgrR9o0) (v := (.slice a6 R.length c6)) hHeld ?_ ?_
  · intro w9 hSw
    try dsimp only at hSw
    go_simp
  try simp only [pu]
  refine wpAnyH_done (by kernel_rfl) ?_ _
  refine NoPanic.normal ?_
  have e0 := B6.cell 0 (.int .i64 sf) rfl
  have r6 := f6.row
  have n6 := f6.nil
  clear KB1 KB2 HR f4 f5 f6 B3 B3' B4 B4' B5 B5' B6 B6' b3 b4 b5 hHeld
  go_wp2_with fail
  refine Calls.mono (K32.out _ a6 c6 r6 n6) ?_
  rintro e W7 ⟨a7, c7, rfl, f7⟩
  have b7 := bel_tr b6 f7.below
  have OW := owns_le b6.size f7.owns
  have rb := f7.row.bytes
  clear K32 f7 r6 n6 b6 e0
  go_wp2_with (at_builtin; refine wpList_app2 _ rfl _ _ rfl w.heap.size _ R2 rfl (OW.alloc _) rb _ 4 [0, 0, 0, pr % 256] rfl ?row (fun hh => by cases hh) L HL.out ?c1 ?c2 ?_)
  case row => exact row_at W7 5 [0, 0, 0, pr % 256] W7.heap.size rfl (by simp) (bytes_four pr)
  case c1 => omega
  case c2 => exact Nat.le_trans b7.size (by simp)
  intro a8 c8 W8 o8 h8 n8 r8 bb _
  have b8 : Below w.heap.size w W8 := (b7.alloc b7.size _).trans bb
  go_wp2
  go_ret
  exact ⟨a8, c8, rfl, o8, h8, n8, r8, b8⟩
theorem pseudo_any (sf sh sl df dh dl pr sz : Int) (w : World) (ho : Ad.ok ⟨sf, sh, sl⟩) (ho' : Ad.ok ⟨df, dh, dl⟩) :
    Calls Try.prog 11 #[.agg #[.int .i64 sf, .int .u64 sh, .int .u64 sl], .agg #[.int .i64 df, .int .u64 dh, .int .u64 dl], .int .i64 pr, .int .i64 sz] w fun e w' => ∃ a c, e = .returned (.slice a (pseudo ⟨sf, sh, sl⟩ ⟨df, dh, dl⟩ pr sz).length c) ∧ Fresh w w' a c (pseudo ⟨sf, sh, sl⟩ ⟨df, dh, dl⟩ pr sz) := by
  cases hE : endsB sf ⟨sf, sh, sl⟩ ⟨df, dh, dl⟩ with
  | false => exact pseudo_no sf sh sl df dh dl pr sz w ho ho' hE
  | true =>
    by_cases h4 : sf = 4
    · exact pseudo_4 sf sh sl df dh dl pr sz w ho ho' hE h4
    · exact pseudo_6 sf sh sl df dh dl pr sz w ho ho' hE h4
end Go.Proofs.Ytpjjkdgmfjhfiaa
