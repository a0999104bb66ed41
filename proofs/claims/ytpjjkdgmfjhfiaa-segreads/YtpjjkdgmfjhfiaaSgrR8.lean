/- Texts joined: SgD -/
import Derived.Test.YtpjjkdgmfjhfiaaSgrR7
namespace Go.Proofs.Ytpjjkdgmfjhfiaa
abbrev sgrR8o0 : Oper := { dst := some 27, op := Op.call { callee := Callee.value (.func 64), args := #[.tmp 22, .tmp 26], argTypes := #[3, 3] }, type := 4, pos := "parse.go:114", after := #[{ on := 1, ground := Ground.data }, { on := 5, ground := Ground.data }], guard := none }
abbrev sgrR8o1 : Oper := { dst := some 24, op := Op.indexAddr 28 (.tmp 23) (.const (.int .i64 0)), type := 0, pos := "parse.go:114", after := #[{ on := 2, ground := Ground.data }], guard := none }
abbrev sgrR8o2 : Oper := { dst := some 26, op := Op.convert 5 3 (.tmp 25), type := 3, pos := "parse.go:114", after := #[{ on := 4, ground := Ground.data }], guard := none }
abbrev sgrR8o3 : Oper := { dst := some 25, op := Op.load 5 (.tmp 24), type := 5, pos := "parse.go:114", after := #[{ on := 3, ground := Ground.data }], guard := none }
abbrev sgrR8o4 : Oper := { dst := some 22, op := Op.load 3 (.tmp 21), type := 3, pos := "parse.go:114", after := #[{ on := 0, ground := Ground.data }], guard := none }
abbrev sgrR8o5 : Oper := { dst := some 21, op := Op.fieldAddr 26 (.tmp 2) 0, type := 0, pos := "parse.go:114", after := #[], guard := none }
abbrev sgrR8o6 : Oper := { dst := some 23, op := Op.move (.tmp 1), type := 28, pos := "parse.go:114", after := #[], guard := none }
end Go.Proofs.Ytpjjkdgmfjhfiaa
namespace Go.Proofs.Ytpjjkdgmfjhfiaa
open Go.RowKit
set_option linter.unusedVariables false
set_option linter.unusedSimpArgs false
set_option maxRecDepth 100000 in
set_option maxHeartbeats 4000000 in
theorem withPorts_6 (f pr sf sh sl df dh dl : Int) (a : Option Addr) (c : Nat) (l : List Int) (w : World) (h : Row w a l) (h8 : 8 ≤ l.length) (h6 : pr = 6) :
    Calls Try.prog 82 #[.agg (sRb f pr sf sh sl df dh dl 0 0), .slice a l.length c] w fun e w' => e = .returned (.agg (sRb f pr sf sh sl df dh dl (portsOf f pr l).1 (portsOf f pr l).2)) ∧ Below w.heap.size w w' := by
  obtain ⟨V, hV⟩ : ∃ V, portsOf f pr l = V := ⟨_, rfl⟩
  have HV : Hid (portsOf f pr l = V) := hV
  rw [hV]
  clear hV
  obtain ⟨W1, hW1⟩ : ∃ W1, w.alloc (.cells (sRb f pr sf sh sl df dh dl 0 0) 26) = W1 := ⟨_, rfl⟩
  obtain ⟨W2, hW2⟩ : ∃ W2, W1.alloc (.cells (sRb 0 0 0 0 0 0 0 0 0 0) 26) = W2 := ⟨_, rfl⟩
  have b1 := bel_nw hW1
  have b2 := bel_al b1 hW2
  have B1' := blk_nw hW1
  have B1 := B1'.al hW2
  have B2 := blk_nw hW2
  have g1 : w.heap.size < W1.heap.size := B1'.lt
  clear B1'
  have d0 := B1.cell 0 (.int .i64 f) rfl
  have d1 := B1.cell 1 (.int .i64 pr) rfl
  have d2 := B1.cell 2 (.int .i64 sf) rfl
  have d3 := B1.cell 3 (.int .u64 sh) rfl
  have d4 := B1.cell 4 (.int .u64 sl) rfl
  have d5 := B1.cell 5 (.int .i64 df) rfl
  have d6 := B1.cell 6 (.int .u64 dh) rfl
  have d7 := B1.cell 7 (.int .u64 dl) rfl
  have d8 := B1.cell 8 (.int .i64 0) rfl
  have d9 := B1.cell 9 (.int .i64 0) rfl
  obtain ⟨p1, hp1⟩ : ∃ p, u16v l 0 = p := ⟨_, rfl⟩
  obtain ⟨p2, hp2⟩ : ∃ p, u16v l 2 = p := ⟨_, rfl⟩
  have K1 := segU16_any a c l 0 W2 (h.below b2) (by decide)
  rw [hp1] at K1
  have K1 : Hid _ := K1
  have K2 : Hid (∀ W, Row W a l → Calls Try.prog 71 #[.slice a l.length c, .int .i64 2] W _) := fun W hW => by
    have := segU16_any a c l 2 W hW (by decide)
    rw [hp2] at this
    exact this
  have e : V = (p1, p2) := by
    rw [← HV.out, ← hp1, ← hp2]
    simp [portsOf, h6]
  subst e
  clear HV hp1 hp2
  subst h6
  go_enter Try.func82, Try.ntmps82
  go_wp2_with fail
  refine Calls.mono K1.out ?_
  rintro e W3 ⟨rfl, bb⟩
  have B3 := B1.kept bb
  have B3' := B2.kept bb
  have b3 := bel_tr b2 bb
  clear bb B1 B2 b2 hW1 d0 d1 d2 d3 d4 d5 d6 d7 d8 d9
  try clear K1
  go_wp2_with fail
  refine Calls.mono (K2.out _ (h.below b3)) ?_
  rintro e W4 ⟨rfl, bb⟩
  have B4 := B3.kept bb
  have B4' := B3'.kept bb
  have b4 := bel_tr b3 bb
  clear K2 bb B3 B3' b3
  have d8 := B4.cell 8 (.int .i64 0) rfl
  have d9 := B4.cell 9 (.int .i64 0) rfl
  have z8 := B4.frozen 8
  have z9 := B4.frozen 9
  have ne : W1.heap.size ≠ w.heap.size := by omega
  have B3 := (B4.put 8 (.int .i64 p1)).put 9 (.int .i64 p2)
  have B3' := (B4'.put_other B4 ne 8 (.int .i64 p1)).put_other (B4.put 8 (.int .i64 p1)) ne 9 (.int .i64 p2)
  have b3 := (b4.setCell (p := ⟨w.heap.size, 8, none⟩) (Nat.le_refl _) (.int .i64 p1)).setCell (p := ⟨w.heap.size, 9, none⟩) (Nat.le_refl _) (.int .i64 p2)
  replace B3 : Blk _ w.heap.size 26 (sRb f 6 sf sh sl df dh dl p1 p2) := B3
  clear B4 B4' b4 ne
  have Bf := B3'.set (sRb f 6 sf sh sl df dh dl p1 p2)
  have bf := below_setRow b3 (Nat.le_of_lt g1) (sRb f 6 sf sh sl df dh dl p1 p2)
  go_wp2_with (first
    | (refine wpList_load_row rfl _ _ rfl w.heap.size (by rfl) _ _ _ _ B3 Try.underlying26 rfl (by kernel_rfl) ?_)
    | (refine wpList_store_row rfl _ _ _ rfl W1.heap.size (sRb f 6 sf sh sl df dh dl p1 p2) (by rfl) (by rfl) _ _ B3' (by kernel_rfl) (by rfl) (by kernel_rfl) ?_))
  exact ret_cell (k := 4) Try.f82 (by kernel_rfl) Bf Try.underlying26 (by kernel_rfl) (by rfl) rfl ⟨rfl, bf⟩
set_option maxRecDepth 100000 in
set_option maxHeartbeats 4000000 in
theorem withPorts_17 (f pr sf sh sl df dh dl : Int) (a : Option Addr) (c : Nat) (l : List Int) (w : World) (h : Row w a l) (h8 : 8 ≤ l.length) (h6 : ¬ pr = 6) (h17 : pr = 17) :
    Calls Try.prog 82 #[.agg (sRb f pr sf sh sl df dh dl 0 0), .slice a l.length c] w fun e w' => e = .returned (.agg (sRb f pr sf sh sl df dh dl (portsOf f pr l).1 (portsOf f pr l).2)) ∧ Below w.heap.size w w' := by
  obtain ⟨V, hV⟩ : ∃ V, portsOf f pr l = V := ⟨_, rfl⟩
  have HV : Hid (portsOf f pr l = V) := hV
  rw [hV]
  clear hV
  obtain ⟨W1, hW1⟩ : ∃ W1, w.alloc (.cells (sRb f pr sf sh sl df dh dl 0 0) 26) = W1 := ⟨_, rfl⟩
  obtain ⟨W2, hW2⟩ : ∃ W2, W1.alloc (.cells (sRb 0 0 0 0 0 0 0 0 0 0) 26) = W2 := ⟨_, rfl⟩
  have b1 := bel_nw hW1
  have b2 := bel_al b1 hW2
  have B1' := blk_nw hW1
  have B1 := B1'.al hW2
  have B2 := blk_nw hW2
  have g1 : w.heap.size < W1.heap.size := B1'.lt
  clear B1'
  have d0 := B1.cell 0 (.int .i64 f) rfl
  have d1 := B1.cell 1 (.int .i64 pr) rfl
  have d2 := B1.cell 2 (.int .i64 sf) rfl
  have d3 := B1.cell 3 (.int .u64 sh) rfl
  have d4 := B1.cell 4 (.int .u64 sl) rfl
  have d5 := B1.cell 5 (.int .i64 df) rfl
  have d6 := B1.cell 6 (.int .u64 dh) rfl
  have d7 := B1.cell 7 (.int .u64 dl) rfl
  have d8 := B1.cell 8 (.int .i64 0) rfl
  have d9 := B1.cell 9 (.int .i64 0) rfl
  obtain ⟨p1, hp1⟩ : ∃ p, u16v l 0 = p := ⟨_, rfl⟩
  obtain ⟨p2, hp2⟩ : ∃ p, u16v l 2 = p := ⟨_, rfl⟩
  have K1 := segU16_any a c l 0 W2 (h.below b2) (by decide)
  rw [hp1] at K1
  have K1 : Hid _ := K1
  have K2 : Hid (∀ W, Row W a l → Calls Try.prog 71 #[.slice a l.length c, .int .i64 2] W _) := fun W hW => by
    have := segU16_any a c l 2 W hW (by decide)
    rw [hp2] at this
    exact this
  have e : V = (p1, p2) := by
    rw [← HV.out, ← hp1, ← hp2]
    simp [portsOf, h17]
  subst e
  clear HV hp1 hp2
  subst h17
  go_enter Try.func82, Try.ntmps82
  go_wp2_with fail
  refine Calls.mono K1.out ?_
  rintro e W3 ⟨rfl, bb⟩
  have B3 := B1.kept bb
  have B3' := B2.kept bb
  have b3 := bel_tr b2 bb
  clear bb B1 B2 b2 hW1 d0 d1 d2 d3 d4 d5 d6 d7 d8 d9
  try clear K1
  go_wp2_with fail
  refine Calls.mono (K2.out _ (h.below b3)) ?_
  rintro e W4 ⟨rfl, bb⟩
  have B4 := B3.kept bb
  have B4' := B3'.kept bb
  have b4 := bel_tr b3 bb
  clear K2 bb B3 B3' b3
  have d8 := B4.cell 8 (.int .i64 0) rfl
  have d9 := B4.cell 9 (.int .i64 0) rfl
  have z8 := B4.frozen 8
  have z9 := B4.frozen 9
  have ne : W1.heap.size ≠ w.heap.size := by omega
  have B3 := (B4.put 8 (.int .i64 p1)).put 9 (.int .i64 p2)
  have B3' := (B4'.put_other B4 ne 8 (.int .i64 p1)).put_other (B4.put 8 (.int .i64 p1)) ne 9 (.int .i64 p2)
  have b3 := (b4.setCell (p := ⟨w.heap.size, 8, none⟩) (Nat.le_refl _) (.int .i64 p1)).setCell (p := ⟨w.heap.size, 9, none⟩) (Nat.le_refl _) (.int .i64 p2)
  replace B3 : Blk _ w.heap.size 26 (sRb f 17 sf sh sl df dh dl p1 p2) := B3
  clear B4 B4' b4 ne
  have Bf := B3'.set (sRb f 17 sf sh sl df dh dl p1 p2)
  have bf := below_setRow b3 (Nat.le_of_lt g1) (sRb f 17 sf sh sl df dh dl p1 p2)
  go_wp2_with (first
    | (refine wpList_load_row rfl _ _ rfl w.heap.size (by rfl) _ _ _ _ B3 Try.underlying26 rfl (by kernel_rfl) ?_)
    | (refine wpList_store_row rfl _ _ _ rfl W1.heap.size (sRb f 17 sf sh sl df dh dl p1 p2) (by rfl) (by rfl) _ _ B3' (by kernel_rfl) (by rfl) (by kernel_rfl) ?_))
  exact ret_cell (k := 4) Try.f82 (by kernel_rfl) Bf Try.underlying26 (by kernel_rfl) (by rfl) rfl ⟨rfl, bf⟩
set_option maxRecDepth 100000 in
set_option maxHeartbeats 4000000 in
theorem withPorts_echo (f pr sf sh sl df dh dl : Int) (a : Option Addr) (c : Nat) (l : List Int) (w : World) (h : Row w a l) (h8 : 8 ≤ l.length) (h6 : ¬ pr = 6) (h17 : ¬ pr = 17) (hi : pr = icmpOf f) (he : isEcho f (l.getD 0 0) = true) :
    Calls Try.prog 82 #[.agg (sRb f pr sf sh sl df dh dl 0 0), .slice a l.length c] w fun e w' => e = .returned (.agg (sRb f pr sf sh sl df dh dl (portsOf f pr l).1 (portsOf f pr l).2)) ∧ Below w.heap.size w w' := by
  obtain ⟨V, hV⟩ : ∃ V, portsOf f pr l = V := ⟨_, rfl⟩
  have HV : Hid (portsOf f pr l = V) := hV
  rw [hV]
  clear hV
  obtain ⟨W1, hW1⟩ : ∃ W1, w.alloc (.cells (sRb f pr sf sh sl df dh dl 0 0) 26) = W1 := ⟨_, rfl⟩
  obtain ⟨W2, hW2⟩ : ∃ W2, W1.alloc (.cells (sRb 0 0 0 0 0 0 0 0 0 0) 26) = W2 := ⟨_, rfl⟩
  have b1 := bel_nw hW1
  have b2 := bel_al b1 hW2
  have B1' := blk_nw hW1
  have B1 := B1'.al hW2
  have B2 := blk_nw hW2
  have g1 : w.heap.size < W1.heap.size := B1'.lt
  clear B1'
  have d0 := B1.cell 0 (.int .i64 f) rfl
  have d1 := B1.cell 1 (.int .i64 pr) rfl
  have d2 := B1.cell 2 (.int .i64 sf) rfl
  have d3 := B1.cell 3 (.int .u64 sh) rfl
  have d4 := B1.cell 4 (.int .u64 sl) rfl
  have d5 := B1.cell 5 (.int .i64 df) rfl
  have d6 := B1.cell 6 (.int .u64 dh) rfl
  have d7 := B1.cell 7 (.int .u64 dl) rfl
  have d8 := B1.cell 8 (.int .i64 0) rfl
  have d9 := B1.cell 9 (.int .i64 0) rfl
  have HX : Hid ((¬ pr = 6) ∧ (¬ pr = 17) ∧ pr = icmpOf f ∧ isEcho f (l.getD 0 0) = true) := ⟨h6, h17, hi, he⟩
  have h6' : (pr == 6) = false := by simpa using h6
  have h17' : (pr == 17) = false := by simpa using h17
  have KI : Hid (∀ W, Calls Try.prog 57 #[.int .i64 f] W _) := fun W => icmpOf_any f W
  clear h6 h17
  obtain ⟨I, hI⟩ : ∃ I, icmpOf f = I := ⟨_, rfl⟩
  rw [hI] at KI hi HX
  have HI : Hid (icmpOf f = I) := hI
  clear hI
  obtain ⟨x0, e0⟩ : ∃ x, l.getD 0 0 = x := ⟨_, rfl⟩
  have q0 := h.bytes.get 0
  rw [e0] at q0 he
  obtain ⟨bk, off, rfl, hcl⟩ := h.cells (by omega)
  have y0 := kept (b := bk) (o := off + 0) b2 (hcl 0 (by omega))
  rw [e0, Nat.add_zero] at y0
  clear hcl e0
  have wx0 : IntKind.i64.wrap x0 = x0 := wraps_i64 _ (by omega) (by omega)
  have i0 : (0 : Int) < (l.length : Int) := by omega
  have hne : ¬ l = [] := by intro e; rw [e] at h8; simp at h8
  have KE : Hid (∀ W, Calls Try.prog 64 #[.int .i64 f, .int .i64 x0] W _) := fun W => isEcho_any f x0 W
  rw [he] at KE
  clear he
  obtain ⟨p1, hp1⟩ : ∃ p, u16v l 4 = p := ⟨_, rfl⟩
  have K2 : Hid (∀ W, Row W (some ⟨bk, off, none⟩) l → Calls Try.prog 71 #[.slice (some ⟨bk, off, none⟩) l.length c, .int .i64 4] W _) := fun W hW => by
    have := segU16_any (some ⟨bk, off, none⟩) c l 4 W hW (by decide)
    rw [hp1] at this
    exact this
  have e : V = (p1, p1) := by
    rw [← HV.out, ← hp1]
    obtain ⟨z1, z2, z3, z4⟩ := HX.out
    unfold portsOf
    rw [if_neg z1, if_neg z2, HI.out, if_pos z3, if_pos z4]
  subst e
  clear HV hp1 HX HI
  subst hi
  go_enter Try.func82, Try.ntmps82
  go_wp2_with fail
  refine Calls.mono (KI.out _) ?_
  rintro e W3 ⟨rfl, hW3⟩
  subst hW3
  clear KI
  go_wp2_with fail
  refine wp_region_noPanic ?_
  refine wp_region_held_drew (S := fun w' => w'.cell? ⟨bk, off, none⟩ = some (.int .u8 x0) ∧ w'.cell? ⟨w.heap.size, 0, none⟩ = some (.int .i64 f)) (by kernel_rfl) (by exact ⟨y0, d0⟩) (fun hHeld => ?_)
  refine tk (i := 0) (oi := sgrR8o5) (v := (.pointer (some ⟨w.heap.size, 0, none⟩))) hHeld ?_ ?_
  · intro w9 hSw
    try dsimp only at hSw
    go_simp
  try simp only [pu]
  refine tk (i := 1) (oi := sgrR8o4) (v := (.int .i64 f)) hHeld ?_ ?_
  · intro w9 hSw
    try dsimp only at hSw
    go_simp
  try simp only [pu]
  refine tk (i := 2) (oi := sgrR8o6) (v := (.slice (some ⟨bk, off, none⟩) l.length c)) hHeld ?_ ?_
  · intro w9 hSw
    try dsimp only at hSw
    go_simp
  try simp only [pu]
  refine tk (i := 3) (oi := sgrR8o1) (v := (.pointer (some ⟨bk, off, none⟩))) hHeld ?_ ?_
  · intro w9 hSw
    try dsimp only at hSw
    go_simp
  try simp only [pu]
  refine tk (i := 4) (oi := sgrR8o3) (v := (.int .u8 x0)) hHeld ?_ ?_
  · intro w9 hSw
    try dsimp only at hSw
    go_simp
  try simp only [pu]
  refine tk (i := 5) (oi := sgrR8o2) (v := (.int .i64 x0)) hHeld ?_ ?_
  · intro w9 hSw
    try dsimp only at hSw
    go_simp
  try simp only [pu]
  refine wpAnyH_ready (rs := [6]) (by kernel_rfl) (by simp) ?_
  refine AllReadyH.cons (o := sgrR8o0) rfl (fun K hK => ?_) AllReadyH.nil
  go_simp
  refine Calls.mono (KE.out _) ?_
  rintro e W4 ⟨rfl, hW4⟩
  refine hK.out _ _ ?_ (fun hHeld => ?_)
  · rw [hW4]; exact ⟨y0, d0⟩
  clear hK K
  try simp only [pu]
  refine wpAnyH_done (by kernel_rfl) ?_ _
  refine NoPanic.normal ?_
  replace B1 := B1.drew
  replace B2 := B2.drew
  replace b2 := b2.drew
  rw [← hW4] at B1 B2 b2
  clear KE hW4
  go_wp2_with fail
  refine Calls.mono (K2.out _ (h.below b2)) ?_
  rintro e W3 ⟨rfl, bb⟩
  have B3 := B1.kept bb
  have B3' := B2.kept bb
  have b3 := bel_tr b2 bb
  clear bb B1 B2 b2 hW1 d0 d1 d2 d3 d4 d5 d6 d7 d8 d9
  try clear K1
  go_wp2_with fail
  refine Calls.mono (K2.out _ (h.below b3)) ?_
  rintro e W4 ⟨rfl, bb⟩
  have B4 := B3.kept bb
  have B4' := B3'.kept bb
  have b4 := bel_tr b3 bb
  clear K2 bb B3 B3' b3
  have d8 := B4.cell 8 (.int .i64 0) rfl
  have d9 := B4.cell 9 (.int .i64 0) rfl
  have z8 := B4.frozen 8
  have z9 := B4.frozen 9
  have ne : W1.heap.size ≠ w.heap.size := by omega
  have B3 := (B4.put 8 (.int .i64 p1)).put 9 (.int .i64 p1)
  have B3' := (B4'.put_other B4 ne 8 (.int .i64 p1)).put_other (B4.put 8 (.int .i64 p1)) ne 9 (.int .i64 p1)
  have b3 := (b4.setCell (p := ⟨w.heap.size, 8, none⟩) (Nat.le_refl _) (.int .i64 p1)).setCell (p := ⟨w.heap.size, 9, none⟩) (Nat.le_refl _) (.int .i64 p1)
  replace B3 : Blk _ w.heap.size 26 (sRb f pr sf sh sl df dh dl p1 p1) := B3
  clear B4 B4' b4 ne
  have Bf := B3'.set (sRb f pr sf sh sl df dh dl p1 p1)
  have bf := below_setRow b3 (Nat.le_of_lt g1) (sRb f pr sf sh sl df dh dl p1 p1)
  go_wp2_with (first
    | (refine wpList_load_row rfl _ _ rfl w.heap.size (by rfl) _ _ _ _ B3 Try.underlying26 rfl (by kernel_rfl) ?_)
    | (refine wpList_store_row rfl _ _ _ rfl W1.heap.size (sRb f pr sf sh sl df dh dl p1 p1) (by rfl) (by rfl) _ _ B3' (by kernel_rfl) (by rfl) (by kernel_rfl) ?_))
  exact ret_cell (k := 4) Try.f82 (by kernel_rfl) Bf Try.underlying26 (by kernel_rfl) (by rfl) rfl ⟨rfl, bf⟩
set_option maxRecDepth 100000 in
set_option maxHeartbeats 4000000 in
theorem withPorts_mute (f pr sf sh sl df dh dl : Int) (a : Option Addr) (c : Nat) (l : List Int) (w : World) (h : Row w a l) (h8 : 8 ≤ l.length) (h6 : ¬ pr = 6) (h17 : ¬ pr = 17) (hi : pr = icmpOf f) (he : isEcho f (l.getD 0 0) = false) :
    Calls Try.prog 82 #[.agg (sRb f pr sf sh sl df dh dl 0 0), .slice a l.length c] w fun e w' => e = .returned (.agg (sRb f pr sf sh sl df dh dl (portsOf f pr l).1 (portsOf f pr l).2)) ∧ Below w.heap.size w w' := by
  obtain ⟨V, hV⟩ : ∃ V, portsOf f pr l = V := ⟨_, rfl⟩
  have HV : Hid (portsOf f pr l = V) := hV
  rw [hV]
  clear hV
  obtain ⟨W1, hW1⟩ : ∃ W1, w.alloc (.cells (sRb f pr sf sh sl df dh dl 0 0) 26) = W1 := ⟨_, rfl⟩
  obtain ⟨W2, hW2⟩ : ∃ W2, W1.alloc (.cells (sRb 0 0 0 0 0 0 0 0 0 0) 26) = W2 := ⟨_, rfl⟩
  have b1 := bel_nw hW1
  have b2 := bel_al b1 hW2
  have B1' := blk_nw hW1
  have B1 := B1'.al hW2
  have B2 := blk_nw hW2
  have g1 : w.heap.size < W1.heap.size := B1'.lt
  clear B1'
  have d0 := B1.cell 0 (.int .i64 f) rfl
  have d1 := B1.cell 1 (.int .i64 pr) rfl
  have d2 := B1.cell 2 (.int .i64 sf) rfl
  have d3 := B1.cell 3 (.int .u64 sh) rfl
  have d4 := B1.cell 4 (.int .u64 sl) rfl
  have d5 := B1.cell 5 (.int .i64 df) rfl
  have d6 := B1.cell 6 (.int .u64 dh) rfl
  have d7 := B1.cell 7 (.int .u64 dl) rfl
  have d8 := B1.cell 8 (.int .i64 0) rfl
  have d9 := B1.cell 9 (.int .i64 0) rfl
  have HX : Hid ((¬ pr = 6) ∧ (¬ pr = 17) ∧ pr = icmpOf f ∧ isEcho f (l.getD 0 0) = false) := ⟨h6, h17, hi, he⟩
  have h6' : (pr == 6) = false := by simpa using h6
  have h17' : (pr == 17) = false := by simpa using h17
  have KI : Hid (∀ W, Calls Try.prog 57 #[.int .i64 f] W _) := fun W => icmpOf_any f W
  clear h6 h17
  obtain ⟨I, hI⟩ : ∃ I, icmpOf f = I := ⟨_, rfl⟩
  rw [hI] at KI hi HX
  have HI : Hid (icmpOf f = I) := hI
  clear hI
  obtain ⟨x0, e0⟩ : ∃ x, l.getD 0 0 = x := ⟨_, rfl⟩
  have q0 := h.bytes.get 0
  rw [e0] at q0 he
  obtain ⟨bk, off, rfl, hcl⟩ := h.cells (by omega)
  have y0 := kept (b := bk) (o := off + 0) b2 (hcl 0 (by omega))
  rw [e0, Nat.add_zero] at y0
  clear hcl e0
  have wx0 : IntKind.i64.wrap x0 = x0 := wraps_i64 _ (by omega) (by omega)
  have i0 : (0 : Int) < (l.length : Int) := by omega
  have hne : ¬ l = [] := by intro e; rw [e] at h8; simp at h8
  have KE : Hid (∀ W, Calls Try.prog 64 #[.int .i64 f, .int .i64 x0] W _) := fun W => isEcho_any f x0 W
  rw [he] at KE
  clear he
  have e : V = (0, 0) := by
    rw [← HV.out]
    obtain ⟨z1, z2, z3, z4⟩ := HX.out
    unfold portsOf
    rw [if_neg z1, if_neg z2, HI.out, if_pos z3, if_neg (by rw [z4]; decide)]
  subst e
  clear HV HX HI
  subst hi
  go_enter Try.func82, Try.ntmps82
  go_wp2_with fail
  refine Calls.mono (KI.out _) ?_
  rintro e W3 ⟨rfl, hW3⟩
  subst hW3
  clear KI
  go_wp2_with fail
  refine wp_region_noPanic ?_
  refine wp_region_held_drew (S := fun w' => w'.cell? ⟨bk, off, none⟩ = some (.int .u8 x0) ∧ w'.cell? ⟨w.heap.size, 0, none⟩ = some (.int .i64 f)) (by kernel_rfl) (by exact ⟨y0, d0⟩) (fun hHeld => ?_)
  refine tk (i := 0) (oi := sgrR8o5) (v := (.pointer (some ⟨w.heap.size, 0, none⟩))) hHeld ?_ ?_
  · intro w9 hSw
    try dsimp only at hSw
    go_simp
  try simp only [pu]
  refine tk (i := 1) (oi := sgrR8o4) (v := (.int .i64 f)) hHeld ?_ ?_
  · intro w9 hSw
    try dsimp only at hSw
    go_simp
  try simp only [pu]
  refine tk (i := 2) (oi := sgrR8o6) (v := (.slice (some ⟨bk, off, none⟩) l.length c)) hHeld ?_ ?_
  · intro w9 hSw
    try dsimp only at hSw
    go_simp
  try simp only [pu]
  refine tk (i := 3) (oi := sgrR8o1) (v := (.pointer (some ⟨bk, off, none⟩))) hHeld ?_ ?_
  · intro w9 hSw
    try dsimp only at hSw
    go_simp
  try simp only [pu]
  refine tk (i := 4) (oi := sgrR8o3) (v := (.int .u8 x0)) hHeld ?_ ?_
  · intro w9 hSw
    try dsimp only at hSw
    go_simp
  try simp only [pu]
  refine tk (i := 5) (oi := sgrR8o2) (v := (.int .i64 x0)) hHeld ?_ ?_
  · intro w9 hSw
    try dsimp only at hSw
    go_simp
  try simp only [pu]
  refine wpAnyH_ready (rs := [6]) (by kernel_rfl) (by simp) ?_
  refine AllReadyH.cons (o := sgrR8o0) rfl (fun K hK => ?_) AllReadyH.nil
  go_simp
  refine Calls.mono (KE.out _) ?_
  rintro e W4 ⟨rfl, hW4⟩
  refine hK.out _ _ ?_ (fun hHeld => ?_)
  · rw [hW4]; exact ⟨y0, d0⟩
  clear hK K
  try simp only [pu]
  refine wpAnyH_done (by kernel_rfl) ?_ _
  refine NoPanic.normal ?_
  replace B1 := B1.drew
  replace B2 := B2.drew
  replace b2 := b2.drew
  rw [← hW4] at B1 B2 b2
  clear KE hW4
  have B3 := B1
  have B3' := B2
  have b3 := b2
  have Bf := B3'.set (sRb f pr sf sh sl df dh dl 0 0)
  have bf := below_setRow b3 (Nat.le_of_lt g1) (sRb f pr sf sh sl df dh dl 0 0)
  go_wp2_with (first
    | (refine wpList_load_row rfl _ _ rfl w.heap.size (by rfl) _ _ _ _ B3 Try.underlying26 rfl (by kernel_rfl) ?_)
    | (refine wpList_store_row rfl _ _ _ rfl W1.heap.size (sRb f pr sf sh sl df dh dl 0 0) (by rfl) (by rfl) _ _ B3' (by kernel_rfl) (by rfl) (by kernel_rfl) ?_))
  exact ret_cell (k := 4) Try.f82 (by kernel_rfl) Bf Try.underlying26 (by kernel_rfl) (by rfl) rfl ⟨rfl, bf⟩
set_option maxRecDepth 100000 in
set_option maxHeartbeats 4000000 in
theorem withPorts_none (f pr sf sh sl df dh dl : Int) (a : Option Addr) (c : Nat) (l : List Int) (w : World) (h : Row w a l) (h8 : 8 ≤ l.length) (h6 : ¬ pr = 6) (h17 : ¬ pr = 17) (hi : ¬ pr = icmpOf f) :
    Calls Try.prog 82 #[.agg (sRb f pr sf sh sl df dh dl 0 0), .slice a l.length c] w fun e w' => e = .returned (.agg (sRb f pr sf sh sl df dh dl (portsOf f pr l).1 (portsOf f pr l).2)) ∧ Below w.heap.size w w' := by
  obtain ⟨V, hV⟩ : ∃ V, portsOf f pr l = V := ⟨_, rfl⟩
  have HV : Hid (portsOf f pr l = V) := hV
  rw [hV]
  clear hV
  obtain ⟨W1, hW1⟩ : ∃ W1, w.alloc (.cells (sRb f pr sf sh sl df dh dl 0 0) 26) = W1 := ⟨_, rfl⟩
  obtain ⟨W2, hW2⟩ : ∃ W2, W1.alloc (.cells (sRb 0 0 0 0 0 0 0 0 0 0) 26) = W2 := ⟨_, rfl⟩
  have b1 := bel_nw hW1
  have b2 := bel_al b1 hW2
  have B1' := blk_nw hW1
  have B1 := B1'.al hW2
  have B2 := blk_nw hW2
  have g1 : w.heap.size < W1.heap.size := B1'.lt
  clear B1'
  have d0 := B1.cell 0 (.int .i64 f) rfl
  have d1 := B1.cell 1 (.int .i64 pr) rfl
  have d2 := B1.cell 2 (.int .i64 sf) rfl
  have d3 := B1.cell 3 (.int .u64 sh) rfl
  have d4 := B1.cell 4 (.int .u64 sl) rfl
  have d5 := B1.cell 5 (.int .i64 df) rfl
  have d6 := B1.cell 6 (.int .u64 dh) rfl
  have d7 := B1.cell 7 (.int .u64 dl) rfl
  have d8 := B1.cell 8 (.int .i64 0) rfl
  have d9 := B1.cell 9 (.int .i64 0) rfl
  have h6' : (pr == 6) = false := by simpa using h6
  have h17' : (pr == 17) = false := by simpa using h17
  have KI : Hid (∀ W, Calls Try.prog 57 #[.int .i64 f] W _) := fun W => icmpOf_any f W
  have e : V = (0, 0) := by
    rw [← HV.out]
    unfold portsOf
    rw [if_neg h6, if_neg h17, if_neg hi]
  subst e
  have hi' : (pr == icmpOf f) = false := by simpa using hi
  generalize icmpOf f = I at *
  clear HV hi h6 h17
  go_enter Try.func82, Try.ntmps82
  go_wp2_with fail
  refine Calls.mono (KI.out _) ?_
  rintro e W3 ⟨rfl, hW3⟩
  subst hW3
  clear KI
  have B3 := B1
  have B3' := B2
  have b3 := b2
  have Bf := B3'.set (sRb f pr sf sh sl df dh dl 0 0)
  have bf := below_setRow b3 (Nat.le_of_lt g1) (sRb f pr sf sh sl df dh dl 0 0)
  go_wp2_with (first
    | (refine wpList_load_row rfl _ _ rfl w.heap.size (by rfl) _ _ _ _ B3 Try.underlying26 rfl (by kernel_rfl) ?_)
    | (refine wpList_store_row rfl _ _ _ rfl W1.heap.size (sRb f pr sf sh sl df dh dl 0 0) (by rfl) (by rfl) _ _ B3' (by kernel_rfl) (by rfl) (by kernel_rfl) ?_))
  exact ret_cell (k := 4) Try.f82 (by kernel_rfl) Bf Try.underlying26 (by kernel_rfl) (by rfl) rfl ⟨rfl, bf⟩
theorem withPorts_any (f pr sf sh sl df dh dl : Int) (a : Option Addr) (c : Nat) (l : List Int) (w : World) (h : Row w a l) (h8 : 8 ≤ l.length) :
    Calls Try.prog 82 #[.agg (sRb f pr sf sh sl df dh dl 0 0), .slice a l.length c] w fun e w' => e = .returned (.agg (sRb f pr sf sh sl df dh dl (portsOf f pr l).1 (portsOf f pr l).2)) ∧ Below w.heap.size w w' := by
  by_cases h6 : pr = 6
  · exact withPorts_6 f pr sf sh sl df dh dl a c l w h h8 h6
  by_cases h17 : pr = 17
  · exact withPorts_17 f pr sf sh sl df dh dl a c l w h h8 h6 h17
  by_cases hi : pr = icmpOf f
  · cases he : isEcho f (l.getD 0 0) with
    | true => exact withPorts_echo f pr sf sh sl df dh dl a c l w h h8 h6 h17 hi he
    | false => exact withPorts_mute f pr sf sh sl df dh dl a c l w h h8 h6 h17 hi he
  · exact withPorts_none f pr sf sh sl df dh dl a c l w h h8 h6 h17 hi
end Go.Proofs.Ytpjjkdgmfjhfiaa
