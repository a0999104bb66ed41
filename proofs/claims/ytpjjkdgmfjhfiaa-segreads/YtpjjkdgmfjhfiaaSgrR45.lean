/- Texts joined: SgRnh -/
import Derived.Test.YtpjjkdgmfjhfiaaSgrR44
namespace Go.Proofs.Ytpjjkdgmfjhfiaa
open Go.RowKit
set_option linter.unusedVariables false
set_option linter.unusedSimpArgs false
set_option maxRecDepth 100000 in
set_option maxHeartbeats 4000000 in
theorem rinner_6e (f : Int) (bk off dc : Nat) (b : List Int) (w : World) (h : Row w (some ⟨bk, off, none⟩) b) (hll : b.length ≤ 140737488351232) (hc : b.length ≤ dc) (hcm : dc ≤ 9223372036854775807) (hf : f = 6) (hge : ¬ b.length < 40) (hv : b.getD 0 0 / 16 = f) (h6 : wE (b.getD 6 0) (b.drop 40) = 0) (h7 : (wS (b.getD 6 0) (b.drop 40)).l.length < 8) :
    Calls Try.prog 61 #[.int .i64 f, .slice (some ⟨bk, off, none⟩) b.length dc] w fun e w' => e = .returned (.tuple #[.agg (tpv ((inner f b).getD zTp)), .bool (inner f b).isSome]) ∧ Below w.heap.size w w' := by
  have eN : inner f b = none := by
    unfold inner
    rw [if_neg (by omega), if_neg (by simpa using hv), if_neg (by omega)]
    unfold inner6
    rw [if_neg hge, if_pos (Or.inr h7)]
  rw [eN]
  clear eN
  obtain ⟨W1, hW1⟩ : ∃ W1, w.alloc (.cells (sRb 0 0 0 0 0 0 0 0 0 0) 26) = W1 := ⟨_, rfl⟩
  have b1 := bel_nw hW1
  have A1 := blk_nw hW1
  have g1 : w.heap.size < W1.heap.size := A1.lt
  obtain ⟨W2, hW2⟩ : ∃ W2, W1.alloc (.cells (sRb 0 0 0 0 0 0 0 0 0 0) 26) = W2 := ⟨_, rfl⟩
  have b2 := bel_al b1 hW2
  have A2 := A1.al hW2
  have V2 := blk_nw hW2
  have b3 := below_setRow b2 (Nat.le_of_lt g1) (sRb f 0 0 0 0 0 0 0 0 0)
  have A3 := A2.other (show w.heap.size ≠ W1.heap.size by omega) (sRb f 0 0 0 0 0 0 0 0 0)
  have V3 := V2.set (sRb f 0 0 0 0 0 0 0 0 0)
  obtain ⟨W3, hW3⟩ : ∃ W, W2.setRow W1.heap.size (sRb f 0 0 0 0 0 0 0 0 0) = W := ⟨_, rfl⟩
  rw [hW3] at b3 A3 V3
  have HW3 : Hid _ := hW3
  have hb0 : (Instr.build 26 #[(0, .int .i64 f)]).run Try.prog W1 = .ok (.agg (sRb f 0 0 0 0 0 0 0 0 0)) W1 := by kernel_rfl
  have hbz : (Instr.build 26 #[]).run Try.prog W3 = .ok (.agg (sRb 0 0 0 0 0 0 0 0 0 0)) W3 := by kernel_rfl
  clear hW3
  have f4 : (f == 4) = false := by rw [hf]; rfl
  have f6 : (f == 6) = true := by simpa using hf
  have hge' : ¬ (b.length : Int) < 40 := by omega
  obtain ⟨x0, e0⟩ : ∃ x, b.getD 0 0 = x := ⟨_, rfl⟩
  have q0 := h.bytes.get 0
  obtain ⟨bk', off', ee, hcl⟩ := h.cells (by omega)
  cases ee
  have u0 := hcl 0 (by omega)
  rw [e0, Nat.add_zero] at u0
  rw [e0] at q0
  have y0 := kept (b := bk) (o := off) b3 u0
  have i0 : (0 : Int) < (b.length : Int) := by omega
  have hne' : ¬ b = [] := by intro e; rw [e] at hge; simp at hge
  have wx0 : IntKind.i64.wrap (x0 / 16) = x0 / 16 := wraps_i64 _ (by omega) (by omega)
  rw [e0] at hv
  have hv' : (x0 / 16 != f) = false := by simpa using hv
  obtain ⟨x6, e6⟩ : ∃ x, b.getD 6 0 = x := ⟨_, rfl⟩
  have q6 := h.bytes.get 6
  have y6 := kept (b := bk) (o := off + 6) b3 (hcl 6 (by omega))
  rw [e6] at y6 q6
  have i6 : (6 : Int) < (b.length : Int) := by omega
  have wx6 : IntKind.i64.wrap x6 = x6 := wraps_i64 _ (by omega) (by omega)
  have jh2 : (40 : Int) ≤ (b.length : Int) := by omega
  obtain ⟨a3, ha3⟩ : ∃ a3 : Option Addr, (if dc = 40 then (some ⟨bk, off, none⟩) else Option.map (fun x : Addr => x.add 40) (some ⟨bk, off, none⟩)) = a3 := ⟨_, rfl⟩
  have H3 : Hid ((if dc = 40 then some (⟨bk, off, none⟩ : Addr) else some ⟨bk, off + 40, none⟩) = a3) := by
    have : (if dc = 40 then some (⟨bk, off, none⟩ : Addr) else some ⟨bk, off + 40, none⟩) = a3 := by
      rw [← ha3]
      simp [Go.WideShapes.add_plain]
    exact this
  have h3' : (if dc = 40 then some (⟨bk, off, none⟩ : Addr) else some ⟨bk, off + 40, none⟩) = a3 := H3.out
  obtain ⟨c3, hc3⟩ : ∃ c3, dc - 40 = c3 := ⟨_, rfl⟩
  have hn3 : a3 = none → c3 = 0 := fun e => by
    rw [e] at ha3
    split at ha3
    · cases ha3
    · cases ha3
  obtain ⟨D, hD⟩ : ∃ D, b.drop 40 = D := ⟨_, rfl⟩
  have lD : D.length = b.length - 40 := by rw [← hD, List.length_drop]
  obtain ⟨N, hN⟩ : ∃ N, (wS x6 D).next = N := ⟨_, rfl⟩
  obtain ⟨R, hR⟩ : ∃ R, (wS x6 D).l = R := ⟨_, rfl⟩
  obtain ⟨E, hE⟩ : ∃ E, wE x6 D = E := ⟨_, rfl⟩
  obtain ⟨XN, hXN⟩ : ∃ E, (wS x6 D).ex.length = E := ⟨_, rfl⟩
  have KW : Hid (∀ W, Row W (some ⟨bk, off, none⟩) b → Calls Try.prog 76 #[.int .i64 x6, .slice a3 (b.length - 40) (dc - 40)] W fun e w' => ∃ xa xc a' c', e = .returned (.tuple #[.int .i64 N, .slice xa XN xc, .slice a' R.length c', .int .i64 E]) ∧ Fresh W w' a' c' R) := fun W hW => by
    have hr := hW.drop dc 40 hc
    rw [ha3, hD] at hr
    rw [← hc3] at hn3
    have := rwalk_any x6 a3 (dc - 40) D W hr (by omega) (by omega) hn3
    rw [lD, hN, hR, hE, hXN] at this
    refine Calls.mono this ?_
    rintro e w' ⟨xa, xc, a', c', h1, h2, _, _⟩
    exact ⟨xa, xc, a', c', h1, h2⟩
  rw [e6, hD] at h6 h7
  rw [hE] at h6
  rw [hR] at h7
  have hE' : (E != 0) = false := by simpa using h6
  have hr8 : (R.length : Int) < 8 := by omega
  obtain ⟨⟨sf, sh, sl⟩, hAs⟩ : ∃ x : Ad, (fromB (partv b 8 16)).1 = x := ⟨_, rfl⟩
  obtain ⟨eS, hEs⟩ : ∃ x, (fromB (partv b 8 16)).2 = x := ⟨_, rfl⟩
  have KA : Hid (∀ W, Row W (some ⟨bk, off, none⟩) b → Calls Try.prog 75 #[.slice (some ⟨bk, off + 8, none⟩) 16 (dc - 8)] W fun e w' => e = .returned (.tuple #[.agg #[.int .i64 sf, .int .u64 sh, .int .u64 sl], .int .i64 eS]) ∧ Below W.heap.size W w') := fun W hW => by
    have := rfromPart bk off dc b 8 16 W hc (by omega) (by decide) (by decide) hW
    rw [show ((8 : Nat) : Int) = 8 from rfl, show ((16 : Nat) : Int) = 16 from rfl, hAs, hEs] at this
    exact this
  obtain ⟨⟨df, dh, dl⟩, hAd⟩ : ∃ x : Ad, (fromB (partv b 24 16)).1 = x := ⟨_, rfl⟩
  obtain ⟨eD, hEd⟩ : ∃ x, (fromB (partv b 24 16)).2 = x := ⟨_, rfl⟩
  have KB : Hid (∀ W, Row W (some ⟨bk, off, none⟩) b → Calls Try.prog 75 #[.slice (some ⟨bk, off + 24, none⟩) 16 (dc - 24)] W fun e w' => e = .returned (.tuple #[.agg #[.int .i64 df, .int .u64 dh, .int .u64 dl], .int .i64 eD]) ∧ Below W.heap.size W w') := fun W hW => by
    have := rfromPart bk off dc b 24 16 W hc (by omega) (by decide) (by decide) hW
    rw [show ((24 : Nat) : Int) = 24 from rfl, show ((16 : Nat) : Int) = 16 from rfl, hAd, hEd] at this
    exact this
  clear hf hv hcl e0 u0 e6 hN hXN ha3 hD lD hc3
  clear hR hE h6 hAs hAd hEs hEd
  go_enter Try.func61, Try.ntmps61
  go_wp2_with (first
    | (refine wpList_build _ rfl _ _ rfl _ (by rfl) _ hb0 ?_)
    | (refine wpList_store_row rfl _ _ _ rfl W1.heap.size (sRb f 0 0 0 0 0 0 0 0 0) (by rfl) (by rfl) _ _ V2 (by kernel_rfl) (by rfl) (by kernel_rfl) ?_; rw [HW3.out]))
  refine wp_region_noPanic ?_
  refine wp_region_held_drew (S := fun w' => w'.cell? ⟨bk, off + 6, none⟩ = some (.int .u8 x6)) (by kernel_rfl) (by exact y6) (fun hHeld => ?_)
  refine tk (i := 0) (oi := { dst := some 72, op := Op.move (.tmp 1), type := 28, pos := "ref.go:95", after := #[], guard := none }) (v := (.slice (some ⟨bk, off, none⟩) b.length dc)) hHeld ?_ ?_
  · intro w9 hSw
    try dsimp only at hSw
    go_simp
  try simp only [pu]
  refine tk (i := 1) (oi := { dst := some 73, op := Op.indexAddr 28 (.tmp 72) (.const (.int .i64 6)), type := 0, pos := "ref.go:95", after := #[{ on := 0, ground := Ground.data }], guard := none }) (v := (.pointer (some ⟨bk, off + 6, none⟩))) hHeld ?_ ?_
  · intro w9 hSw
    try dsimp only at hSw
    go_simp
  try simp only [pu]
  refine tk (i := 2) (oi := { dst := some 74, op := Op.load 5 (.tmp 73), type := 5, pos := "ref.go:95", after := #[{ on := 1, ground := Ground.data }], guard := none }) (v := (.int .u8 x6)) hHeld ?_ ?_
  · intro w9 hSw
    try dsimp only at hSw
    go_simp
  try simp only [pu]
  refine tk (i := 3) (oi := { dst := some 75, op := Op.convert 5 3 (.tmp 74), type := 3, pos := "ref.go:95", after := #[{ on := 2, ground := Ground.data }], guard := none }) (v := (.int .i64 x6)) hHeld ?_ ?_
  · intro w9 hSw
    try dsimp only at hSw
    go_simp
  try simp only [pu]
  refine tk (i := 4) (oi := { dst := some 76, op := Op.move (.tmp 1), type := 28, pos := "ref.go:95", after := #[], guard := none }) (v := (.slice (some ⟨bk, off, none⟩) b.length dc)) hHeld ?_ ?_
  · intro w9 hSw
    try dsimp only at hSw
    go_simp
  try simp only [pu]
  refine tk (i := 5) (oi := { dst := some 77, op := Op.slice 28 (.tmp 76) (some (.const (.int .i64 40))) none none, type := 28, pos := "ref.go:95", after := #[{ on := 4, ground := Ground.data }], guard := none }) (v := (.slice a3 (b.length - 40) (dc - 40))) hHeld ?_ ?_
  · intro w9 hSw
    try dsimp only at hSw
    go_simp
    try exact H3.out
  try simp only [pu]
  refine wpAnyH_ready (rs := [6]) (by kernel_rfl) (by simp) ?_
  refine AllReadyH.cons (o := { dst := some 78, op := Op.call { callee := Callee.value (.func 76), args := #[.tmp 75, .tmp 77], argTypes := #[3, 28] }, type := 96, pos := "ref.go:95", after := #[{ on := 3, ground := Ground.data }, { on := 5, ground := Ground.data }], guard := none }) rfl (fun K hK => ?_) AllReadyH.nil
  go_simp
  refine Calls.mono (KW.out _ (h.below b3.drew)) ?_
  rintro e W4 ⟨xa, xc, a', c', rfl, F4⟩
  have V4 := V3.drew.kept F4.below
  have A4 := A3.drew.kept F4.below
  have b4 : Below w.heap.size w W4 := b3.drew.trans (F4.below.mono b3.drew.size)
  have s4 := F4.row.small
  have t4 := F4.row.bytes
  have O4 := F4.owns
  have rc4 := F4.room
  have rn4 := F4.nil
  refine hK.out _ _ ?_ (fun hHeld => ?_)
  · exact kept (b := bk) (o := off + 6) F4.below y6
  clear hK K
  try simp only [pu]
  refine tk (i := 7) (oi := { dst := some 71, op := Op.move (.tmp 78), type := 96, pos := "ref.go:95", after := #[{ on := 6, ground := Ground.data }], guard := none }) (v := (.tuple #[.int .i64 N, .slice xa XN xc, .slice a' R.length c', .int .i64 E])) hHeld ?_ ?_
  · intro w9 hSw
    try dsimp only at hSw
    go_simp
  try simp only [pu]
  refine tk (i := 8) (oi := { dst := some 79, op := Op.extract (.tmp 71) 0, type := 3, pos := "ref.go:95", after := #[{ on := 7, ground := Ground.data }], guard := none }) (v := (.int .i64 N)) hHeld ?_ ?_
  · intro w9 hSw
    try dsimp only at hSw
    go_simp
  try simp only [pu]
  refine tk (i := 9) (oi := { dst := some 80, op := Op.extract (.tmp 71) 1, type := 34, pos := "ref.go:95", after := #[{ on := 7, ground := Ground.data }, { on := 12, ground := Ground.gcOnly Departure.lateStores }], guard := none }) (v := (.slice xa XN xc)) hHeld ?_ ?_
  · intro w9 hSw
    try dsimp only at hSw
    go_simp
  try simp only [pu]
  refine tk (i := 10) (oi := { dst := some 81, op := Op.extract (.tmp 71) 2, type := 28, pos := "ref.go:95", after := #[{ on := 7, ground := Ground.data }, { on := 13, ground := Ground.gcOnly Departure.lateStores }], guard := none }) (v := (.slice a' R.length c')) hHeld ?_ ?_
  · intro w9 hSw
    try dsimp only at hSw
    go_simp
  try simp only [pu]
  refine tk (i := 11) (oi := { dst := some 82, op := Op.extract (.tmp 71) 3, type := 3, pos := "ref.go:95", after := #[{ on := 7, ground := Ground.data }, { on := 14, ground := Ground.gcOnly Departure.lateStores }], guard := none }) (v := (.int .i64 E)) hHeld ?_ ?_
  · intro w9 hSw
    try dsimp only at hSw
    go_simp
  try simp only [pu]
  refine tk (i := 12) (oi := { dst := some 10, op := Op.assign (.tmp 79), type := 3, pos := "ref.go:95", after := #[{ on := 8, ground := Ground.data }, { on := 6, ground := Ground.chain }, { on := 0, ground := Ground.phase }, { on := 1, ground := Ground.phase }, { on := 2, ground := Ground.phase }, { on := 3, ground := Ground.phase }, { on := 4, ground := Ground.phase }, { on := 5, ground := Ground.phase }, { on := 6, ground := Ground.phase }, { on := 7, ground := Ground.phase }, { on := 8, ground := Ground.phase }, { on := 9, ground := Ground.textOnly Departure.lateStores }, { on := 10, ground := Ground.textOnly Departure.lateStores }, { on := 11, ground := Ground.textOnly Departure.lateStores }], guard := none }) (v := (.int .i64 N)) hHeld ?_ ?_
  · intro w9 hSw
    try dsimp only at hSw
    go_simp
  try simp only [pu]
  refine tk (i := 13) (oi := { dst := some 11, op := Op.assign (.tmp 80), type := 34, pos := "ref.go:95", after := #[{ on := 9, ground := Ground.data }, { on := 12, ground := Ground.chain }, { on := 0, ground := Ground.phase }, { on := 1, ground := Ground.phase }, { on := 2, ground := Ground.phase }, { on := 3, ground := Ground.phase }, { on := 4, ground := Ground.phase }, { on := 5, ground := Ground.phase }, { on := 6, ground := Ground.phase }, { on := 7, ground := Ground.phase }, { on := 8, ground := Ground.phase }, { on := 9, ground := Ground.phase }, { on := 10, ground := Ground.textOnly Departure.lateStores }, { on := 11, ground := Ground.textOnly Departure.lateStores }, { on := 12, ground := Ground.phase }], guard := none }) (v := (.slice xa XN xc)) hHeld ?_ ?_
  · intro w9 hSw
    try dsimp only at hSw
    go_simp
  try simp only [pu]
  refine tk (i := 14) (oi := { dst := some 12, op := Op.assign (.tmp 81), type := 28, pos := "ref.go:95", after := #[{ on := 10, ground := Ground.data }, { on := 13, ground := Ground.chain }, { on := 0, ground := Ground.phase }, { on := 1, ground := Ground.phase }, { on := 2, ground := Ground.phase }, { on := 3, ground := Ground.phase }, { on := 4, ground := Ground.phase }, { on := 5, ground := Ground.phase }, { on := 6, ground := Ground.phase }, { on := 7, ground := Ground.phase }, { on := 8, ground := Ground.phase }, { on := 9, ground := Ground.phase }, { on := 10, ground := Ground.phase }, { on := 11, ground := Ground.textOnly Departure.lateStores }, { on := 12, ground := Ground.phase }, { on := 13, ground := Ground.phase }], guard := none }) (v := (.slice a' R.length c')) hHeld ?_ ?_
  · intro w9 hSw
    try dsimp only at hSw
    go_simp
  try simp only [pu]
  refine tk (i := 15) (oi := { dst := some 13, op := Op.assign (.tmp 82), type := 3, pos := "ref.go:95", after := #[{ on := 11, ground := Ground.data }, { on := 14, ground := Ground.chain }, { on := 0, ground := Ground.phase }, { on := 1, ground := Ground.phase }, { on := 2, ground := Ground.phase }, { on := 3, ground := Ground.phase }, { on := 4, ground := Ground.phase }, { on := 5, ground := Ground.phase }, { on := 6, ground := Ground.phase }, { on := 7, ground := Ground.phase }, { on := 8, ground := Ground.phase }, { on := 9, ground := Ground.phase }, { on := 10, ground := Ground.phase }, { on := 11, ground := Ground.phase }, { on := 12, ground := Ground.phase }, { on := 13, ground := Ground.phase }, { on := 14, ground := Ground.phase }], guard := none }) (v := (.int .i64 E)) hHeld ?_ ?_
  · intro w9 hSw
    try dsimp only at hSw
    go_simp
  try simp only [pu]
  refine wpAnyH_done (by kernel_rfl) ?_ _
  refine NoPanic.normal ?_
  clear hHeld KW F4 V3 A3 b3 y0 y6 V2 A2 b2 A1 b1 hW1 hW2
  have v_5 := V4.cell 1 (.int .i64 0) rfl
  have z_5 := V4.frozen 1
  have V5 : Blk (W4.setCell ⟨W1.heap.size, 1, none⟩ (.int .i64 N)) W1.heap.size 26 (sRb f N 0 0 0 0 0 0 0 0) := V4.put 1 (.int .i64 N)
  have A5 := A4.put_other V4 (show w.heap.size ≠ W1.heap.size by omega) 1 (.int .i64 N)
  have b5 := b4.setCell (p := ⟨W1.heap.size, 1, none⟩) (show w.heap.size ≤ W1.heap.size by omega) (.int .i64 N)
  have O5 := O4.blk_put V4 (by decide) 1 (.int .i64 N)
  obtain ⟨W5, hW5⟩ : ∃ W, W4.setCell ⟨W1.heap.size, 1, none⟩ (.int .i64 N) = W := ⟨_, rfl⟩
  rw [hW5] at V5 A5 b5 O5
  go_wp2_with fail
  refine Calls.mono (KA.out _ (h.below b5)) ?_
  rintro e W6 ⟨rfl, bb⟩
  have V6 := V5.kept bb
  have A6 := A5.kept bb
  have b6 := bel_tr b5 bb
  have O6 := O5.below bb
  clear KA bb O5 V5 A5 b5 V4 A4 b4 O4 v_5 z_5 hW5
  have V7 := V6.set (sRb f N sf sh sl 0 0 0 0 0)
  have A7 := A6.other (show w.heap.size ≠ W1.heap.size by omega) (sRb f N sf sh sl 0 0 0 0 0)
  have b7 := below_setRow b6 (Nat.le_of_lt g1) (sRb f N sf sh sl 0 0 0 0 0)
  have O7 := O6.blk_other V6 (by decide) (sRb f N sf sh sl 0 0 0 0 0)
  obtain ⟨W7, hW7⟩ : ∃ W, W6.setRow W1.heap.size (sRb f N sf sh sl 0 0 0 0 0) = W := ⟨_, rfl⟩
  rw [hW7] at V7 A7 b7 O7
  have HW7 : Hid _ := hW7
  clear hW7
  go_wp2_with (first
    | (refine wpList_store_off rfl _ _ _ rfl W1.heap.size 2 26 #[.int .i64 sf, .int .u64 sh, .int .u64 sl] (sRb f N 0 0 0 0 0 0 0 0) (sRb f N sf sh sl 0 0 0 0 0) (by rfl) (by rfl) V6 (by kernel_rfl) (show 2 + 3 ≤ 10 by decide) (by kernel_rfl) (by kernel_rfl) ?_; rw [HW7.out]))
  refine Calls.mono (KB.out _ (h.below b7)) ?_
  rintro e W8 ⟨rfl, bb⟩
  have V8 := V7.kept bb
  have A8 := A7.kept bb
  have b8 := bel_tr b7 bb
  have O8 := O7.below bb
  clear KB bb O7 V7 A7 b7 V6 A6 b6 O6 HW7
  have V9 := V8.set (sRb f N sf sh sl df dh dl 0 0)
  have A9 := A8.other (show w.heap.size ≠ W1.heap.size by omega) (sRb f N sf sh sl df dh dl 0 0)
  have b9 := below_setRow b8 (Nat.le_of_lt g1) (sRb f N sf sh sl df dh dl 0 0)
  have O9 := O8.blk_other V8 (by decide) (sRb f N sf sh sl df dh dl 0 0)
  obtain ⟨W9, hW9⟩ : ∃ W, W8.setRow W1.heap.size (sRb f N sf sh sl df dh dl 0 0) = W := ⟨_, rfl⟩
  rw [hW9] at V9 A9 b9 O9
  have HW9 : Hid _ := hW9
  clear hW9
  have hbz8 : (Instr.build 26 #[]).run Try.prog W9 = .ok (.agg (sRb 0 0 0 0 0 0 0 0 0 0)) W9 := by kernel_rfl
  have Bf := A9.set (sRb 0 0 0 0 0 0 0 0 0 0)
  have bf := below_setRow b9 (Nat.le_refl _) (sRb 0 0 0 0 0 0 0 0 0 0)
  go_wp2_with (first
    | (refine wpList_store_off rfl _ _ _ rfl W1.heap.size 5 26 #[.int .i64 df, .int .u64 dh, .int .u64 dl] (sRb f N sf sh sl 0 0 0 0 0) (sRb f N sf sh sl df dh dl 0 0) (by rfl) (by rfl) V8 (by kernel_rfl) (show 5 + 3 ≤ 10 by decide) (by kernel_rfl) (by kernel_rfl) ?_; rw [HW9.out])
    | (refine wpList_build _ rfl _ _ rfl _ (by rfl) _ hbz8 ?_)
    | (refine wpList_store_row rfl _ _ _ rfl w.heap.size (sRb 0 0 0 0 0 0 0 0 0 0) (by rfl) (by rfl) _ _ A9 (by kernel_rfl) (by rfl) (by kernel_rfl) ?_))
  exact ret_cell_tmp (k := 4) (j := 5) Try.f61 (by kernel_rfl) Bf Try.underlying26 (by kernel_rfl) (by rfl) (by rfl) rfl ⟨rfl, bf⟩
end Go.Proofs.Ytpjjkdgmfjhfiaa
