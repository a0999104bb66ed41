/- Texts joined: SgRxc -/
import Derived.Test.YtpjjkdgmfjhfiaaSgrR46
namespace Go.Proofs.Ytpjjkdgmfjhfiaa
open Go.RowKit
set_option linter.unusedVariables false
set_option linter.unusedSimpArgs false
set_option maxRecDepth 100000 in
set_option maxHeartbeats 4000000 in
theorem ricmp_ok1 (f sf sh sl df dh dl ho : Int) (fg : Bool) (id of : Int) (mo : Bool) (xa : Option Addr) (xn xc : Nat) (bk off dc : Nat) (l : List Int) (w : World) (h : Row w (some ⟨bk, off, none⟩) l) (hll : l.length ≤ 140737488351232) (hc : l.length ≤ dc) (hcm : dc ≤ 9223372036854775807) (hs : Ad.ok ⟨sf, sh, sl⟩) (hd : Ad.ok ⟨df, dh, dl⟩) (pr : Int) (hfp : f = 4 ∧ pr = 1 ∨ f = 6 ∧ pr = 58) (h8 : ¬ l.length < 8) (hsum : sumsB ⟨sf, sh, sl⟩ ⟨df, dh, dl⟩ pr l = true) (her : isErr f (l.getD 0 0) = true) (T : Tp) (hin : inner f (l.drop 8) = some T) :
    Calls Try.prog 37 #[.agg (sRa f sf sh sl df dh dl pr ho fg id of mo xa xn xc (some ⟨bk, off, none⟩) l.length dc), .agg (sRc f pr sf sh sl df dh dl 0 0 0 0 0 0 0 0 false 0 0 0 0 0 0 0 0 0 0 none 0 0)] w (GotS w 0 ⟨⟨f, pr, ⟨sf, sh, sl⟩, ⟨df, dh, dl⟩, 0, 0⟩, 0, 0, 0, 0, (l.getD 0 0), (l.getD 1 0), true, T, (l.drop 8)⟩) := by
  have hf46 : f = 4 ∨ f = 6 := hfp.imp (fun h => h.1) (fun h => h.1)
  obtain ⟨tf, tp, ⟨tsf, tsh, tsl⟩, ⟨tdf, tdh, tdl⟩, tsp, tdp⟩ := T
  obtain ⟨W1, hW1⟩ : ∃ W1, w.alloc (.cells (sRa f sf sh sl df dh dl pr ho fg id of mo xa xn xc (some ⟨bk, off, none⟩) l.length dc) 36) = W1 := ⟨_, rfl⟩
  obtain ⟨W2, hW2⟩ : ∃ W2, W1.alloc (.cells (sRc f pr sf sh sl df dh dl 0 0 0 0 0 0 0 0 false 0 0 0 0 0 0 0 0 0 0 none 0 0) 38) = W2 := ⟨_, rfl⟩
  obtain ⟨W3, hW3⟩ : ∃ W3, W2.alloc (.cells (sRc 0 0 0 0 0 0 0 0 0 0 0 0 0 0 0 0 false 0 0 0 0 0 0 0 0 0 0 none 0 0) 38) = W3 := ⟨_, rfl⟩
  have b1 := bel_nw hW1
  have b2 := bel_al b1 hW2
  have b3 := bel_al b2 hW3
  have P1 := blk_nw hW1
  have P2 := P1.al hW2
  have P3 := P2.al hW3
  have S2 := blk_nw hW2
  have S3 := S2.al hW3
  have R3 := blk_nw hW3
  have g1 : w.heap.size < W1.heap.size := P1.lt
  have g2 : W1.heap.size < W2.heap.size := S2.lt
  have d14 := P3.cell 14 (.slice (some ⟨bk, off, none⟩) l.length dc) rfl
  clear P1 P2 S2 b1 b2
  obtain ⟨x0, e0⟩ : ∃ x, l.getD 0 0 = x := ⟨_, rfl⟩
  obtain ⟨x1, e1⟩ : ∃ x, l.getD 1 0 = x := ⟨_, rfl⟩
  have q0 := h.bytes.get 0
  have q1 := h.bytes.get 1
  obtain ⟨bk', off', ee, hcl⟩ := h.cells (by omega)
  cases ee
  have u0 := hcl 0 (by omega)
  have u1 := hcl 1 (by omega)
  rw [Nat.add_zero] at u0
  rw [e0] at u0 q0
  rw [e1] at u1 q1
  have i0 : (0 : Int) < (l.length : Int) := by omega
  have i1 : (1 : Int) < (l.length : Int) := by omega
  have hne' : ¬ l = [] := by intro e; rw [e] at h8; simp at h8
  have wx0 : IntKind.i64.wrap x0 = x0 := wraps_i64 _ (by omega) (by omega)
  have wx1 : IntKind.i64.wrap x1 = x1 := wraps_i64 _ (by omega) (by omega)
  obtain ⟨a3, ha3⟩ : ∃ a3 : Option Addr, (if dc = 8 then (some ⟨bk, off, none⟩) else Option.map (fun x : Addr => x.add 8) (some ⟨bk, off, none⟩)) = a3 := ⟨_, rfl⟩
  have H3 : Hid ((if dc = 8 then some (⟨bk, off, none⟩ : Addr) else some ⟨bk, off + 8, none⟩) = a3) := by
    have : (if dc = 8 then some (⟨bk, off, none⟩ : Addr) else some ⟨bk, off + 8, none⟩) = a3 := by
      rw [← ha3]
      simp [Go.WideShapes.add_plain]
    exact this
  have h3' : (if dc = 8 then some (⟨bk, off, none⟩ : Addr) else some ⟨bk, off + 8, none⟩) = a3 := H3.out
  obtain ⟨c3, hc3⟩ : ∃ c3, dc - 8 = c3 := ⟨_, rfl⟩
  have hn3 : a3 = none → c3 = 0 := fun e => by
    rw [e] at ha3
    split at ha3
    · cases ha3
    · cases ha3
  obtain ⟨D, hD⟩ : ∃ D, l.drop 8 = D := ⟨_, rfl⟩
  have lD : D.length = l.length - 8 := by rw [← hD, List.length_drop]
  have dl' : D.length ≤ 140737488351232 := by omega
  have HRD : Hid (∀ W, Row W (some ⟨bk, off, none⟩) l → Row W a3 D) := fun W hW => by
    have hr := hW.drop dc 8 hc
    rw [ha3, hD] at hr
    exact hr
  have HlD : Hid (D.length = l.length - 8 ∧ dc - 8 = c3) := ⟨lD, hc3⟩
  have j8 : (8 : Int) ≤ (l.length : Int) := by omega
  rw [e0, e1, hD]
  rw [e0] at her
  have KE : Hid (∀ W, Calls Try.prog 14 #[.int .i64 f, .int .i64 x0] W fun e w' => e = .returned (.bool true) ∧ w' = W) := fun W => by
    have := rIsError_any f x0 W
    rw [her] at this
    exact this
  rw [hD] at hin
  have KN : Hid (∀ W a' c', Row W a' D → D.length ≤ c' → c' ≤ 9223372036854775807 → Calls Try.prog 61 #[.int .i64 f, .slice a' D.length c'] W fun e w' => e = .returned (.tuple #[.agg (sRb tf tp tsf tsh tsl tdf tdh tdl tsp tdp), .bool true]) ∧ Below W.heap.size W w') := fun W a' c' hW h1 h2 => by
    have := rinner_any f a' c' D W hW dl' h1 h2 hf46
    rw [hin] at this
    exact this
  clear e0 e1 hcl her hD lD ha3 hc3
  clear hin hf46
  rcases hfp with ⟨hf, hp⟩ | ⟨hf, hp⟩
  case' inl =>
    rw [hp] at hsum
    have h8' : ¬ (l.length : Int) < 8 := by omega
    have f6' : (f == 6) = false := by rw [hf]; rfl
    have hL0 : ahead ⟨sf, sh, sl⟩ ⟨df, dh, dl⟩ 1 l.length = [] := by unfold ahead; rw [if_pos rfl]
    obtain ⟨SM, hSM⟩ : ∃ s, M.sumOf [[], l] = s := ⟨_, rfl⟩
    have hs65 : (SM != 65535) = false := by
      unfold sumsB at hsum
      rw [hL0, hSM] at hsum
      simp at hsum
      simpa using hsum
    have KC : Hid (∀ W, Row W (some ⟨bk, off, none⟩) l → Calls Try.prog 46 #[.slice (some ⟨W.heap.size, 0, none⟩) 2 2] (W.alloc (.cells #[.slice none 0 0, .slice (some ⟨bk, off, none⟩) l.length dc] 28)) fun e w' => e = .returned (.int .i64 SM) ∧ w' = W.alloc (.cells #[.slice none 0 0, .slice (some ⟨bk, off, none⟩) l.length dc] 28)) := fun W h2 => by
      have := refsum_any (some ⟨W.heap.size, 0, none⟩) 2 [[], l] _ (rowss_two W 28 W.heap.size rfl none (some ⟨bk, off, none⟩) 0 dc [] l (row_nil W none) h2)
      rw [hSM] at this
      exact this
    clear hL0 hSM hsum
    clear hf hp
    have d0 := P3.cell 0 (.int .i64 f) rfl
    have d1 := P3.cell 1 (.int .i64 sf) rfl
    have d2 := P3.cell 2 (.int .u64 sh) rfl
    have d3 := P3.cell 3 (.int .u64 sl) rfl
    have d4 := P3.cell 4 (.int .i64 df) rfl
    have d5 := P3.cell 5 (.int .u64 dh) rfl
    have d6 := P3.cell 6 (.int .u64 dl) rfl
    go_enter Try.func37, Try.ntmps37
    go_wp2_with fail
    refine Calls.mono (KC.out _ (h.below b3)) ?_
    clear hW1 hW2 hW3 d0 d1 d2 d3 d4 d5 d6 d14
    rintro e W5 ⟨rfl, hW5⟩
    have b5 : Below w.heap.size w W5 := by rw [hW5]; exact b3.alloc b3.size _
    have S5 : Blk W5 W1.heap.size 38 (sRc f pr sf sh sl df dh dl 0 0 0 0 0 0 0 0 false 0 0 0 0 0 0 0 0 0 0 none 0 0) := by rw [hW5]; exact S3.alloc _
    have R5 : Blk W5 W2.heap.size 38 (sRc 0 0 0 0 0 0 0 0 0 0 0 0 0 0 0 0 false 0 0 0 0 0 0 0 0 0 0 none 0 0) := by rw [hW5]; exact R3.alloc _
    have P5 : Blk W5 w.heap.size 36 (sRa f sf sh sl df dh dl pr ho fg id of mo xa xn xc (some ⟨bk, off, none⟩) l.length dc) := by rw [hW5]; exact P3.alloc _
    clear KC hW5 S3 R3 P3 b3
  case' inr =>
    rw [hp] at hsum
    have h8' : ¬ (l.length : Int) < 8 := by omega
    have f6' : (f == 6) = true := by rw [hf]; rfl
    obtain ⟨L0, hL0⟩ : ∃ L, ahead ⟨sf, sh, sl⟩ ⟨df, dh, dl⟩ 58 l.length = L := ⟨_, rfl⟩
    obtain ⟨SM, hSM⟩ : ∃ s, M.sumOf [L0, l] = s := ⟨_, rfl⟩
    have KP : Hid (∀ W, Calls Try.prog 12 #[.agg #[.int .i64 sf, .int .u64 sh, .int .u64 sl], .agg #[.int .i64 df, .int .u64 dh, .int .u64 dl], .int .i64 58, .int .i64 (l.length : Int)] W fun e w' => ∃ a c, e = .returned (.slice a L0.length c) ∧ Fresh W w' a c L0) := fun W => by
      have := rpseudo_any sf sh sl df dh dl 58 (l.length : Int) W hs hd
      have e : pseudo ⟨sf, sh, sl⟩ ⟨df, dh, dl⟩ 58 (l.length : Int) = L0 := by
        rw [← hL0]
        unfold ahead
        rw [if_neg (by decide)]
      rw [e] at this
      exact this
    have hs65 : (SM != 65535) = false := by
      unfold sumsB at hsum
      rw [hL0, hSM] at hsum
      simp at hsum
      simpa using hsum
    have KC : Hid (∀ W a' c', Row W a' L0 → Row W (some ⟨bk, off, none⟩) l → Calls Try.prog 46 #[.slice (some ⟨W.heap.size, 0, none⟩) 2 2] (W.alloc (.cells #[.slice a' L0.length c', .slice (some ⟨bk, off, none⟩) l.length dc] 28)) fun e w' => e = .returned (.int .i64 SM) ∧ w' = W.alloc (.cells #[.slice a' L0.length c', .slice (some ⟨bk, off, none⟩) l.length dc] 28)) := fun W a' c' h1 h2 => by
      have := refsum_any (some ⟨W.heap.size, 0, none⟩) 2 [L0, l] _ (rowss_two W 28 W.heap.size rfl a' (some ⟨bk, off, none⟩) c' dc L0 l h1 h2)
      rw [hSM] at this
      exact this
    clear hL0 hSM hsum
    clear hf hp
    have d0 := P3.cell 0 (.int .i64 f) rfl
    have d1 := P3.cell 1 (.int .i64 sf) rfl
    have d2 := P3.cell 2 (.int .u64 sh) rfl
    have d3 := P3.cell 3 (.int .u64 sl) rfl
    have d4 := P3.cell 4 (.int .i64 df) rfl
    have d5 := P3.cell 5 (.int .u64 dh) rfl
    have d6 := P3.cell 6 (.int .u64 dl) rfl
    go_enter Try.func37, Try.ntmps37
    go_wp2_with fail
    refine Calls.mono (KP.out _) ?_
    rintro e W4 ⟨a4, c4, rfl, f4⟩
    have b4 := bel_tr b3 f4.below
    have q4 := f4.row
    have S4 := S3.kept f4.below
    have R4 := R3.kept f4.below
    have P4 := P3.kept f4.below
    clear KP f4 S3 R3 P3 b3 d14 d0 d1 d2 d3 d4 d5 d6 hW1 hW2 hW3
    go_wp2_with fail
    refine Calls.mono (KC.out _ _ _ q4 (h.below b4)) ?_
    rintro e W5 ⟨rfl, hW5⟩
    have b5 : Below w.heap.size w W5 := by rw [hW5]; exact b4.alloc b4.size _
    have S5 : Blk W5 W1.heap.size 38 (sRc f pr sf sh sl df dh dl 0 0 0 0 0 0 0 0 false 0 0 0 0 0 0 0 0 0 0 none 0 0) := by rw [hW5]; exact S4.alloc _
    have R5 : Blk W5 W2.heap.size 38 (sRc 0 0 0 0 0 0 0 0 0 0 0 0 0 0 0 0 false 0 0 0 0 0 0 0 0 0 0 none 0 0) := by rw [hW5]; exact R4.alloc _
    have P5 : Blk W5 w.heap.size 36 (sRa f sf sh sl df dh dl pr ho fg id of mo xa xn xc (some ⟨bk, off, none⟩) l.length dc) := by rw [hW5]; exact P4.alloc _
    clear KC hW5 S4 R4 P4 b4 q4
  all_goals
    go_wp2_with fail
    refine wp_region_noPanic ?_
    refine wp_region_held_drew (S := fun w' => w'.cell? ⟨bk, off, none⟩ = some (.int .u8 x0) ∧ w'.cell? ⟨bk, off + 1, none⟩ = some (.int .u8 x1)) (by kernel_rfl) (by exact ⟨kept (b := bk) (o := off) b5.drew u0, kept (b := bk) (o := off + 1) b5.drew u1⟩) (fun hHeld => ?_)
    refine tk (i := 0) (oi := { dst := some 32, op := Op.move (.tmp 6), type := 28, pos := "ref.go:174", after := #[], guard := none }) (v := (.slice (some ⟨bk, off, none⟩) l.length dc)) hHeld ?_ ?_
    · intro w9 hSw
      try dsimp only at hSw
      go_simp
    try simp only [pu]
    refine tk (i := 1) (oi := { dst := some 33, op := Op.indexAddr 28 (.tmp 32) (.const (.int .i64 0)), type := 0, pos := "ref.go:174", after := #[{ on := 0, ground := Ground.data }], guard := none }) (v := (.pointer (some ⟨bk, off, none⟩))) hHeld ?_ ?_
    · intro w9 hSw
      try dsimp only at hSw
      go_simp
    try simp only [pu]
    refine tk (i := 2) (oi := { dst := some 34, op := Op.load 5 (.tmp 33), type := 5, pos := "ref.go:174", after := #[{ on := 1, ground := Ground.data }], guard := none }) (v := (.int .u8 x0)) hHeld ?_ ?_
    · intro w9 hSw
      try dsimp only at hSw
      go_simp
    try simp only [pu]
    refine tk (i := 3) (oi := { dst := some 35, op := Op.convert 5 3 (.tmp 34), type := 3, pos := "ref.go:174", after := #[{ on := 2, ground := Ground.data }], guard := none }) (v := (.int .i64 x0)) hHeld ?_ ?_
    · intro w9 hSw
      try dsimp only at hSw
      go_simp
    try simp only [pu]
    refine tk (i := 4) (oi := { dst := some 36, op := Op.move (.tmp 6), type := 28, pos := "ref.go:174", after := #[{ on := 9, ground := Ground.gcOnly Departure.lateStores }], guard := none }) (v := (.slice (some ⟨bk, off, none⟩) l.length dc)) hHeld ?_ ?_
    · intro w9 hSw
      try dsimp only at hSw
      go_simp
    try simp only [pu]
    refine tk (i := 5) (oi := { dst := some 37, op := Op.indexAddr 28 (.tmp 36) (.const (.int .i64 1)), type := 0, pos := "ref.go:174", after := #[{ on := 4, ground := Ground.data }, { on := 9, ground := Ground.gcOnly Departure.lateStores }], guard := none }) (v := (.pointer (some ⟨bk, off + 1, none⟩))) hHeld ?_ ?_
    · intro w9 hSw
      try dsimp only at hSw
      go_simp
    try simp only [pu]
    refine tk (i := 6) (oi := { dst := some 38, op := Op.load 5 (.tmp 37), type := 5, pos := "ref.go:174", after := #[{ on := 5, ground := Ground.data }, { on := 9, ground := Ground.gcOnly Departure.lateStores }], guard := none }) (v := (.int .u8 x1)) hHeld ?_ ?_
    · intro w9 hSw
      try dsimp only at hSw
      go_simp
    try simp only [pu]
    refine tk (i := 7) (oi := { dst := some 39, op := Op.convert 5 3 (.tmp 38), type := 3, pos := "ref.go:174", after := #[{ on := 6, ground := Ground.data }, { on := 9, ground := Ground.gcOnly Departure.lateStores }], guard := none }) (v := (.int .i64 x1)) hHeld ?_ ?_
    · intro w9 hSw
      try dsimp only at hSw
      go_simp
    try simp only [pu]
    refine tk (i := 8) (oi := { dst := some 40, op := Op.fieldAddr 38 (.tmp 3) 5, type := 0, pos := "ref.go:174", after := #[{ on := 0, ground := Ground.phase }, { on := 1, ground := Ground.phase }, { on := 2, ground := Ground.phase }, { on := 3, ground := Ground.phase }, { on := 4, ground := Ground.textOnly Departure.lateStores }, { on := 5, ground := Ground.textOnly Departure.lateStores }, { on := 6, ground := Ground.textOnly Departure.lateStores }, { on := 7, ground := Ground.textOnly Departure.lateStores }], guard := none }) (v := (.pointer (some ⟨W1.heap.size, 14, none⟩))) hHeld ?_ ?_
    · intro w9 hSw
      try dsimp only at hSw
      go_simp
    try simp only [pu]
    have S6 := S5.drew
    have R6 := R5.drew
    have P6 := P5.drew
    have b6 := b5.drew
    obtain ⟨W6, hW6⟩ : ∃ W, W5.drew = W := ⟨_, rfl⟩
    rw [hW6] at S6 R6 P6 b6 ⊢
    clear hW6 S5 R5 P5 b5 hHeld
    have s_7 := S6.cell 14 (.int .i64 0) rfl
    have z_7 := S6.frozen 14
    have S7 : Blk _ W1.heap.size 38 (sRc f pr sf sh sl df dh dl 0 0 0 0 0 0 x0 0 false 0 0 0 0 0 0 0 0 0 0 none 0 0) := S6.put 14 (.int .i64 x0)
    have R7 := R6.put_other S6 (show W2.heap.size ≠ W1.heap.size by omega) 14 (.int .i64 x0)
    have P7 := P6.put_other S6 (show w.heap.size ≠ W1.heap.size by omega) 14 (.int .i64 x0)
    have b7 := b6.setCell (p := ⟨W1.heap.size, 14, none⟩) (show w.heap.size ≤ W1.heap.size by omega) (.int .i64 x0)
    refine wpAnyH_ready (rs := [9]) (by kernel_rfl) (by simp) ?_
    refine AllReadyH.cons (o := { dst := none, op := Op.store 3 (.tmp 40) (.tmp 35), type := 0, pos := "ref.go:174", after := #[{ on := 8, ground := Ground.data }, { on := 3, ground := Ground.data }, { on := 0, ground := Ground.phase }, { on := 1, ground := Ground.phase }, { on := 2, ground := Ground.phase }, { on := 3, ground := Ground.phase }, { on := 4, ground := Ground.textOnly Departure.lateStores }, { on := 5, ground := Ground.textOnly Departure.lateStores }, { on := 6, ground := Ground.textOnly Departure.lateStores }, { on := 7, ground := Ground.textOnly Departure.lateStores }], guard := none }) rfl (fun K hK => ?_) AllReadyH.nil
    go_simp
    refine hK.out _ _ (by exact ⟨kept (b := bk) (o := off) b7 u0, kept (b := bk) (o := off + 1) b7 u1⟩) (fun hHeld => ?_)
    clear hK K
    generalize W6.setCell ⟨W1.heap.size, 14, none⟩ (.int .i64 x0) = W7 at *
    clear s_7 z_7 S6 R6 P6 b6
    try simp only [pu]
    refine tk (i := 10) (oi := { dst := some 41, op := Op.fieldAddr 38 (.tmp 3) 6, type := 0, pos := "ref.go:174", after := #[{ on := 0, ground := Ground.phase }, { on := 1, ground := Ground.phase }, { on := 2, ground := Ground.phase }, { on := 3, ground := Ground.phase }, { on := 4, ground := Ground.phase }, { on := 5, ground := Ground.phase }, { on := 6, ground := Ground.phase }, { on := 7, ground := Ground.phase }, { on := 8, ground := Ground.phase }, { on := 9, ground := Ground.phase }], guard := none }) (v := (.pointer (some ⟨W1.heap.size, 15, none⟩))) hHeld ?_ ?_
    · intro w9 hSw
      try dsimp only at hSw
      go_simp
    try simp only [pu]
    have s_8 := S7.cell 15 (.int .i64 0) rfl
    have z_8 := S7.frozen 15
    have S8 : Blk _ W1.heap.size 38 (sRc f pr sf sh sl df dh dl 0 0 0 0 0 0 x0 x1 false 0 0 0 0 0 0 0 0 0 0 none 0 0) := S7.put 15 (.int .i64 x1)
    have R8 := R7.put_other S7 (show W2.heap.size ≠ W1.heap.size by omega) 15 (.int .i64 x1)
    have P8 := P7.put_other S7 (show w.heap.size ≠ W1.heap.size by omega) 15 (.int .i64 x1)
    have b8 := b7.setCell (p := ⟨W1.heap.size, 15, none⟩) (show w.heap.size ≤ W1.heap.size by omega) (.int .i64 x1)
    refine wpAnyH_ready (rs := [11]) (by kernel_rfl) (by simp) ?_
    refine AllReadyH.cons (o := { dst := none, op := Op.store 3 (.tmp 41) (.tmp 39), type := 0, pos := "ref.go:174", after := #[{ on := 10, ground := Ground.data }, { on := 7, ground := Ground.data }, { on := 9, ground := Ground.chain }, { on := 0, ground := Ground.phase }, { on := 1, ground := Ground.phase }, { on := 2, ground := Ground.phase }, { on := 3, ground := Ground.phase }, { on := 4, ground := Ground.phase }, { on := 5, ground := Ground.phase }, { on := 6, ground := Ground.phase }, { on := 7, ground := Ground.phase }, { on := 8, ground := Ground.phase }, { on := 9, ground := Ground.phase }], guard := none }) rfl (fun K hK => ?_) AllReadyH.nil
    go_simp
    refine hK.out _ _ (by exact ⟨kept (b := bk) (o := off) b8 u0, kept (b := bk) (o := off + 1) b8 u1⟩) (fun hHeld => ?_)
    clear hK K
    generalize W7.setCell ⟨W1.heap.size, 15, none⟩ (.int .i64 x1) = W8 at *
    clear s_8 z_8 S7 R7 P7 b7
    try simp only [pu]
    refine wpAnyH_done (by kernel_rfl) ?_ _
    refine NoPanic.normal ?_
    clear hHeld
    have rD := HRD.out _ (h.below b8)
    go_wp2_with (at_builtin; refine wpList_app2 _ rfl _ _ rfl W8.heap.size _ [] rfl (Owns.nil _ _) M.Bytes.nil a3 c3 D ?appV rD hn3 D rfl ?appC (Nat.le_refl _) ?_)
    case appV => (obtain ⟨q1, q2⟩ := HlD.out; rw [q1, ← q2, ← H3.out]; try rfl)
    case appC => exact rD.small
    intro aD cD W11a OD rmD nlD rwD bb _
    have S11a := S8.kept bb
    have R11a := R8.kept bb
    have P11a := P8.kept bb
    have b11a := bel_tr b8 bb
    have lt11 : W2.heap.size < W8.heap.size := R8.lt
    have OD' := owns_le (B' := W2.heap.size + 1) lt11 OD
    clear bb S8 R8 P8 b8 OD
    have s_11 := S11a.cell 27 (.slice none 0 0) rfl
    have z_11 := S11a.frozen 27
    have S11 : Blk (W11a.setCell ⟨W1.heap.size, 27, none⟩ (.slice aD D.length cD)) W1.heap.size 38 (sRc f pr sf sh sl df dh dl 0 0 0 0 0 0 x0 x1 false 0 0 0 0 0 0 0 0 0 0 aD D.length cD) := S11a.put 27 (.slice aD D.length cD)
    have R11 := R11a.put_other S11a (show W2.heap.size ≠ W1.heap.size by omega) 27 (.slice aD D.length cD)
    have P11 := P11a.put_other S11a (show w.heap.size ≠ W1.heap.size by omega) 27 (.slice aD D.length cD)
    have O11 := OD'.blk_put S11a (by decide) 27 (.slice aD D.length cD)
    have b11 := b11a.setCell (p := ⟨W1.heap.size, 27, none⟩) (show w.heap.size ≤ W1.heap.size by omega) (.slice aD D.length cD)
    obtain ⟨W11, hW11⟩ : ∃ W, W11a.setCell ⟨W1.heap.size, 27, none⟩ (.slice aD D.length cD) = W := ⟨_, rfl⟩
    rw [hW11] at S11 R11 b11 O11 P11
    clear P11a S11a R11a b11a OD'
    have d0 := P11.cell 0 (.int .i64 f) rfl
    have d14 := S11.cell 14 (.int .i64 x0) rfl
    go_wp2_with fail
    refine Calls.mono (KE.out _) ?_
    rintro e W12 ⟨rfl, hW12⟩
    rw [hW12]
    clear hW12 W12 KE s_11 z_11 hW11
    have d27 := S11.cell 27 (.slice aD D.length cD) rfl
    have cmD := O11.cap_le
    go_wp2_with fail
    refine Calls.mono (KN.out _ _ _ (O11.row rwD.small rwD.bytes) rmD cmD) ?_
    rintro e W12 ⟨rfl, bb⟩
    have S12 := S11.kept bb
    have R12 := R11.kept bb
    have O12 := O11.below bb
    have b12 := bel_tr b11 bb
    clear KN bb S11 R11 O11 b11 P11 d0 d14 d27
    obtain ⟨W13, hW13⟩ : ∃ W, W12.alloc (.cells (sRb 0 0 0 0 0 0 0 0 0 0) 26) = W := ⟨_, rfl⟩
    have S13 := S12.al hW13
    have R13 := R12.al hW13
    have O13 : Owns W13 (W2.heap.size + 1) (.slice aD D.length cD) D := by rw [← hW13]; exact O12.alloc _
    have b13 := bel_al b12 hW13
    have Q13 := blk_nw hW13
    have g12 : w.heap.size ≤ W12.heap.size := b12.size
    have gS : W1.heap.size < W12.heap.size := S12.lt
    have gR : W2.heap.size < W12.heap.size := R12.lt
    have S14 := S13.other (show W1.heap.size ≠ W12.heap.size by omega) (sRb tf tp tsf tsh tsl tdf tdh tdl tsp tdp)
    have R14 := R13.other (show W2.heap.size ≠ W12.heap.size by omega) (sRb tf tp tsf tsh tsl tdf tdh tdl tsp tdp)
    have O14 := O13.blk_other Q13 (by decide) (sRb tf tp tsf tsh tsl tdf tdh tdl tsp tdp)
    have Q14 := Q13.set (sRb tf tp tsf tsh tsl tdf tdh tdl tsp tdp)
    have b14 := below_setRow b13 g12 (sRb tf tp tsf tsh tsl tdf tdh tdl tsp tdp)
    obtain ⟨W14, hW14⟩ : ∃ W, W13.setRow W12.heap.size (sRb tf tp tsf tsh tsl tdf tdh tdl tsp tdp) = W := ⟨_, rfl⟩
    rw [hW14] at S14 R14 O14 Q14 b14
    have HW14 : Hid _ := hW14
    clear hW14 S12 R12 O12 b12 S13 R13 O13 b13
    go_wp2_with (refine wpList_store_row rfl _ _ _ rfl W12.heap.size (sRb tf tp tsf tsh tsl tdf tdh tdl tsp tdp) (by rfl) (by rfl) _ _ Q13 (by kernel_rfl) (by rfl) (by kernel_rfl) ?_; rw [HW14.out])
    refine wp_region_noPanic ?_
    refine wp_region_held_drew (S := fun w' => Blk w' W12.heap.size 26 (sRb tf tp tsf tsh tsl tdf tdh tdl tsp tdp)) (by kernel_rfl) (by exact Q14.drew) (fun hHeld => ?_)
    refine wpAnyH_take (i := 0) (oi := { dst := some 62, op := Op.load 26 (.tmp 8), type := 26, pos := "ref.go:181", after := #[{ on := 2, ground := Ground.gcOnly Departure.lateStores }], guard := none }) (v := (.agg (sRb tf tp tsf tsh tsl tdf tdh tdl tsp tdp))) rfl (by kernel_rfl) (by kernel_rfl) (by kernel_rfl) (fun _ _ _ h => h) (yieldsIf_blk rfl _ _ rfl W12.heap.size (by rfl) _ (fun _ hSw => hSw) Try.underlying26 (by kernel_rfl)) hHeld ?_
    try simp only [pu]
    refine tk (i := 1) (oi := { dst := some 63, op := Op.fieldAddr 38 (.tmp 3) 7, type := 0, pos := "ref.go:181", after := #[{ on := 0, ground := Ground.textOnly Departure.lateStores }], guard := none }) (v := (.pointer (some ⟨W1.heap.size, 16, none⟩))) hHeld ?_ ?_
    · intro w9 hSw
      try dsimp only at hSw
      go_simp
    try simp only [pu]
    have S15 := S14.drew
    have R15 := R14.drew
    have O15 : Owns W14.drew (W2.heap.size + 1) (.slice aD D.length cD) D := O14
    have Q15 := Q14.drew
    have b15 := b14.drew
    obtain ⟨W15, hW15⟩ : ∃ W, W14.drew = W := ⟨_, rfl⟩
    rw [hW15] at S15 R15 O15 Q15 b15 ⊢
    clear hW15 S14 R14 O14 Q14 b14 hHeld
    have s16 := S15.cell 16 (.bool false) rfl
    have z16 := S15.frozen 16
    have S16 : Blk _ W1.heap.size 38 (sRc f pr sf sh sl df dh dl 0 0 0 0 0 0 x0 x1 true 0 0 0 0 0 0 0 0 0 0 aD D.length cD) := S15.put 16 (.bool true)
    have R16 := R15.put_other S15 (show W2.heap.size ≠ W1.heap.size by omega) 16 (.bool true)
    have Q16 := Q15.put_other S15 (show W12.heap.size ≠ W1.heap.size by omega) 16 (.bool true)
    have O16 := O15.blk_put S15 (by decide) 16 (.bool true)
    have b16 := b15.setCell (p := ⟨W1.heap.size, 16, none⟩) (show w.heap.size ≤ W1.heap.size by omega) (.bool true)
    refine wpAnyH_ready (rs := [2]) (by kernel_rfl) (by simp) ?_
    refine AllReadyH.cons (o := { dst := none, op := Op.store 4 (.tmp 63) (.const (.bool true)), type := 0, pos := "ref.go:181", after := #[{ on := 1, ground := Ground.data }, { on := 0, ground := Ground.textOnly Departure.lateStores }], guard := none }) rfl (fun K hK => ?_) AllReadyH.nil
    go_simp
    refine hK.out _ _ (by exact Q16) (fun hHeld => ?_)
    clear hK K
    generalize W15.setCell ⟨W1.heap.size, 16, none⟩ (.bool true) = W16 at *
    try simp only [pu]
    refine tk (i := 3) (oi := { dst := some 64, op := Op.fieldAddr 38 (.tmp 3) 8, type := 0, pos := "ref.go:181", after := #[{ on := 0, ground := Ground.phase }, { on := 1, ground := Ground.phase }, { on := 2, ground := Ground.phase }], guard := none }) (v := (.pointer (some ⟨W1.heap.size, 17, none⟩))) hHeld ?_ ?_
    · intro w9 hSw
      try dsimp only at hSw
      go_simp
    try simp only [pu]
    refine wpAnyH_ready (rs := [4]) (by kernel_rfl) (by simp) ?_
    refine AllReadyH.cons (o := { dst := none, op := Op.store 26 (.tmp 64) (.tmp 62), type := 0, pos := "ref.go:181", after := #[{ on := 3, ground := Ground.data }, { on := 0, ground := Ground.data }, { on := 2, ground := Ground.chain }, { on := 0, ground := Ground.phase }, { on := 1, ground := Ground.phase }, { on := 2, ground := Ground.phase }], guard := none }) rfl (fun K hK => ?_) AllReadyH.nil
    refine step_store_off rfl _ _ _ rfl W1.heap.size 17 38 (sRb tf tp tsf tsh tsl tdf tdh tdl tsp tdp) (sRc f pr sf sh sl df dh dl 0 0 0 0 0 0 x0 x1 true 0 0 0 0 0 0 0 0 0 0 aD D.length cD) (sRc f pr sf sh sl df dh dl 0 0 0 0 0 0 x0 x1 true tf tp tsf tsh tsl tdf tdh tdl tsp tdp aD D.length cD) (by kernel_rfl) (by kernel_rfl) S16 (by kernel_rfl) (show 17 + 10 ≤ 28 by decide) (by kernel_rfl) (by kernel_rfl) ?_
    have S17 := S16.set (sRc f pr sf sh sl df dh dl 0 0 0 0 0 0 x0 x1 true tf tp tsf tsh tsl tdf tdh tdl tsp tdp aD D.length cD)
    have R17 := R16.other (show W2.heap.size ≠ W1.heap.size by omega) (sRc f pr sf sh sl df dh dl 0 0 0 0 0 0 x0 x1 true tf tp tsf tsh tsl tdf tdh tdl tsp tdp aD D.length cD)
    have Q17 := Q16.other (show W12.heap.size ≠ W1.heap.size by omega) (sRc f pr sf sh sl df dh dl 0 0 0 0 0 0 x0 x1 true tf tp tsf tsh tsl tdf tdh tdl tsp tdp aD D.length cD)
    have O17 := O16.blk_other S16 (by decide) (sRc f pr sf sh sl df dh dl 0 0 0 0 0 0 x0 x1 true tf tp tsf tsh tsl tdf tdh tdl tsp tdp aD D.length cD)
    have b17 := below_setRow b16 (show w.heap.size ≤ W1.heap.size by omega) (sRc f pr sf sh sl df dh dl 0 0 0 0 0 0 x0 x1 true tf tp tsf tsh tsl tdf tdh tdl tsp tdp aD D.length cD)
    refine hK.out _ _ (by exact Q17) (fun hHeld => ?_)
    clear hK K hHeld S16 R16 Q16 O16 b16
    generalize W16.setRow W1.heap.size (sRc f pr sf sh sl df dh dl 0 0 0 0 0 0 x0 x1 true tf tp tsf tsh tsl tdf tdh tdl tsp tdp aD D.length cD) = W17 at *
    try simp only [pu]
    refine wpAnyH_done (by kernel_rfl) ?_ _
    refine NoPanic.normal ?_
    have Rf := R17.set (sRc f pr sf sh sl df dh dl 0 0 0 0 0 0 x0 x1 true tf tp tsf tsh tsl tdf tdh tdl tsp tdp aD D.length cD)
    have bf := below_setRow b17 (show w.heap.size ≤ W2.heap.size by omega) (sRc f pr sf sh sl df dh dl 0 0 0 0 0 0 x0 x1 true tf tp tsf tsh tsl tdf tdh tdl tsp tdp aD D.length cD)
    have Of := O17.blk_other R17 (by decide) (sRc f pr sf sh sl df dh dl 0 0 0 0 0 0 x0 x1 true tf tp tsf tsh tsl tdf tdh tdl tsp tdp aD D.length cD)
    go_wp2_with (first
      | (refine wpList_load_row rfl _ _ rfl W1.heap.size (by rfl) _ _ _ _ S17 Try.underlying38 rfl (by kernel_rfl) ?_)
      | (refine wpList_store_row rfl _ _ _ rfl W2.heap.size (sRc f pr sf sh sl df dh dl 0 0 0 0 0 0 x0 x1 true tf tp tsf tsh tsl tdf tdh tdl tsp tdp aD D.length cD) (by rfl) (by rfl) _ _ R17 (by kernel_rfl) (by rfl) (by kernel_rfl) ?_))
    refine ret_cell_tmp (k := 4) (j := 5) Try.f37 (by kernel_rfl) Rf Try.underlying38 (by kernel_rfl) (by rfl) (by rfl) rfl ?_
    exact ⟨aD, cD, rfl, owns_le (by omega) Of, rmD, nlD, Of.row rwD.small rwD.bytes, bf⟩
end Go.Proofs.Ytpjjkdgmfjhfiaa
