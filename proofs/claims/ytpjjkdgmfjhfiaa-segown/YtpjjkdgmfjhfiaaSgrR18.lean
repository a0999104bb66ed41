/- Texts joined: SgOb -/
import Derived.Test.YtpjjkdgmfjhfiaaSgrR17
namespace Go.Proofs.Ytpjjkdgmfjhfiaa
abbrev sgrR18o0 : Oper := { dst := none, op := Op.store 38 (.tmp 5) (.tmp 34), type := 0, pos := "parse.go:82", after := #[{ on := 14, ground := Ground.data }, { on := 13, ground := Ground.data }, { on := 12, ground := Ground.chain }, { on := 0, ground := Ground.phase }, { on := 1, ground := Ground.phase }, { on := 2, ground := Ground.phase }, { on := 3, ground := Ground.phase }, { on := 4, ground := Ground.phase }, { on := 5, ground := Ground.phase }, { on := 6, ground := Ground.phase }, { on := 7, ground := Ground.phase }, { on := 8, ground := Ground.phase }, { on := 9, ground := Ground.phase }, { on := 10, ground := Ground.phase }, { on := 11, ground := Ground.phase }, { on := 12, ground := Ground.phase }, { on := 13, ground := Ground.phase }, { on := 14, ground := Ground.phase }], guard := none }
abbrev sgrR18o1 : Oper := { dst := some 34, op := Op.build 38 #[(0, .tmp 22), (5, .tmp 26), (6, .tmp 30), (9, .tmp 33)], type := 38, pos := "parse.go:82", after := #[{ on := 1, ground := Ground.data }, { on := 5, ground := Ground.data }, { on := 9, ground := Ground.data }, { on := 12, ground := Ground.data }], guard := none }
abbrev sgrR18o2 : Oper := { dst := some 33, op := Op.call { callee := Callee.value (.func 72), args := #[.tmp 32], argTypes := #[28] }, type := 28, pos := "parse.go:82", after := #[{ on := 11, ground := Ground.data }, { on := 1, ground := Ground.chain }], guard := none }
abbrev sgrR18o3 : Oper := { dst := some 22, op := Op.call { callee := Callee.value (.func 70), args := #[.tmp 21], argTypes := #[64] }, type := 26, pos := "parse.go:82", after := #[{ on := 0, ground := Ground.data }], guard := none }
abbrev sgrR18o4 : Oper := { dst := some 5, op := Op.alloc 38, type := 0, pos := "parse.go:82", after := #[], guard := none }
end Go.Proofs.Ytpjjkdgmfjhfiaa
namespace Go.Proofs.Ytpjjkdgmfjhfiaa
open Go.RowKit
set_option linter.unusedVariables false
set_option linter.unusedSimpArgs false
set_option maxRecDepth 100000 in
set_option maxHeartbeats 4000000 in
theorem icmp_e4 (f sf sh sl df dh dl pr ho : Int) (fg : Bool) (id of : Int) (mo : Bool) (xa : Option Addr) (xn xc : Nat) (bk off dc : Nat) (l : List Int) (w : World) (h : Row w (some ⟨bk, off, none⟩) l) (hc : l.length ≤ dc) (hcm : dc ≤ 9223372036854775807) (hs : Ad.ok ⟨sf, sh, sl⟩) (hd : Ad.ok ⟨df, dh, dl⟩) (hll : l.length ≤ 140737488351232) (h8 : ¬ l.length < 8) (hsum : sumsB ⟨sf, sh, sl⟩ ⟨df, dh, dl⟩ pr l = true) (her : isErr f (l.getD 0 0) = true) (hin : inner f (l.drop 8) = none) :
    Calls Try.prog 58 #[.agg (sRa f sf sh sl df dh dl pr ho fg id of mo xa xn xc (some ⟨bk, off, none⟩) l.length dc)] w (GotS w 4 zSg) := by
  obtain ⟨W1, hW1⟩ : ∃ W1, w.alloc (.cells (sRa f sf sh sl df dh dl pr ho fg id of mo xa xn xc (some ⟨bk, off, none⟩) l.length dc) 64) = W1 := ⟨_, rfl⟩
  obtain ⟨W2, hW2⟩ : ∃ W2, W1.alloc (.cells (sRc 0 0 0 0 0 0 0 0 0 0 0 0 0 0 0 0 false 0 0 0 0 0 0 0 0 0 0 none 0 0) 38) = W2 := ⟨_, rfl⟩
  have b1 := bel_nw hW1
  have b2 := bel_al b1 hW2
  have B1' := blk_nw hW1
  have B1 := B1'.al hW2
  have B2 := blk_nw hW2
  have g1 : w.heap.size < W1.heap.size := B1'.lt
  clear B1'
  have d0 := B1.cell 0 (.int .i64 f) rfl
  have d14 := B1.cell 14 (.slice (some ⟨bk, off, none⟩) l.length dc) rfl
  have h8' : ¬ (l.length : Int) < 8 := by omega
  obtain ⟨x0, e0⟩ : ∃ x, l.getD 0 0 = x := ⟨_, rfl⟩
  obtain ⟨x1, e1⟩ : ∃ x, l.getD 1 0 = x := ⟨_, rfl⟩
  have q0 := h.bytes.get 0
  have q1 := h.bytes.get 1
  obtain ⟨bk', off', ee, hcl⟩ := h.cells (by omega)
  cases ee
  have u0 := hcl 0 (by omega)
  have u1 := hcl 1 (by omega)
  rw [e0] at u0 q0 her
  rw [e1] at u1 q1
  rw [Nat.add_zero] at u0
  have i0 : (0 : Int) < (l.length : Int) := by omega
  have i1 : (1 : Int) < (l.length : Int) := by omega
  have hne' : ¬ l = [] := by intro e; rw [e] at h8; simp at h8
  have wx0 : IntKind.i64.wrap x0 = x0 := wraps_i64 _ (by omega) (by omega)
  have wx1 : IntKind.i64.wrap x1 = x1 := wraps_i64 _ (by omega) (by omega)
  have jh2 : (8 : Int) ≤ (l.length : Int) := by omega
  have n8 : 8 ≤ l.length := by omega
  obtain ⟨a3, ha3⟩ : ∃ a3 : Option Addr, (if dc = 8 then (some ⟨bk, off, none⟩) else Option.map (fun x : Addr => x.add 8) (some ⟨bk, off, none⟩)) = a3 := ⟨_, rfl⟩
  have H3 : Hid ((if dc = 8 then some (⟨bk, off, none⟩ : Addr) else some ⟨bk, off + 8, none⟩) = a3) := by
    have : (if dc = 8 then some (⟨bk, off, none⟩ : Addr) else some ⟨bk, off + 8, none⟩) = a3 := by
      rw [← ha3]
      simp [Go.WideShapes.add_plain]
    exact this
  obtain ⟨D, hD⟩ : ∃ D, l.drop 8 = D := ⟨_, rfl⟩
  have lD : D.length = l.length - 8 := by rw [← hD, List.length_drop]
  have KC : Hid (∀ W, Row W (some ⟨bk, off, none⟩) l → Calls Try.prog 72 #[.slice a3 (l.length - 8) (dc - 8)] W fun e w' => ∃ a' c', e = .returned (.slice a' D.length c') ∧ Fresh W w' a' c' D) := fun W hW => by
    have hr := hW.drop dc 8 hc
    rw [ha3, hD] at hr
    have := clone_any a3 (dc - 8) D W hr (fun e => by
      rw [e] at ha3
      split at ha3
      · cases ha3
      · cases ha3)
    rw [lD] at this ⊢
    exact this
  obtain ⟨V, hV⟩ : ∃ V, portsOf f pr l = V := ⟨_, rfl⟩
  have KW : Hid (∀ W, Row W (some ⟨bk, off, none⟩) l → Calls Try.prog 70 #[.agg (sRa f sf sh sl df dh dl pr ho fg id of mo xa xn xc (some ⟨bk, off, none⟩) l.length dc)] W fun e w' => e = .returned (.agg (sRb f pr sf sh sl df dh dl V.1 V.2)) ∧ Below W.heap.size W w') := fun W hW => by
    have := way_any f sf sh sl df dh dl pr ho fg id of mo xa xn xc (some ⟨bk, off, none⟩) dc l W hW (by omega)
    rw [hV] at this
    exact this
  have KI : Hid (∀ W, Calls Try.prog 13 #[.int .i64 f, .int .i64 x0] W fun e w' => e = .returned (.bool true) ∧ w' = W) := fun W => by
    have := isError_any f x0 W
    rw [her] at this
    exact this
  rw [hD] at hin
  obtain ⟨T, hT⟩ : ∃ T, zTp = T := ⟨_, rfl⟩
  have KN : Hid (∀ W a' c', Row W a' D → D.length ≤ c' → c' ≤ 9223372036854775807 → Calls Try.prog 73 #[.int .i64 f, .slice a' D.length c'] W fun e w' => e = .returned (.tuple #[.agg (sRb T.fam T.pr T.s.fam T.s.hi T.s.lo T.d.fam T.d.hi T.d.lo T.sp T.dp), .bool false]) ∧ Below W.heap.size W w') := fun W a' c' hW h1 h2 => by
    have := innerWay_any f a' c' D W hW (by omega) h1 h2
    rw [hin] at this
    rw [← hT]
    exact this
  have KS : Hid (∀ W, Row W (some ⟨bk, off, none⟩) l → Calls Try.prog 67 #[.agg (sRa f sf sh sl df dh dl pr ho fg id of mo xa xn xc (some ⟨bk, off, none⟩) l.length dc), .slice (some ⟨bk, off, none⟩) l.length dc] W fun e w' => e = .returned (.bool true) ∧ Below W.heap.size W w') := fun W hW => by
    have := sumsUp_any f sf sh sl df dh dl pr ho fg id of mo xa xn xc (some ⟨bk, off, none⟩) dc l (some ⟨bk, off, none⟩) dc l W hW hs hd
    rw [hsum] at this
    exact this
  clear hsum
  have hDs : D.length ≤ 140737488355328 := by have := h.small; omega
  have hDb : M.Bytes D := by rw [← hD]; exact h.bytes.drop 8
  clear e0 e1 hcl ha3 lD hV her hD
  go_enter Try.func58, Try.ntmps58
  have r2 := h.below b2
  go_wp2_with (refine wpList_load_row rfl _ _ rfl w.heap.size (by rfl) _ _ _ _ B1 Try.underlying64 rfl (by kernel_rfl) ?_)
  refine Calls.mono (KS.out _ r2) ?_
  rintro e W4 ⟨rfl, bb⟩
  have b4 := bel_tr b2 bb
  have B4 := B1.kept bb
  have B4' := B2.kept bb
  clear KS bb B1 B2 b2 r2 hW1 hW2 d0 d14
  go_wp2_with fail
  refine wp_region_noPanic ?_
  refine wp_region_held_drew (S := fun w' => Blk w' w.heap.size 64 (sRa f sf sh sl df dh dl pr ho fg id of mo xa xn xc (some ⟨bk, off, none⟩) l.length dc) ∧ w'.cell? ⟨bk, off, none⟩ = some (.int .u8 x0) ∧ w'.cell? ⟨bk, off + 1, none⟩ = some (.int .u8 x1)) (by kernel_rfl) (by exact ⟨B4.drew, kept (b := bk) (o := off) b4.drew u0, kept (b := bk) (o := off + 1) b4.drew u1⟩) (fun hHeld => ?_)
  refine wpAnyH_take (i := 0) (oi := { dst := some 21, op := Op.load 64 (.tmp 1), type := 64, pos := "parse.go:82", after := #[], guard := none }) (v := (.agg (sRa f sf sh sl df dh dl pr ho fg id of mo xa xn xc (some ⟨bk, off, none⟩) l.length dc))) rfl (by kernel_rfl) (by kernel_rfl) (by kernel_rfl) (fun _ _ _ h => h) (yieldsIf_blk rfl _ _ rfl w.heap.size (by rfl) _ (fun _ hSw => hSw.1) Try.underlying64 (by kernel_rfl)) hHeld ?_
  try simp only [pu]
  refine tk (i := 2) (oi := { dst := some 23, op := Op.move (.tmp 4), type := 28, pos := "parse.go:82", after := #[], guard := none }) (v := (.slice (some ⟨bk, off, none⟩) l.length dc)) hHeld ?_ ?_
  · intro w9 hSw
    try dsimp only at hSw
    go_simp
  try simp only [pu]
  refine tk (i := 3) (oi := { dst := some 24, op := Op.indexAddr 28 (.tmp 23) (.const (.int .i64 0)), type := 0, pos := "parse.go:82", after := #[{ on := 2, ground := Ground.data }], guard := none }) (v := (.pointer (some ⟨bk, off, none⟩))) hHeld ?_ ?_
  · intro w9 hSw
    try dsimp only at hSw
    go_simp
  try simp only [pu]
  refine tk (i := 4) (oi := { dst := some 25, op := Op.load 5 (.tmp 24), type := 5, pos := "parse.go:82", after := #[{ on := 3, ground := Ground.data }], guard := none }) (v := (.int .u8 x0)) hHeld ?_ ?_
  · intro w9 hSw
    try dsimp only at hSw
    go_simp
  try simp only [pu]
  refine tk (i := 5) (oi := { dst := some 26, op := Op.convert 5 3 (.tmp 25), type := 3, pos := "parse.go:82", after := #[{ on := 4, ground := Ground.data }], guard := none }) (v := (.int .i64 x0)) hHeld ?_ ?_
  · intro w9 hSw
    try dsimp only at hSw
    go_simp
  try simp only [pu]
  refine tk (i := 6) (oi := { dst := some 27, op := Op.move (.tmp 4), type := 28, pos := "parse.go:82", after := #[], guard := none }) (v := (.slice (some ⟨bk, off, none⟩) l.length dc)) hHeld ?_ ?_
  · intro w9 hSw
    try dsimp only at hSw
    go_simp
  try simp only [pu]
  refine tk (i := 7) (oi := { dst := some 28, op := Op.indexAddr 28 (.tmp 27) (.const (.int .i64 1)), type := 0, pos := "parse.go:82", after := #[{ on := 6, ground := Ground.data }], guard := none }) (v := (.pointer (some ⟨bk, off + 1, none⟩))) hHeld ?_ ?_
  · intro w9 hSw
    try dsimp only at hSw
    go_simp
  try simp only [pu]
  refine tk (i := 8) (oi := { dst := some 29, op := Op.load 5 (.tmp 28), type := 5, pos := "parse.go:82", after := #[{ on := 7, ground := Ground.data }], guard := none }) (v := (.int .u8 x1)) hHeld ?_ ?_
  · intro w9 hSw
    try dsimp only at hSw
    go_simp
  try simp only [pu]
  refine tk (i := 9) (oi := { dst := some 30, op := Op.convert 5 3 (.tmp 29), type := 3, pos := "parse.go:82", after := #[{ on := 8, ground := Ground.data }], guard := none }) (v := (.int .i64 x1)) hHeld ?_ ?_
  · intro w9 hSw
    try dsimp only at hSw
    go_simp
  try simp only [pu]
  refine tk (i := 10) (oi := { dst := some 31, op := Op.move (.tmp 4), type := 28, pos := "parse.go:82", after := #[], guard := none }) (v := (.slice (some ⟨bk, off, none⟩) l.length dc)) hHeld ?_ ?_
  · intro w9 hSw
    try dsimp only at hSw
    go_simp
  try simp only [pu]
  refine tk (i := 11) (oi := { dst := some 32, op := Op.slice 28 (.tmp 31) (some (.const (.int .i64 8))) none none, type := 28, pos := "parse.go:82", after := #[{ on := 10, ground := Ground.data }], guard := none }) (v := (.slice a3 (l.length - 8) (dc - 8))) hHeld ?_ ?_
  · intro w9 hSw
    try dsimp only at hSw
    go_simp
    exact H3.out
  try simp only [pu]
  have c5 := b4.drew
  have P5 := B4.drew
  have R5 := B4'.drew
  obtain ⟨W5, hW5⟩ : ∃ W, W4.drew = W := ⟨_, rfl⟩
  rw [hW5] at c5 P5 R5 ⊢
  clear hW5 B4 B4' b4
  refine wpAnyH_ready (rs := [1, 14]) (by kernel_rfl) (by simp) ?_
  refine (AllReadyH.cons (o := sgrR18o3) rfl (fun K hK => ?_) (AllReadyH.cons (o := sgrR18o4) rfl (fun K hK => ?_) AllReadyH.nil))
  · go_simp
    refine Calls.mono (KW.out _ (h.below c5)) ?_
    rintro e W6 ⟨rfl, bb⟩
    have c6 := bel_tr c5 bb
    have P6 := P5.kept bb
    have R6 := R5.kept bb
    clear bb
    refine hK.out _ _ (by exact ⟨P6, kept (b := bk) (o := off) c6 u0, kept (b := bk) (o := off + 1) c6 u1⟩) (fun hHeld => ?_)
    clear hK K
    try simp only [pu]
    refine wpAnyH_ready (rs := [12, 14]) (by kernel_rfl) (by simp) ?_
    refine (AllReadyH.cons (o := sgrR18o2) rfl (fun K hK => ?_) (AllReadyH.cons (o := sgrR18o4) rfl (fun K hK => ?_) AllReadyH.nil))
    · go_simp
      refine Calls.mono (KC.out _ (h.below c6)) ?_
      rintro e W7 ⟨a9, c9, rfl, f9⟩
      have c7 := bel_tr c6 f9.below
      have P7 := P6.kept f9.below
      have R7 := R6.kept f9.below
      have O7 := owns_le (B' := W1.heap.size + 1) (by have := R6.lt; omega) f9.owns
      have rm9 := f9.room
      have nl9 := f9.nil
      clear f9
      refine hK.out _ _ (by exact ⟨P7, kept (b := bk) (o := off) c7 u0, kept (b := bk) (o := off + 1) c7 u1⟩) (fun hHeld => ?_)
      clear hK K
      try simp only [pu]
      refine wpAnyH_take (i := 13) (oi := sgrR18o1) (v := (.agg (sRc f pr sf sh sl df dh dl V.1 V.2 0 0 0 0 x0 x1 false 0 0 0 0 0 0 0 0 0 0 a9 D.length c9))) rfl (by kernel_rfl) (by kernel_rfl) (by kernel_rfl) (fun _ _ _ h => h) (yieldsIf_build rfl _ _ rfl #[(0, .agg (sRb f pr sf sh sl df dh dl V.1 V.2)), (5, .int .i64 x0), (6, .int .i64 x1), (9, .slice a9 D.length c9)] (by kernel_rfl) _ (fun w9 => by kernel_rfl)) hHeld ?_
      try simp only [pu]
      refine wpAnyH_ready (rs := [14]) (by kernel_rfl) (by simp) ?_
      refine AllReadyH.cons (o := sgrR18o4) rfl (fun K hK => ?_) AllReadyH.nil
      obtain ⟨W8, hA⟩ : ∃ W, W7.alloc (.cells (sRc 0 0 0 0 0 0 0 0 0 0 0 0 0 0 0 0 false 0 0 0 0 0 0 0 0 0 0 none 0 0) 38) = W := ⟨_, rfl⟩
      have c8 : Below w.heap.size w W8 := by rw [← hA]; exact c7.alloc c7.size _
      have P8 := P7.alloc (.cells (sRc 0 0 0 0 0 0 0 0 0 0 0 0 0 0 0 0 false 0 0 0 0 0 0 0 0 0 0 none 0 0) 38)
      rw [hA] at P8
      have R8 := R7.alloc (.cells (sRc 0 0 0 0 0 0 0 0 0 0 0 0 0 0 0 0 false 0 0 0 0 0 0 0 0 0 0 none 0 0) 38)
      rw [hA] at R8
      have O8 := O7.alloc (.cells (sRc 0 0 0 0 0 0 0 0 0 0 0 0 0 0 0 0 false 0 0 0 0 0 0 0 0 0 0 none 0 0) 38)
      rw [hA] at O8
      have N8 : Blk W8 W7.heap.size 38 (sRc 0 0 0 0 0 0 0 0 0 0 0 0 0 0 0 0 false 0 0 0 0 0 0 0 0 0 0 none 0 0) := by rw [← hA]; exact blk_new _ _ _
      obtain ⟨G, hG⟩ : ∃ G, W7.heap.size = G := ⟨_, rfl⟩
      have gG : W1.heap.size < G := by rw [← hG]; exact R7.lt
      go_simp
      rw [hG] at N8
      refine hK.out _ _ (by exact ⟨P8, kept (b := bk) (o := off) c8 u0, kept (b := bk) (o := off + 1) c8 u1⟩) (fun hHeld => ?_)
      clear hK K hA hG
      try simp only [pu]
      refine wpAnyH_ready (rs := [15]) (by kernel_rfl) (by simp) ?_
      refine AllReadyH.cons (o := sgrR18o0) rfl (fun K hK => ?_) AllReadyH.nil
      refine step_store_blk rfl _ _ _ rfl G (sRc f pr sf sh sl df dh dl V.1 V.2 0 0 0 0 x0 x1 false 0 0 0 0 0 0 0 0 0 0 a9 D.length c9) _ (by kernel_rfl) (by kernel_rfl) N8 (by kernel_rfl) (by rfl) (by kernel_rfl) ?_
      have P9 := P8.other (show w.heap.size ≠ G by omega) (sRc f pr sf sh sl df dh dl V.1 V.2 0 0 0 0 x0 x1 false 0 0 0 0 0 0 0 0 0 0 a9 D.length c9)
      have R9 := R8.other (show W1.heap.size ≠ G by omega) (sRc f pr sf sh sl df dh dl V.1 V.2 0 0 0 0 x0 x1 false 0 0 0 0 0 0 0 0 0 0 a9 D.length c9)
      have N9 := N8.set (sRc f pr sf sh sl df dh dl V.1 V.2 0 0 0 0 x0 x1 false 0 0 0 0 0 0 0 0 0 0 a9 D.length c9)
      have O9 := O8.blk_other N8 (by decide) (sRc f pr sf sh sl df dh dl V.1 V.2 0 0 0 0 x0 x1 false 0 0 0 0 0 0 0 0 0 0 a9 D.length c9)
      have c9' := below_setRow c8 (show w.heap.size ≤ G by omega) (sRc f pr sf sh sl df dh dl V.1 V.2 0 0 0 0 x0 x1 false 0 0 0 0 0 0 0 0 0 0 a9 D.length c9)
      refine hK.out _ _ (by exact ⟨P9, kept (b := bk) (o := off) c9' u0, kept (b := bk) (o := off + 1) c9' u1⟩) (fun hHeld => ?_)
      clear hK K hHeld N8 P8 R8 O8 c8
      generalize W8.setRow G (sRc f pr sf sh sl df dh dl V.1 V.2 0 0 0 0 x0 x1 false 0 0 0 0 0 0 0 0 0 0 a9 D.length c9) = W9 at *
      try simp only [pu]
      refine wpAnyH_done (by kernel_rfl) ?_ _
      refine NoPanic.normal ?_
      have d0 := P9.cell 0 (.int .i64 f) rfl
      have s14 := N9.cell 14 (.int .i64 x0) rfl
      have s27 := N9.cell 27 (.slice a9 D.length c9) rfl
      have rD := O9.row hDs hDb
      go_wp2_with fail
      refine Calls.mono (KI.out _) ?_
      rintro e W10 ⟨rfl, hW10⟩
      subst hW10
      clear KI
      go_wp2_with fail
      refine Calls.mono (KN.out _ _ _ rD rm9 O9.cap_le) ?_
      rintro e W11 ⟨rfl, bb⟩
      have P11 := P9.kept bb
      have R11 := R9.kept bb
      have N11 := N9.kept bb
      have O11 := O9.below bb
      have c11 : Below w.heap.size w W11 := c9'.trans (bb.mono c9'.size)
      clear KN bb P9 R9 N9 O9 c9' d0 s14 s27 rD
      obtain ⟨W12, hW12⟩ : ∃ W, W11.alloc (.cells (sRb 0 0 0 0 0 0 0 0 0 0) 26) = W := ⟨_, rfl⟩
      have c12 := bel_al c11 hW12
      have P12 := P11.alloc (.cells (sRb 0 0 0 0 0 0 0 0 0 0) 26)
      have R12 := R11.alloc (.cells (sRb 0 0 0 0 0 0 0 0 0 0) 26)
      have N12 := N11.alloc (.cells (sRb 0 0 0 0 0 0 0 0 0 0) 26)
      have O12 := O11.alloc (.cells (sRb 0 0 0 0 0 0 0 0 0 0) 26)
      have Q12 := blk_new W11 (sRb 0 0 0 0 0 0 0 0 0 0) 26
      rw [hW12] at P12 R12 N12 O12 Q12
      have gp : w.heap.size < W11.heap.size := P11.lt
      have gr : W1.heap.size < W11.heap.size := R11.lt
      have gn : G < W11.heap.size := N11.lt
      have P13 := P12.other (show w.heap.size ≠ W11.heap.size by omega) (sRb T.fam T.pr T.s.fam T.s.hi T.s.lo T.d.fam T.d.hi T.d.lo T.sp T.dp)
      have R13 := R12.other (show W1.heap.size ≠ W11.heap.size by omega) (sRb T.fam T.pr T.s.fam T.s.hi T.s.lo T.d.fam T.d.hi T.d.lo T.sp T.dp)
      have N13 := N12.other (show G ≠ W11.heap.size by omega) (sRb T.fam T.pr T.s.fam T.s.hi T.s.lo T.d.fam T.d.hi T.d.lo T.sp T.dp)
      have O13 := O12.blk_other Q12 (by decide) (sRb T.fam T.pr T.s.fam T.s.hi T.s.lo T.d.fam T.d.hi T.d.lo T.sp T.dp)
      have Q13 := Q12.set (sRb T.fam T.pr T.s.fam T.s.hi T.s.lo T.d.fam T.d.hi T.d.lo T.sp T.dp)
      have c13 := below_setRow c12 (show w.heap.size ≤ W11.heap.size by omega) (sRb T.fam T.pr T.s.fam T.s.hi T.s.lo T.d.fam T.d.hi T.d.lo T.sp T.dp)
      obtain ⟨W13, hW13⟩ : ∃ W, W12.setRow W11.heap.size (sRb T.fam T.pr T.s.fam T.s.hi T.s.lo T.d.fam T.d.hi T.d.lo T.sp T.dp) = W := ⟨_, rfl⟩
      rw [hW13] at P13 R13 N13 O13 Q13 c13
      have HW13 : Hid _ := hW13
      clear hW13 P12 R12 N12 O12 c12 P11 R11 N11 O11 c11
      have hbz : (Instr.build 38 #[]).run Try.prog W13 = .ok (.agg (sRc 0 0 0 0 0 0 0 0 0 0 0 0 0 0 0 0 false 0 0 0 0 0 0 0 0 0 0 none 0 0)) W13 := by kernel_rfl
      have Bf := R13.set (sRc 0 0 0 0 0 0 0 0 0 0 0 0 0 0 0 0 false 0 0 0 0 0 0 0 0 0 0 none 0 0)
      have bf := below_setRow c13 (Nat.le_of_lt g1) (sRc 0 0 0 0 0 0 0 0 0 0 0 0 0 0 0 0 false 0 0 0 0 0 0 0 0 0 0 none 0 0)
      go_wp2_with (first
        | (refine wpList_store_row rfl _ _ _ rfl W11.heap.size (sRb T.fam T.pr T.s.fam T.s.hi T.s.lo T.d.fam T.d.hi T.d.lo T.sp T.dp) (by rfl) (by rfl) _ _ Q12 (by kernel_rfl) (by rfl) (by kernel_rfl) ?_; rw [HW13.out])
        | (refine wpList_build _ rfl _ _ rfl _ (by rfl) _ hbz ?_)
        | (refine wpList_store_row rfl _ _ _ rfl W1.heap.size (sRc 0 0 0 0 0 0 0 0 0 0 0 0 0 0 0 0 false 0 0 0 0 0 0 0 0 0 0 none 0 0) (by rfl) (by rfl) _ _ R13 (by kernel_rfl) (by rfl) (by kernel_rfl) ?_))
      exact ret_cell_tmp (k := 2) (j := 3) Try.f58 (by kernel_rfl) Bf Try.underlying38 (by kernel_rfl) (by rfl) (by rfl) rfl ⟨none, 0, rfl, fresh_nil bf⟩
    · obtain ⟨W7, hA⟩ : ∃ W, W6.alloc (.cells (sRc 0 0 0 0 0 0 0 0 0 0 0 0 0 0 0 0 false 0 0 0 0 0 0 0 0 0 0 none 0 0) 38) = W := ⟨_, rfl⟩
      have c7 : Below w.heap.size w W7 := by rw [← hA]; exact c6.alloc c6.size _
      have P7 := P6.alloc (.cells (sRc 0 0 0 0 0 0 0 0 0 0 0 0 0 0 0 0 false 0 0 0 0 0 0 0 0 0 0 none 0 0) 38)
      rw [hA] at P7
      have R7 := R6.alloc (.cells (sRc 0 0 0 0 0 0 0 0 0 0 0 0 0 0 0 0 false 0 0 0 0 0 0 0 0 0 0 none 0 0) 38)
      rw [hA] at R7
      have N7 : Blk W7 W6.heap.size 38 (sRc 0 0 0 0 0 0 0 0 0 0 0 0 0 0 0 0 false 0 0 0 0 0 0 0 0 0 0 none 0 0) := by rw [← hA]; exact blk_new _ _ _
      obtain ⟨G, hG⟩ : ∃ G, W6.heap.size = G := ⟨_, rfl⟩
      have gG : W1.heap.size < G := by rw [← hG]; exact R6.lt
      go_simp
      rw [hG] at N7
      refine hK.out _ _ (by exact ⟨P7, kept (b := bk) (o := off) c7 u0, kept (b := bk) (o := off + 1) c7 u1⟩) (fun hHeld => ?_)
      clear hK K hA hG
      try simp only [pu]
      refine wpAnyH_ready (rs := [12]) (by kernel_rfl) (by simp) ?_
      refine AllReadyH.cons (o := sgrR18o2) rfl (fun K hK => ?_) AllReadyH.nil
      go_simp
      refine Calls.mono (KC.out _ (h.below c7)) ?_
      rintro e W8 ⟨a9, c9, rfl, f9⟩
      have c8 := bel_tr c7 f9.below
      have P8 := P7.kept f9.below
      have R8 := R7.kept f9.below
      have N8 := N7.kept f9.below
      have O8 := owns_le (B' := W1.heap.size + 1) (by have := R7.lt; omega) f9.owns
      have rm9 := f9.room
      have nl9 := f9.nil
      clear f9
      refine hK.out _ _ (by exact ⟨P8, kept (b := bk) (o := off) c8 u0, kept (b := bk) (o := off + 1) c8 u1⟩) (fun hHeld => ?_)
      clear hK K
      try simp only [pu]
      refine wpAnyH_take (i := 13) (oi := sgrR18o1) (v := (.agg (sRc f pr sf sh sl df dh dl V.1 V.2 0 0 0 0 x0 x1 false 0 0 0 0 0 0 0 0 0 0 a9 D.length c9))) rfl (by kernel_rfl) (by kernel_rfl) (by kernel_rfl) (fun _ _ _ h => h) (yieldsIf_build rfl _ _ rfl #[(0, .agg (sRb f pr sf sh sl df dh dl V.1 V.2)), (5, .int .i64 x0), (6, .int .i64 x1), (9, .slice a9 D.length c9)] (by kernel_rfl) _ (fun w9 => by kernel_rfl)) hHeld ?_
      try simp only [pu]
      refine wpAnyH_ready (rs := [15]) (by kernel_rfl) (by simp) ?_
      refine AllReadyH.cons (o := sgrR18o0) rfl (fun K hK => ?_) AllReadyH.nil
      refine step_store_blk rfl _ _ _ rfl G (sRc f pr sf sh sl df dh dl V.1 V.2 0 0 0 0 x0 x1 false 0 0 0 0 0 0 0 0 0 0 a9 D.length c9) _ (by kernel_rfl) (by kernel_rfl) N8 (by kernel_rfl) (by rfl) (by kernel_rfl) ?_
      have P9 := P8.other (show w.heap.size ≠ G by omega) (sRc f pr sf sh sl df dh dl V.1 V.2 0 0 0 0 x0 x1 false 0 0 0 0 0 0 0 0 0 0 a9 D.length c9)
      have R9 := R8.other (show W1.heap.size ≠ G by omega) (sRc f pr sf sh sl df dh dl V.1 V.2 0 0 0 0 x0 x1 false 0 0 0 0 0 0 0 0 0 0 a9 D.length c9)
      have N9 := N8.set (sRc f pr sf sh sl df dh dl V.1 V.2 0 0 0 0 x0 x1 false 0 0 0 0 0 0 0 0 0 0 a9 D.length c9)
      have O9 := O8.blk_other N8 (by decide) (sRc f pr sf sh sl df dh dl V.1 V.2 0 0 0 0 x0 x1 false 0 0 0 0 0 0 0 0 0 0 a9 D.length c9)
      have c9' := below_setRow c8 (show w.heap.size ≤ G by omega) (sRc f pr sf sh sl df dh dl V.1 V.2 0 0 0 0 x0 x1 false 0 0 0 0 0 0 0 0 0 0 a9 D.length c9)
      refine hK.out _ _ (by exact ⟨P9, kept (b := bk) (o := off) c9' u0, kept (b := bk) (o := off + 1) c9' u1⟩) (fun hHeld => ?_)
      clear hK K hHeld N8 P8 R8 O8 c8
      generalize W8.setRow G (sRc f pr sf sh sl df dh dl V.1 V.2 0 0 0 0 x0 x1 false 0 0 0 0 0 0 0 0 0 0 a9 D.length c9) = W9 at *
      try simp only [pu]
      refine wpAnyH_done (by kernel_rfl) ?_ _
      refine NoPanic.normal ?_
      have d0 := P9.cell 0 (.int .i64 f) rfl
      have s14 := N9.cell 14 (.int .i64 x0) rfl
      have s27 := N9.cell 27 (.slice a9 D.length c9) rfl
      have rD := O9.row hDs hDb
      go_wp2_with fail
      refine Calls.mono (KI.out _) ?_
      rintro e W10 ⟨rfl, hW10⟩
      subst hW10
      clear KI
      go_wp2_with fail
      refine Calls.mono (KN.out _ _ _ rD rm9 O9.cap_le) ?_
      rintro e W11 ⟨rfl, bb⟩
      have P11 := P9.kept bb
      have R11 := R9.kept bb
      have N11 := N9.kept bb
      have O11 := O9.below bb
      have c11 : Below w.heap.size w W11 := c9'.trans (bb.mono c9'.size)
      clear KN bb P9 R9 N9 O9 c9' d0 s14 s27 rD
      obtain ⟨W12, hW12⟩ : ∃ W, W11.alloc (.cells (sRb 0 0 0 0 0 0 0 0 0 0) 26) = W := ⟨_, rfl⟩
      have c12 := bel_al c11 hW12
      have P12 := P11.alloc (.cells (sRb 0 0 0 0 0 0 0 0 0 0) 26)
      have R12 := R11.alloc (.cells (sRb 0 0 0 0 0 0 0 0 0 0) 26)
      have N12 := N11.alloc (.cells (sRb 0 0 0 0 0 0 0 0 0 0) 26)
      have O12 := O11.alloc (.cells (sRb 0 0 0 0 0 0 0 0 0 0) 26)
      have Q12 := blk_new W11 (sRb 0 0 0 0 0 0 0 0 0 0) 26
      rw [hW12] at P12 R12 N12 O12 Q12
      have gp : w.heap.size < W11.heap.size := P11.lt
      have gr : W1.heap.size < W11.heap.size := R11.lt
      have gn : G < W11.heap.size := N11.lt
      have P13 := P12.other (show w.heap.size ≠ W11.heap.size by omega) (sRb T.fam T.pr T.s.fam T.s.hi T.s.lo T.d.fam T.d.hi T.d.lo T.sp T.dp)
      have R13 := R12.other (show W1.heap.size ≠ W11.heap.size by omega) (sRb T.fam T.pr T.s.fam T.s.hi T.s.lo T.d.fam T.d.hi T.d.lo T.sp T.dp)
      have N13 := N12.other (show G ≠ W11.heap.size by omega) (sRb T.fam T.pr T.s.fam T.s.hi T.s.lo T.d.fam T.d.hi T.d.lo T.sp T.dp)
      have O13 := O12.blk_other Q12 (by decide) (sRb T.fam T.pr T.s.fam T.s.hi T.s.lo T.d.fam T.d.hi T.d.lo T.sp T.dp)
      have Q13 := Q12.set (sRb T.fam T.pr T.s.fam T.s.hi T.s.lo T.d.fam T.d.hi T.d.lo T.sp T.dp)
      have c13 := below_setRow c12 (show w.heap.size ≤ W11.heap.size by omega) (sRb T.fam T.pr T.s.fam T.s.hi T.s.lo T.d.fam T.d.hi T.d.lo T.sp T.dp)
      obtain ⟨W13, hW13⟩ : ∃ W, W12.setRow W11.heap.size (sRb T.fam T.pr T.s.fam T.s.hi T.s.lo T.d.fam T.d.hi T.d.lo T.sp T.dp) = W := ⟨_, rfl⟩
      rw [hW13] at P13 R13 N13 O13 Q13 c13
      have HW13 : Hid _ := hW13
      clear hW13 P12 R12 N12 O12 c12 P11 R11 N11 O11 c11
      have hbz : (Instr.build 38 #[]).run Try.prog W13 = .ok (.agg (sRc 0 0 0 0 0 0 0 0 0 0 0 0 0 0 0 0 false 0 0 0 0 0 0 0 0 0 0 none 0 0)) W13 := by kernel_rfl
      have Bf := R13.set (sRc 0 0 0 0 0 0 0 0 0 0 0 0 0 0 0 0 false 0 0 0 0 0 0 0 0 0 0 none 0 0)
      have bf := below_setRow c13 (Nat.le_of_lt g1) (sRc 0 0 0 0 0 0 0 0 0 0 0 0 0 0 0 0 false 0 0 0 0 0 0 0 0 0 0 none 0 0)
      go_wp2_with (first
        | (refine wpList_store_row rfl _ _ _ rfl W11.heap.size (sRb T.fam T.pr T.s.fam T.s.hi T.s.lo T.d.fam T.d.hi T.d.lo T.sp T.dp) (by rfl) (by rfl) _ _ Q12 (by kernel_rfl) (by rfl) (by kernel_rfl) ?_; rw [HW13.out])
        | (refine wpList_build _ rfl _ _ rfl _ (by rfl) _ hbz ?_)
        | (refine wpList_store_row rfl _ _ _ rfl W1.heap.size (sRc 0 0 0 0 0 0 0 0 0 0 0 0 0 0 0 0 false 0 0 0 0 0 0 0 0 0 0 none 0 0) (by rfl) (by rfl) _ _ R13 (by kernel_rfl) (by rfl) (by kernel_rfl) ?_))
      exact ret_cell_tmp (k := 2) (j := 3) Try.f58 (by kernel_rfl) Bf Try.underlying38 (by kernel_rfl) (by rfl) (by rfl) rfl ⟨none, 0, rfl, fresh_nil bf⟩
  · obtain ⟨W6, hA⟩ : ∃ W, W5.alloc (.cells (sRc 0 0 0 0 0 0 0 0 0 0 0 0 0 0 0 0 false 0 0 0 0 0 0 0 0 0 0 none 0 0) 38) = W := ⟨_, rfl⟩
    have c6 : Below w.heap.size w W6 := by rw [← hA]; exact c5.alloc c5.size _
    have P6 := P5.alloc (.cells (sRc 0 0 0 0 0 0 0 0 0 0 0 0 0 0 0 0 false 0 0 0 0 0 0 0 0 0 0 none 0 0) 38)
    rw [hA] at P6
    have R6 := R5.alloc (.cells (sRc 0 0 0 0 0 0 0 0 0 0 0 0 0 0 0 0 false 0 0 0 0 0 0 0 0 0 0 none 0 0) 38)
    rw [hA] at R6
    have N6 : Blk W6 W5.heap.size 38 (sRc 0 0 0 0 0 0 0 0 0 0 0 0 0 0 0 0 false 0 0 0 0 0 0 0 0 0 0 none 0 0) := by rw [← hA]; exact blk_new _ _ _
    obtain ⟨G, hG⟩ : ∃ G, W5.heap.size = G := ⟨_, rfl⟩
    have gG : W1.heap.size < G := by rw [← hG]; exact R5.lt
    go_simp
    rw [hG] at N6
    refine hK.out _ _ (by exact ⟨P6, kept (b := bk) (o := off) c6 u0, kept (b := bk) (o := off + 1) c6 u1⟩) (fun hHeld => ?_)
    clear hK K hA hG
    try simp only [pu]
    refine wpAnyH_ready (rs := [1]) (by kernel_rfl) (by simp) ?_
    refine AllReadyH.cons (o := sgrR18o3) rfl (fun K hK => ?_) AllReadyH.nil
    go_simp
    refine Calls.mono (KW.out _ (h.below c6)) ?_
    rintro e W7 ⟨rfl, bb⟩
    have c7 := bel_tr c6 bb
    have P7 := P6.kept bb
    have R7 := R6.kept bb
    have N7 := N6.kept bb
    clear bb
    refine hK.out _ _ (by exact ⟨P7, kept (b := bk) (o := off) c7 u0, kept (b := bk) (o := off + 1) c7 u1⟩) (fun hHeld => ?_)
    clear hK K
    try simp only [pu]
    refine wpAnyH_ready (rs := [12]) (by kernel_rfl) (by simp) ?_
    refine AllReadyH.cons (o := sgrR18o2) rfl (fun K hK => ?_) AllReadyH.nil
    go_simp
    refine Calls.mono (KC.out _ (h.below c7)) ?_
    rintro e W8 ⟨a9, c9, rfl, f9⟩
    have c8 := bel_tr c7 f9.below
    have P8 := P7.kept f9.below
    have R8 := R7.kept f9.below
    have N8 := N7.kept f9.below
    have O8 := owns_le (B' := W1.heap.size + 1) (by have := R7.lt; omega) f9.owns
    have rm9 := f9.room
    have nl9 := f9.nil
    clear f9
    refine hK.out _ _ (by exact ⟨P8, kept (b := bk) (o := off) c8 u0, kept (b := bk) (o := off + 1) c8 u1⟩) (fun hHeld => ?_)
    clear hK K
    try simp only [pu]
    refine wpAnyH_take (i := 13) (oi := sgrR18o1) (v := (.agg (sRc f pr sf sh sl df dh dl V.1 V.2 0 0 0 0 x0 x1 false 0 0 0 0 0 0 0 0 0 0 a9 D.length c9))) rfl (by kernel_rfl) (by kernel_rfl) (by kernel_rfl) (fun _ _ _ h => h) (yieldsIf_build rfl _ _ rfl #[(0, .agg (sRb f pr sf sh sl df dh dl V.1 V.2)), (5, .int .i64 x0), (6, .int .i64 x1), (9, .slice a9 D.length c9)] (by kernel_rfl) _ (fun w9 => by kernel_rfl)) hHeld ?_
    try simp only [pu]
    refine wpAnyH_ready (rs := [15]) (by kernel_rfl) (by simp) ?_
    refine AllReadyH.cons (o := sgrR18o0) rfl (fun K hK => ?_) AllReadyH.nil
    refine step_store_blk rfl _ _ _ rfl G (sRc f pr sf sh sl df dh dl V.1 V.2 0 0 0 0 x0 x1 false 0 0 0 0 0 0 0 0 0 0 a9 D.length c9) _ (by kernel_rfl) (by kernel_rfl) N8 (by kernel_rfl) (by rfl) (by kernel_rfl) ?_
    have P9 := P8.other (show w.heap.size ≠ G by omega) (sRc f pr sf sh sl df dh dl V.1 V.2 0 0 0 0 x0 x1 false 0 0 0 0 0 0 0 0 0 0 a9 D.length c9)
    have R9 := R8.other (show W1.heap.size ≠ G by omega) (sRc f pr sf sh sl df dh dl V.1 V.2 0 0 0 0 x0 x1 false 0 0 0 0 0 0 0 0 0 0 a9 D.length c9)
    have N9 := N8.set (sRc f pr sf sh sl df dh dl V.1 V.2 0 0 0 0 x0 x1 false 0 0 0 0 0 0 0 0 0 0 a9 D.length c9)
    have O9 := O8.blk_other N8 (by decide) (sRc f pr sf sh sl df dh dl V.1 V.2 0 0 0 0 x0 x1 false 0 0 0 0 0 0 0 0 0 0 a9 D.length c9)
    have c9' := below_setRow c8 (show w.heap.size ≤ G by omega) (sRc f pr sf sh sl df dh dl V.1 V.2 0 0 0 0 x0 x1 false 0 0 0 0 0 0 0 0 0 0 a9 D.length c9)
    refine hK.out _ _ (by exact ⟨P9, kept (b := bk) (o := off) c9' u0, kept (b := bk) (o := off + 1) c9' u1⟩) (fun hHeld => ?_)
    clear hK K hHeld N8 P8 R8 O8 c8
    generalize W8.setRow G (sRc f pr sf sh sl df dh dl V.1 V.2 0 0 0 0 x0 x1 false 0 0 0 0 0 0 0 0 0 0 a9 D.length c9) = W9 at *
    try simp only [pu]
    refine wpAnyH_done (by kernel_rfl) ?_ _
    refine NoPanic.normal ?_
    have d0 := P9.cell 0 (.int .i64 f) rfl
    have s14 := N9.cell 14 (.int .i64 x0) rfl
    have s27 := N9.cell 27 (.slice a9 D.length c9) rfl
    have rD := O9.row hDs hDb
    go_wp2_with fail
    refine Calls.mono (KI.out _) ?_
    rintro e W10 ⟨rfl, hW10⟩
    subst hW10
    clear KI
    go_wp2_with fail
    refine Calls.mono (KN.out _ _ _ rD rm9 O9.cap_le) ?_
    rintro e W11 ⟨rfl, bb⟩
    have P11 := P9.kept bb
    have R11 := R9.kept bb
    have N11 := N9.kept bb
    have O11 := O9.below bb
    have c11 : Below w.heap.size w W11 := c9'.trans (bb.mono c9'.size)
    clear KN bb P9 R9 N9 O9 c9' d0 s14 s27 rD
    obtain ⟨W12, hW12⟩ : ∃ W, W11.alloc (.cells (sRb 0 0 0 0 0 0 0 0 0 0) 26) = W := ⟨_, rfl⟩
    have c12 := bel_al c11 hW12
    have P12 := P11.alloc (.cells (sRb 0 0 0 0 0 0 0 0 0 0) 26)
    have R12 := R11.alloc (.cells (sRb 0 0 0 0 0 0 0 0 0 0) 26)
    have N12 := N11.alloc (.cells (sRb 0 0 0 0 0 0 0 0 0 0) 26)
    have O12 := O11.alloc (.cells (sRb 0 0 0 0 0 0 0 0 0 0) 26)
    have Q12 := blk_new W11 (sRb 0 0 0 0 0 0 0 0 0 0) 26
    rw [hW12] at P12 R12 N12 O12 Q12
    have gp : w.heap.size < W11.heap.size := P11.lt
    have gr : W1.heap.size < W11.heap.size := R11.lt
    have gn : G < W11.heap.size := N11.lt
    have P13 := P12.other (show w.heap.size ≠ W11.heap.size by omega) (sRb T.fam T.pr T.s.fam T.s.hi T.s.lo T.d.fam T.d.hi T.d.lo T.sp T.dp)
    have R13 := R12.other (show W1.heap.size ≠ W11.heap.size by omega) (sRb T.fam T.pr T.s.fam T.s.hi T.s.lo T.d.fam T.d.hi T.d.lo T.sp T.dp)
    have N13 := N12.other (show G ≠ W11.heap.size by omega) (sRb T.fam T.pr T.s.fam T.s.hi T.s.lo T.d.fam T.d.hi T.d.lo T.sp T.dp)
    have O13 := O12.blk_other Q12 (by decide) (sRb T.fam T.pr T.s.fam T.s.hi T.s.lo T.d.fam T.d.hi T.d.lo T.sp T.dp)
    have Q13 := Q12.set (sRb T.fam T.pr T.s.fam T.s.hi T.s.lo T.d.fam T.d.hi T.d.lo T.sp T.dp)
    have c13 := below_setRow c12 (show w.heap.size ≤ W11.heap.size by omega) (sRb T.fam T.pr T.s.fam T.s.hi T.s.lo T.d.fam T.d.hi T.d.lo T.sp T.dp)
    obtain ⟨W13, hW13⟩ : ∃ W, W12.setRow W11.heap.size (sRb T.fam T.pr T.s.fam T.s.hi T.s.lo T.d.fam T.d.hi T.d.lo T.sp T.dp) = W := ⟨_, rfl⟩
    rw [hW13] at P13 R13 N13 O13 Q13 c13
    have HW13 : Hid _ := hW13
    clear hW13 P12 R12 N12 O12 c12 P11 R11 N11 O11 c11
    have hbz : (Instr.build 38 #[]).run Try.prog W13 = .ok (.agg (sRc 0 0 0 0 0 0 0 0 0 0 0 0 0 0 0 0 false 0 0 0 0 0 0 0 0 0 0 none 0 0)) W13 := by kernel_rfl
    have Bf := R13.set (sRc 0 0 0 0 0 0 0 0 0 0 0 0 0 0 0 0 false 0 0 0 0 0 0 0 0 0 0 none 0 0)
    have bf := below_setRow c13 (Nat.le_of_lt g1) (sRc 0 0 0 0 0 0 0 0 0 0 0 0 0 0 0 0 false 0 0 0 0 0 0 0 0 0 0 none 0 0)
    go_wp2_with (first
      | (refine wpList_store_row rfl _ _ _ rfl W11.heap.size (sRb T.fam T.pr T.s.fam T.s.hi T.s.lo T.d.fam T.d.hi T.d.lo T.sp T.dp) (by rfl) (by rfl) _ _ Q12 (by kernel_rfl) (by rfl) (by kernel_rfl) ?_; rw [HW13.out])
      | (refine wpList_build _ rfl _ _ rfl _ (by rfl) _ hbz ?_)
      | (refine wpList_store_row rfl _ _ _ rfl W1.heap.size (sRc 0 0 0 0 0 0 0 0 0 0 0 0 0 0 0 0 false 0 0 0 0 0 0 0 0 0 0 none 0 0) (by rfl) (by rfl) _ _ R13 (by kernel_rfl) (by rfl) (by kernel_rfl) ?_))
    exact ret_cell_tmp (k := 2) (j := 3) Try.f58 (by kernel_rfl) Bf Try.underlying38 (by kernel_rfl) (by rfl) (by rfl) rfl ⟨none, 0, rfl, fresh_nil bf⟩
end Go.Proofs.Ytpjjkdgmfjhfiaa
