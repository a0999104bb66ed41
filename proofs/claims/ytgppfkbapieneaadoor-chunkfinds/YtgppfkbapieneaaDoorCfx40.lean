/- Texts joined: ChunkFindsWalk -/
import Derived.Test.YtgppfkbapieneaaDoorCfx32
import Derived.Test.YtgppfkbapieneaaDoorCfx34
import Derived.Test.YtgppfkbapieneaaDoorCfx39
namespace Go.Proofs.YtgppfkbapieneaaDoor
open Go.RowKit
set_option linter.unusedVariables false
set_option linter.unusedSimpArgs false
theorem finds_same {e e' : Ending} {L : List Pt} {K : List Int} {S : List (List Int)} {p : Pt} (h : Finds e L K S p) (h' : Finds e' L K S p) : ∃ (x : Int) (r : Bool), e = .returned (.tuple #[.int .i64 x, .bool r]) ∧ e' = .returned (.tuple #[.int .i64 x, .bool r]) := by
  rcases h with ⟨n, rfl⟩ | ⟨n, x, rfl, c⟩ <;> rcases h' with ⟨n', rfl⟩ | ⟨n', x', rfl, c'⟩
  · exact ⟨0, false, rfl, rfl⟩
  · exact absurd n' n
  · exact absurd n n'
  · obtain rfl := cls_uniq c c'
    exact ⟨x, true, rfl, rfl⟩
set_option maxRecDepth 100000 in
set_option maxHeartbeats 16000000 in
theorem chunkFinds_walk (a1 a2 a3 : Option Addr) (c1 c2 c3 : Nat) (L : List Pt) (K : List Int) (S : List (List Int)) (b1 b2 b3 : Option Addr) (d1 d2 d3 : Nat) (L' : List Pt) (K' : List Int) (S' : List (List Int)) (p : Pt) (w : World)
    (hs : L.length ≤ 17592186044416) (h1 : RowP w a1 L) (h2 : RowI w a2 K) (h3 : RowS w a3 S) (hs' : L'.length ≤ 17592186044416) (g1 : RowP w b1 L') (g2 : RowI w b2 K') (g3 : RowS w b3 S') (hp : p.ok) (hT : Top w) :
    Calls Tryd.prog 5 #[.agg #[.slice a1 L.length c1, .slice a2 K.length c2, .slice a3 S.length c3], .agg #[.slice b1 L'.length d1, .slice b2 K'.length d2, .slice b3 S'.length d3], .agg p.v] w fun e w' => e = .returned (.bool true) ∧ Below w.heap.size w w' := by
  obtain ⟨C, hC⟩ : ∃ C : Array Value, C = #[.slice a1 L.length c1, .slice a2 K.length c2, .slice a3 S.length c3] := ⟨_, rfl⟩
  obtain ⟨D, hD⟩ : ∃ D : Array Value, D = #[.slice b1 L'.length d1, .slice b2 K'.length d2, .slice b3 S'.length d3] := ⟨_, rfl⟩
  have KA : Hid (∀ W, Below w.heap.size w W → Calls Tryd.prog 13 #[] W fun e w' => e = .returned (.bool true) ∧ Below W.heap.size W w') := fun W hb => alive_ck W (hT.below hb)
  have KF : Hid (∀ W, Below w.heap.size w W → Calls Tryd.prog 16 #[.agg C, .agg p.v] W fun e w' => Finds e L K S p ∧ Below W.heap.size W w') := fun W hb => by
    rw [hC]; exact find_ck a1 a2 a3 c1 c2 c3 L K S p W hs (h1.low hb) (h2.below hb) (h3.below hb) hp
  have KG : Hid (∀ W, Below w.heap.size w W → Calls Tryd.prog 17 #[.agg C, .agg p.v] W fun e w' => Finds e L K S p ∧ Below W.heap.size W w') := fun W hb => by
    rw [hC]; exact rfind_ck a1 a2 a3 c1 c2 c3 L K S p W hs (h1.low hb) (h2.below hb) (h3.below hb) hp
  have JR : Hid (∀ W, Below w.heap.size w W → Calls Tryd.prog 18 #[.agg C] W fun e w' => Tells e (RightC L K S) ∧ Below W.heap.size W w') := fun W hb => by
    rw [hC]; exact right_ck a1 a2 a3 c1 c2 c3 L K S W hs (h1.low hb) (h2.below hb) (h3.below hb)
  have JQ : Hid (∀ W, Below w.heap.size w W → Calls Tryd.prog 19 #[.agg C] W fun e w' => Tells e (RightC L K S) ∧ Below W.heap.size W w') := fun W hb => by
    rw [hC]; exact rright_ck a1 a2 a3 c1 c2 c3 L K S W hs (h1.low hb) (h2.below hb) (h3.below hb)
  have JS : Hid (∀ W, Below w.heap.size w W → Calls Tryd.prog 20 #[.agg C, .agg D] W fun e w' => Tells e (L = L' ∧ K = K' ∧ S = S') ∧ Below W.heap.size W w') := fun W hb => by
    rw [hC, hD]; exact same_ck a1 a2 a3 b1 b2 b3 c1 c2 c3 d1 d2 d3 L L' K K' S S' W hs (h1.low hb) (h2.below hb) (h3.below hb) (g1.low hb) (g2.below hb) (g3.below hb)
  have JT : Hid (∀ W, Below w.heap.size w W → Calls Tryd.prog 12 #[.agg C, .agg D] W fun e w' => Tells e (L = L' ∧ K = K' ∧ S = S') ∧ Below W.heap.size W w') := fun W hb => by
    rw [hC, hD]; exact rsame_ck a1 a2 a3 b1 b2 b3 c1 c2 c3 d1 d2 d3 L L' K K' S S' W hs (h1.low hb) (h2.below hb) (h3.below hb) (g1.low hb) (g2.below hb) (g3.below hb)
  have JU : Hid (∀ W, Below w.heap.size w W → Calls Tryd.prog 20 #[.agg C, .agg C] W fun e w' => Tells e (L = L ∧ K = K ∧ S = S) ∧ Below W.heap.size W w') := fun W hb => by
    rw [hC]; exact same_ck a1 a2 a3 a1 a2 a3 c1 c2 c3 c1 c2 c3 L L K K S S W hs (h1.low hb) (h2.below hb) (h3.below hb) (h1.low hb) (h2.below hb) (h3.below hb)
  have tel : ∀ Q : Prop, ∃ T : Bool, Hid (∀ e, Tells e Q → e = .returned (.bool T)) := fun Q => by
    by_cases h : Q
    · exact ⟨true, fun e ⟨r, he, hr⟩ => by rw [he, hr.2 h]⟩
    · refine ⟨false, fun e ⟨r, he, hr⟩ => ?_⟩
      cases r
      · exact he
      · exact absurd (hr.1 rfl) h
  obtain ⟨T, HT⟩ := tel (RightC L K S)
  obtain ⟨U, HU⟩ := tel (L = L' ∧ K = K' ∧ S = S')
  clear tel
  -- MARK
  rw [← hC, ← hD]
  have KR : Hid (∀ W, Below w.heap.size w W → Calls Tryd.prog 18 #[.agg C] W fun e w' => e = .returned (.bool T) ∧ Below W.heap.size W w') := fun W hb => (JR.out W hb).mono (by rintro e w' ⟨h, b⟩; exact ⟨HT.out e h, b⟩)
  have KQ : Hid (∀ W, Below w.heap.size w W → Calls Tryd.prog 19 #[.agg C] W fun e w' => e = .returned (.bool T) ∧ Below W.heap.size W w') := fun W hb => (JQ.out W hb).mono (by rintro e w' ⟨h, b⟩; exact ⟨HT.out e h, b⟩)
  have KS : Hid (∀ W, Below w.heap.size w W → Calls Tryd.prog 20 #[.agg C, .agg D] W fun e w' => e = .returned (.bool U) ∧ Below W.heap.size W w') := fun W hb => (JS.out W hb).mono (by rintro e w' ⟨h, b⟩; exact ⟨HU.out e h, b⟩)
  have KT : Hid (∀ W, Below w.heap.size w W → Calls Tryd.prog 12 #[.agg C, .agg D] W fun e w' => e = .returned (.bool U) ∧ Below W.heap.size W w') := fun W hb => (JT.out W hb).mono (by rintro e w' ⟨h, b⟩; exact ⟨HU.out e h, b⟩)
  have KU : Hid (∀ W, Below w.heap.size w W → Calls Tryd.prog 20 #[.agg C, .agg C] W fun e w' => e = .returned (.bool true) ∧ Below W.heap.size W w') := fun W hb => (JU.out W hb).mono (by
    rintro e w' ⟨⟨r, rfl, h⟩, b⟩
    rw [h.2 ⟨rfl, rfl, rfl⟩]
    exact ⟨rfl, b⟩)
  clear JR JQ JS JT JU h1 h2 h3 g1 g2 g3 hp hT hs hs'
  subst hC
  subst hD
  generalize L.length = N at *
  generalize L'.length = N' at *
  generalize K.length = M at *
  generalize K'.length = M' at *
  generalize S.length = Q at *
  generalize S'.length = Q' at *
  obtain ⟨W1, hW1⟩ : ∃ W1, w.alloc (.cells #[.slice a1 N c1, .slice a2 M c2, .slice a3 Q c3] 27) = W1 := ⟨_, rfl⟩
  obtain ⟨W2, hW2⟩ : ∃ W2, W1.alloc (.cells #[.slice b1 N' d1, .slice b2 M' d2, .slice b3 Q' d3] 27) = W2 := ⟨_, rfl⟩
  obtain ⟨W3, hW3⟩ : ∃ W3, W2.alloc (.cells p.v 42) = W3 := ⟨_, rfl⟩
  have q3 := bel_al (bel_al (bel_nw hW1) hW2) hW3
  have HB1 : Hid (Blk W3 w.heap.size 27 #[.slice a1 N c1, .slice a2 M c2, .slice a3 Q c3]) := ((blk_nw hW1).al hW2).al hW3
  have HB2 : Hid (Blk W3 W1.heap.size 27 #[.slice b1 N' d1, .slice b2 M' d2, .slice b3 Q' d3]) := (blk_nw hW2).al hW3
  have HB3 : Hid (Blk W3 W2.heap.size 42 p.v) := blk_nw hW3
  have f0 := HB1.out.cell 0 (.slice a1 N c1) rfl
  have f1 := HB1.out.cell 1 (.slice a2 M c2) rfl
  have f2 := HB1.out.cell 2 (.slice a3 Q c3) rfl
  have t0 := HB3.out.cell 0 (.int .u64 p.a) rfl
  have t1 := HB3.out.cell 1 (.int .u64 p.b) rfl
  have t2 := HB3.out.cell 2 (.int .u64 p.c) rfl
  have KD : Hid _ := KF.out W3 q3
  go_enter Tryd.func5, Tryd.ntmps5
  go_wp2_with fail
  refine Calls.mono KD.out ?_
  rintro e W4 ⟨hf, bb⟩
  obtain ⟨x, r, he, _⟩ := finds_same hf hf
  rw [he] at hf
  rw [he]
  have HF : Hid (Finds (.returned (.tuple #[.int .i64 x, .bool r])) L K S p) := hf
  have q4 := bel_tr q3 bb
  have HB4 : Hid (Blk W4 w.heap.size 27 #[.slice a1 N c1, .slice a2 M c2, .slice a3 Q c3]) := HB1.out.kept bb
  have HB5 : Hid (Blk W4 W1.heap.size 27 #[.slice b1 N' d1, .slice b2 M' d2, .slice b3 Q' d3]) := HB2.out.kept bb
  have HB6 : Hid (Blk W4 W2.heap.size 42 p.v) := HB3.out.kept bb
  clear hf he f0 f1 f2 t0 t1 t2 KD bb hW1 hW2 hW3 HB1 HB2 HB3 q3
  have f0 := HB4.out.cell 0 (.slice a1 N c1) rfl
  have f1 := HB4.out.cell 1 (.slice a2 M c2) rfl
  have f2 := HB4.out.cell 2 (.slice a3 Q c3) rfl
  have t0 := HB6.out.cell 0 (.int .u64 p.a) rfl
  have t1 := HB6.out.cell 1 (.int .u64 p.b) rfl
  have t2 := HB6.out.cell 2 (.int .u64 p.c) rfl
  have KD : Hid _ := KG.out W4 q4
  go_wp2_with fail
  refine Calls.mono KD.out ?_
  rintro e W5 ⟨hg, bb⟩
  obtain ⟨x', r', h1, h2⟩ := finds_same HF.out hg
  simp only [Ending.returned.injEq, Value.tuple.injEq, Array.mk.injEq, List.cons.injEq, Value.int.injEq, Value.bool.injEq, true_and, and_true] at h1
  obtain ⟨rfl, rfl⟩ := h1
  subst h2
  have q5 := bel_tr q4 bb
  have HB7 : Hid (Blk W5 w.heap.size 27 #[.slice a1 N c1, .slice a2 M c2, .slice a3 Q c3]) := HB4.out.kept bb
  have HB8 : Hid (Blk W5 W1.heap.size 27 #[.slice b1 N' d1, .slice b2 M' d2, .slice b3 Q' d3]) := HB5.out.kept bb
  clear hg f0 f1 f2 t0 t1 t2 KD bb HB4 HB5 HB6 q4 HF
  have q9 : Below w.heap.size w W5.drew := q5.drew
  have f0_9 := kept (below_drew W5) (HB7.out.cell 0 (.slice a1 N c1) rfl)
  have f1_9 := kept (below_drew W5) (HB7.out.cell 1 (.slice a2 M c2) rfl)
  have f2_9 := kept (below_drew W5) (HB7.out.cell 2 (.slice a3 Q c3) rfl)
  have e0_9 := kept (below_drew W5) (HB8.out.cell 0 (.slice b1 N' d1) rfl)
  have e1_9 := kept (below_drew W5) (HB8.out.cell 1 (.slice b2 M' d2) rfl)
  have e2_9 := kept (below_drew W5) (HB8.out.cell 2 (.slice b3 Q' d3) rfl)
  go_wp2_with fail
  refine wp_region_noPanic ?_
  refine wp_region_held_drew (S := fun w'' => w''.cell? ⟨w.heap.size, 0, none⟩ = some (.slice a1 N c1) ∧ w''.cell? ⟨w.heap.size, 1, none⟩ = some (.slice a2 M c2) ∧ w''.cell? ⟨w.heap.size, 2, none⟩ = some (.slice a3 Q c3) ∧ w''.cell? ⟨W1.heap.size, 0, none⟩ = some (.slice b1 N' d1) ∧ w''.cell? ⟨W1.heap.size, 1, none⟩ = some (.slice b2 M' d2) ∧ w''.cell? ⟨W1.heap.size, 2, none⟩ = some (.slice b3 Q' d3)) (by kernel_rfl) (by exact ⟨f0_9, f1_9, f2_9, e0_9, e1_9, e2_9⟩) (fun hHeld => ?_)
  refine wpAnyH_take (i := 0) (oi := { dst := some 23, op := Op.move (.tmp 7), type := 3, pos := "law.go:42", after := #[], guard := none }) (v := (.int .i64 x)) rfl (by kernel_rfl) (by kernel_rfl) (by kernel_rfl) (fun _ _ _ h => h) (Or.inl ⟨by rfl, ?_⟩) hHeld ?_
  · intro w9 hSw
    try dsimp only at hSw
    go_simp
  try simp only [Act.put, List.setIfInBounds_toArray, List.set_cons_zero, List.set_cons_succ]
  refine wpAnyH_take (i := 1) (oi := { dst := some 24, op := Op.move (.tmp 9), type := 3, pos := "law.go:42", after := #[], guard := none }) (v := (.int .i64 x)) rfl (by kernel_rfl) (by kernel_rfl) (by kernel_rfl) (fun _ _ _ h => h) (Or.inl ⟨by rfl, ?_⟩) hHeld ?_
  · intro w9 hSw
    try dsimp only at hSw
    go_simp
  try simp only [Act.put, List.setIfInBounds_toArray, List.set_cons_zero, List.set_cons_succ]
  refine wpAnyH_take (i := 2) (oi := { dst := some 25, op := Op.binOp BinOp.eql 3 (.tmp 23) (.tmp 24) 3, type := 4, pos := "law.go:42", after := #[{ on := 0, ground := Ground.data }, { on := 1, ground := Ground.data }], guard := none }) (v := (.bool true)) rfl (by kernel_rfl) (by kernel_rfl) (by kernel_rfl) (fun _ _ _ h => h) (Or.inl ⟨by rfl, ?_⟩) hHeld ?_
  · intro w9 hSw
    try dsimp only at hSw
    go_simp
  try simp only [Act.put, List.setIfInBounds_toArray, List.set_cons_zero, List.set_cons_succ]
  refine wpAnyH_take (i := 3) (oi := { dst := some 26, op := Op.move (.tmp 25), type := 4, pos := "law.go:42", after := #[{ on := 2, ground := Ground.data }], guard := none }) (v := (.bool true)) rfl (by kernel_rfl) (by kernel_rfl) (by kernel_rfl) (fun _ _ _ h => h) (Or.inl ⟨by rfl, ?_⟩) hHeld ?_
  · intro w9 hSw
    try dsimp only at hSw
    go_simp
  try simp only [Act.put, List.setIfInBounds_toArray, List.set_cons_zero, List.set_cons_succ]
  refine wpAnyH_take (i := 4) (oi := { dst := some 27, op := Op.move (.tmp 8), type := 4, pos := "law.go:42", after := #[{ on := 3, ground := Ground.guard }], guard := some (3, true) }) (v := (.bool r)) rfl (by kernel_rfl) (by kernel_rfl) (by kernel_rfl) (fun _ _ _ h => h) (Or.inl ⟨by rfl, ?_⟩) hHeld ?_
  · intro w9 hSw
    try dsimp only at hSw
    go_simp
  try simp only [Act.put, List.setIfInBounds_toArray, List.set_cons_zero, List.set_cons_succ]
  refine wpAnyH_take (i := 5) (oi := { dst := some 28, op := Op.move (.tmp 10), type := 4, pos := "law.go:42", after := #[{ on := 3, ground := Ground.guard }], guard := some (3, true) }) (v := (.bool r)) rfl (by kernel_rfl) (by kernel_rfl) (by kernel_rfl) (fun _ _ _ h => h) (Or.inl ⟨by rfl, ?_⟩) hHeld ?_
  · intro w9 hSw
    try dsimp only at hSw
    go_simp
  try simp only [Act.put, List.setIfInBounds_toArray, List.set_cons_zero, List.set_cons_succ]
  refine wpAnyH_take (i := 6) (oi := { dst := some 29, op := Op.binOp BinOp.eql 4 (.tmp 27) (.tmp 28) 4, type := 4, pos := "law.go:42", after := #[{ on := 4, ground := Ground.data }, { on := 5, ground := Ground.data }, { on := 3, ground := Ground.guard }], guard := some (3, true) }) (v := (.bool true)) rfl (by kernel_rfl) (by kernel_rfl) (by kernel_rfl) (fun _ _ _ h => h) (Or.inl ⟨by rfl, ?_⟩) hHeld ?_
  · intro w9 hSw
    try dsimp only at hSw
    go_simp
  try simp only [Act.put, List.setIfInBounds_toArray, List.set_cons_zero, List.set_cons_succ]
  refine wpAnyH_take (i := 7) (oi := { dst := some 30, op := Op.pick (.tmp 26) (.tmp 29) (.const (.bool false)), type := 4, pos := "law.go:42", after := #[{ on := 3, ground := Ground.data }, { on := 6, ground := Ground.data }], guard := none }) (v := (.bool true)) rfl (by kernel_rfl) (by kernel_rfl) (by kernel_rfl) (fun _ _ _ h => h) (Or.inl ⟨by rfl, ?_⟩) hHeld ?_
  · intro w9 hSw
    try dsimp only at hSw
    go_simp
  try simp only [Act.put, List.setIfInBounds_toArray, List.set_cons_zero, List.set_cons_succ]
  refine wpAnyH_take (i := 8) (oi := { dst := some 31, op := Op.move (.tmp 30), type := 4, pos := "law.go:42", after := #[{ on := 7, ground := Ground.data }, { on := 3, ground := Ground.chain }], guard := none }) (v := (.bool true)) rfl (by kernel_rfl) (by kernel_rfl) (by kernel_rfl) (fun _ _ _ h => h) (Or.inl ⟨by rfl, ?_⟩) hHeld ?_
  · intro w9 hSw
    try dsimp only at hSw
    go_simp
  try simp only [Act.put, List.setIfInBounds_toArray, List.set_cons_zero, List.set_cons_succ]
  refine wpAnyH_take (i := 9) (oi := { dst := some 32, op := Op.load 27 (.tmp 3), type := 27, pos := "law.go:42", after := #[{ on := 8, ground := Ground.guard }], guard := some (8, true) }) (v := (.agg #[.slice a1 N c1, .slice a2 M c2, .slice a3 Q c3])) rfl (by kernel_rfl) (by kernel_rfl) (by kernel_rfl) (fun _ _ _ h => h) (Or.inl ⟨by rfl, ?_⟩) hHeld ?_
  · intro w9 hSw
    try dsimp only at hSw
    go_simp
  try simp only [Act.put, List.setIfInBounds_toArray, List.set_cons_zero, List.set_cons_succ]
  refine wpAnyH_take (i := 11) (oi := { dst := some 34, op := Op.load 27 (.tmp 3), type := 27, pos := "law.go:42", after := #[{ on := 8, ground := Ground.guard }], guard := some (8, true) }) (v := (.agg #[.slice a1 N c1, .slice a2 M c2, .slice a3 Q c3])) rfl (by kernel_rfl) (by kernel_rfl) (by kernel_rfl) (fun _ _ _ h => h) (Or.inl ⟨by rfl, ?_⟩) hHeld ?_
  · intro w9 hSw
    try dsimp only at hSw
    go_simp
  try simp only [Act.put, List.setIfInBounds_toArray, List.set_cons_zero, List.set_cons_succ]
  refine wpAnyH_ready (rs := [10]) (by kernel_rfl) (by simp) ?_
  refine AllReadyH.cons (o := { dst := some 33, op := Op.call { callee := Callee.value (.func 18), args := #[.tmp 32], argTypes := #[27] }, type := 4, pos := "law.go:42", after := #[{ on := 9, ground := Ground.data }, { on := 8, ground := Ground.chain }, { on := 8, ground := Ground.guard }], guard := some (8, true) }) rfl (fun K hK => ?_) AllReadyH.nil
  go_simp
  refine Calls.mono (KR.out _ q9) ?_
  rintro e W10 ⟨rfl, bb10⟩
  have f0_10 := kept bb10 f0_9
  have f1_10 := kept bb10 f1_9
  have f2_10 := kept bb10 f2_9
  have e0_10 := kept bb10 e0_9
  have e1_10 := kept bb10 e1_9
  have e2_10 := kept bb10 e2_9
  have q10 := bel_tr q9 bb10
  refine hK.out _ _ ?_ (fun hHeld => ?_)
  · exact ⟨f0_10, f1_10, f2_10, e0_10, e1_10, e2_10⟩
  clear hK K
  try simp only [Act.put, List.setIfInBounds_toArray, List.set_cons_zero, List.set_cons_succ]
  refine wpAnyH_ready (rs := [12]) (by kernel_rfl) (by simp) ?_
  refine AllReadyH.cons (o := { dst := some 35, op := Op.call { callee := Callee.value (.func 19), args := #[.tmp 34], argTypes := #[27] }, type := 4, pos := "law.go:42", after := #[{ on := 11, ground := Ground.data }, { on := 10, ground := Ground.chain }, { on := 8, ground := Ground.guard }], guard := some (8, true) }) rfl (fun K hK => ?_) AllReadyH.nil
  go_simp
  refine Calls.mono (KQ.out _ q10) ?_
  rintro e W12 ⟨rfl, bb12⟩
  have f0_12 := kept bb12 f0_10
  have f1_12 := kept bb12 f1_10
  have f2_12 := kept bb12 f2_10
  have e0_12 := kept bb12 e0_10
  have e1_12 := kept bb12 e1_10
  have e2_12 := kept bb12 e2_10
  have q12 := bel_tr q10 bb12
  refine hK.out _ _ ?_ (fun hHeld => ?_)
  · exact ⟨f0_12, f1_12, f2_12, e0_12, e1_12, e2_12⟩
  clear hK K
  try simp only [Act.put, List.setIfInBounds_toArray, List.set_cons_zero, List.set_cons_succ]
  refine wpAnyH_take (i := 13) (oi := { dst := some 36, op := Op.binOp BinOp.eql 4 (.tmp 33) (.tmp 35) 4, type := 4, pos := "law.go:42", after := #[{ on := 10, ground := Ground.data }, { on := 12, ground := Ground.data }, { on := 8, ground := Ground.guard }], guard := some (8, true) }) (v := (.bool true)) rfl (by kernel_rfl) (by kernel_rfl) (by kernel_rfl) (fun _ _ _ h => h) (Or.inl ⟨by rfl, ?_⟩) hHeld ?_
  · intro w9 hSw
    try dsimp only at hSw
    go_simp
  try simp only [Act.put, List.setIfInBounds_toArray, List.set_cons_zero, List.set_cons_succ]
  refine wpAnyH_take (i := 14) (oi := { dst := some 37, op := Op.pick (.tmp 31) (.tmp 36) (.const (.bool false)), type := 4, pos := "law.go:42", after := #[{ on := 8, ground := Ground.data }, { on := 13, ground := Ground.data }], guard := none }) (v := (.bool true)) rfl (by kernel_rfl) (by kernel_rfl) (by kernel_rfl) (fun _ _ _ h => h) (Or.inl ⟨by rfl, ?_⟩) hHeld ?_
  · intro w9 hSw
    try dsimp only at hSw
    go_simp
  try simp only [Act.put, List.setIfInBounds_toArray, List.set_cons_zero, List.set_cons_succ]
  refine wpAnyH_take (i := 15) (oi := { dst := some 38, op := Op.move (.tmp 37), type := 4, pos := "law.go:42", after := #[{ on := 14, ground := Ground.data }, { on := 12, ground := Ground.chain }], guard := none }) (v := (.bool true)) rfl (by kernel_rfl) (by kernel_rfl) (by kernel_rfl) (fun _ _ _ h => h) (Or.inl ⟨by rfl, ?_⟩) hHeld ?_
  · intro w9 hSw
    try dsimp only at hSw
    go_simp
  try simp only [Act.put, List.setIfInBounds_toArray, List.set_cons_zero, List.set_cons_succ]
  refine wpAnyH_take (i := 16) (oi := { dst := some 39, op := Op.load 27 (.tmp 3), type := 27, pos := "law.go:42", after := #[{ on := 15, ground := Ground.guard }], guard := some (15, true) }) (v := (.agg #[.slice a1 N c1, .slice a2 M c2, .slice a3 Q c3])) rfl (by kernel_rfl) (by kernel_rfl) (by kernel_rfl) (fun _ _ _ h => h) (Or.inl ⟨by rfl, ?_⟩) hHeld ?_
  · intro w9 hSw
    try dsimp only at hSw
    go_simp
  try simp only [Act.put, List.setIfInBounds_toArray, List.set_cons_zero, List.set_cons_succ]
  refine wpAnyH_take (i := 17) (oi := { dst := some 40, op := Op.load 27 (.tmp 4), type := 27, pos := "law.go:42", after := #[{ on := 15, ground := Ground.guard }], guard := some (15, true) }) (v := (.agg #[.slice b1 N' d1, .slice b2 M' d2, .slice b3 Q' d3])) rfl (by kernel_rfl) (by kernel_rfl) (by kernel_rfl) (fun _ _ _ h => h) (Or.inl ⟨by rfl, ?_⟩) hHeld ?_
  · intro w9 hSw
    try dsimp only at hSw
    go_simp
  try simp only [Act.put, List.setIfInBounds_toArray, List.set_cons_zero, List.set_cons_succ]
  refine wpAnyH_take (i := 19) (oi := { dst := some 42, op := Op.load 27 (.tmp 3), type := 27, pos := "law.go:42", after := #[{ on := 15, ground := Ground.guard }], guard := some (15, true) }) (v := (.agg #[.slice a1 N c1, .slice a2 M c2, .slice a3 Q c3])) rfl (by kernel_rfl) (by kernel_rfl) (by kernel_rfl) (fun _ _ _ h => h) (Or.inl ⟨by rfl, ?_⟩) hHeld ?_
  · intro w9 hSw
    try dsimp only at hSw
    go_simp
  try simp only [Act.put, List.setIfInBounds_toArray, List.set_cons_zero, List.set_cons_succ]
  refine wpAnyH_take (i := 20) (oi := { dst := some 43, op := Op.load 27 (.tmp 4), type := 27, pos := "law.go:42", after := #[{ on := 15, ground := Ground.guard }], guard := some (15, true) }) (v := (.agg #[.slice b1 N' d1, .slice b2 M' d2, .slice b3 Q' d3])) rfl (by kernel_rfl) (by kernel_rfl) (by kernel_rfl) (fun _ _ _ h => h) (Or.inl ⟨by rfl, ?_⟩) hHeld ?_
  · intro w9 hSw
    try dsimp only at hSw
    go_simp
  try simp only [Act.put, List.setIfInBounds_toArray, List.set_cons_zero, List.set_cons_succ]
  refine wpAnyH_ready (rs := [18]) (by kernel_rfl) (by simp) ?_
  refine AllReadyH.cons (o := { dst := some 41, op := Op.call { callee := Callee.value (.func 20), args := #[.tmp 39, .tmp 40], argTypes := #[27, 27] }, type := 4, pos := "law.go:42", after := #[{ on := 16, ground := Ground.data }, { on := 17, ground := Ground.data }, { on := 15, ground := Ground.chain }, { on := 15, ground := Ground.guard }], guard := some (15, true) }) rfl (fun K hK => ?_) AllReadyH.nil
  go_simp
  refine Calls.mono (KS.out _ q12) ?_
  rintro e W18 ⟨rfl, bb18⟩
  have f0_18 := kept bb18 f0_12
  have f1_18 := kept bb18 f1_12
  have f2_18 := kept bb18 f2_12
  have e0_18 := kept bb18 e0_12
  have e1_18 := kept bb18 e1_12
  have e2_18 := kept bb18 e2_12
  have q18 := bel_tr q12 bb18
  refine hK.out _ _ ?_ (fun hHeld => ?_)
  · exact ⟨f0_18, f1_18, f2_18, e0_18, e1_18, e2_18⟩
  clear hK K
  try simp only [Act.put, List.setIfInBounds_toArray, List.set_cons_zero, List.set_cons_succ]
  refine wpAnyH_ready (rs := [21]) (by kernel_rfl) (by simp) ?_
  refine AllReadyH.cons (o := { dst := some 44, op := Op.call { callee := Callee.value (.func 12), args := #[.tmp 42, .tmp 43], argTypes := #[27, 27] }, type := 4, pos := "law.go:42", after := #[{ on := 19, ground := Ground.data }, { on := 20, ground := Ground.data }, { on := 18, ground := Ground.chain }, { on := 15, ground := Ground.guard }], guard := some (15, true) }) rfl (fun K hK => ?_) AllReadyH.nil
  go_simp
  refine Calls.mono (KT.out _ q18) ?_
  rintro e W21 ⟨rfl, bb21⟩
  have f0_21 := kept bb21 f0_18
  have f1_21 := kept bb21 f1_18
  have f2_21 := kept bb21 f2_18
  have e0_21 := kept bb21 e0_18
  have e1_21 := kept bb21 e1_18
  have e2_21 := kept bb21 e2_18
  have q21 := bel_tr q18 bb21
  refine hK.out _ _ ?_ (fun hHeld => ?_)
  · exact ⟨f0_21, f1_21, f2_21, e0_21, e1_21, e2_21⟩
  clear hK K
  try simp only [Act.put, List.setIfInBounds_toArray, List.set_cons_zero, List.set_cons_succ]
  refine wpAnyH_take (i := 22) (oi := { dst := some 45, op := Op.binOp BinOp.eql 4 (.tmp 41) (.tmp 44) 4, type := 4, pos := "law.go:42", after := #[{ on := 18, ground := Ground.data }, { on := 21, ground := Ground.data }, { on := 15, ground := Ground.guard }], guard := some (15, true) }) (v := (.bool true)) rfl (by kernel_rfl) (by kernel_rfl) (by kernel_rfl) (fun _ _ _ h => h) (Or.inl ⟨by rfl, ?_⟩) hHeld ?_
  · intro w9 hSw
    try dsimp only at hSw
    go_simp
  try simp only [Act.put, List.setIfInBounds_toArray, List.set_cons_zero, List.set_cons_succ]
  refine wpAnyH_take (i := 23) (oi := { dst := some 46, op := Op.pick (.tmp 38) (.tmp 45) (.const (.bool false)), type := 4, pos := "law.go:42", after := #[{ on := 15, ground := Ground.data }, { on := 22, ground := Ground.data }], guard := none }) (v := (.bool true)) rfl (by kernel_rfl) (by kernel_rfl) (by kernel_rfl) (fun _ _ _ h => h) (Or.inl ⟨by rfl, ?_⟩) hHeld ?_
  · intro w9 hSw
    try dsimp only at hSw
    go_simp
  try simp only [Act.put, List.setIfInBounds_toArray, List.set_cons_zero, List.set_cons_succ]
  refine wpAnyH_take (i := 24) (oi := { dst := some 47, op := Op.move (.tmp 46), type := 4, pos := "law.go:42", after := #[{ on := 23, ground := Ground.data }, { on := 21, ground := Ground.chain }], guard := none }) (v := (.bool true)) rfl (by kernel_rfl) (by kernel_rfl) (by kernel_rfl) (fun _ _ _ h => h) (Or.inl ⟨by rfl, ?_⟩) hHeld ?_
  · intro w9 hSw
    try dsimp only at hSw
    go_simp
  try simp only [Act.put, List.setIfInBounds_toArray, List.set_cons_zero, List.set_cons_succ]
  refine wpAnyH_take (i := 25) (oi := { dst := some 48, op := Op.load 27 (.tmp 3), type := 27, pos := "law.go:42", after := #[{ on := 24, ground := Ground.guard }], guard := some (24, true) }) (v := (.agg #[.slice a1 N c1, .slice a2 M c2, .slice a3 Q c3])) rfl (by kernel_rfl) (by kernel_rfl) (by kernel_rfl) (fun _ _ _ h => h) (Or.inl ⟨by rfl, ?_⟩) hHeld ?_
  · intro w9 hSw
    try dsimp only at hSw
    go_simp
  try simp only [Act.put, List.setIfInBounds_toArray, List.set_cons_zero, List.set_cons_succ]
  refine wpAnyH_take (i := 26) (oi := { dst := some 49, op := Op.load 27 (.tmp 3), type := 27, pos := "law.go:42", after := #[{ on := 24, ground := Ground.guard }], guard := some (24, true) }) (v := (.agg #[.slice a1 N c1, .slice a2 M c2, .slice a3 Q c3])) rfl (by kernel_rfl) (by kernel_rfl) (by kernel_rfl) (fun _ _ _ h => h) (Or.inl ⟨by rfl, ?_⟩) hHeld ?_
  · intro w9 hSw
    try dsimp only at hSw
    go_simp
  try simp only [Act.put, List.setIfInBounds_toArray, List.set_cons_zero, List.set_cons_succ]
  refine wpAnyH_ready (rs := [27]) (by kernel_rfl) (by simp) ?_
  refine AllReadyH.cons (o := { dst := some 50, op := Op.call { callee := Callee.value (.func 20), args := #[.tmp 48, .tmp 49], argTypes := #[27, 27] }, type := 4, pos := "law.go:42", after := #[{ on := 25, ground := Ground.data }, { on := 26, ground := Ground.data }, { on := 24, ground := Ground.chain }, { on := 24, ground := Ground.guard }], guard := some (24, true) }) rfl (fun K hK => ?_) AllReadyH.nil
  go_simp
  refine Calls.mono (KU.out _ q21) ?_
  rintro e W27 ⟨rfl, bb27⟩
  have f0_27 := kept bb27 f0_21
  have f1_27 := kept bb27 f1_21
  have f2_27 := kept bb27 f2_21
  have e0_27 := kept bb27 e0_21
  have e1_27 := kept bb27 e1_21
  have e2_27 := kept bb27 e2_21
  have q27 := bel_tr q21 bb27
  refine hK.out _ _ ?_ (fun hHeld => ?_)
  · exact ⟨f0_27, f1_27, f2_27, e0_27, e1_27, e2_27⟩
  clear hK K
  try simp only [Act.put, List.setIfInBounds_toArray, List.set_cons_zero, List.set_cons_succ]
  refine wpAnyH_take (i := 28) (oi := { dst := some 51, op := Op.pick (.tmp 47) (.tmp 50) (.const (.bool false)), type := 4, pos := "law.go:42", after := #[{ on := 24, ground := Ground.data }, { on := 27, ground := Ground.data }], guard := none }) (v := (.bool true)) rfl (by kernel_rfl) (by kernel_rfl) (by kernel_rfl) (fun _ _ _ h => h) (Or.inl ⟨by rfl, ?_⟩) hHeld ?_
  · intro w9 hSw
    try dsimp only at hSw
    go_simp
  try simp only [Act.put, List.setIfInBounds_toArray, List.set_cons_zero, List.set_cons_succ]
  refine wpAnyH_take (i := 29) (oi := { dst := some 52, op := Op.move (.tmp 51), type := 4, pos := "law.go:42", after := #[{ on := 28, ground := Ground.data }, { on := 27, ground := Ground.chain }], guard := none }) (v := (.bool true)) rfl (by kernel_rfl) (by kernel_rfl) (by kernel_rfl) (fun _ _ _ h => h) (Or.inl ⟨by rfl, ?_⟩) hHeld ?_
  · intro w9 hSw
    try dsimp only at hSw
    go_simp
  try simp only [Act.put, List.setIfInBounds_toArray, List.set_cons_zero, List.set_cons_succ]
  refine wpAnyH_ready (rs := [30]) (by kernel_rfl) (by simp) ?_
  refine AllReadyH.cons (o := { dst := some 53, op := Op.call { callee := Callee.value (.func 13), args := #[], argTypes := #[] }, type := 4, pos := "law.go:42", after := #[{ on := 29, ground := Ground.chain }, { on := 29, ground := Ground.guard }], guard := some (29, true) }) rfl (fun K hK => ?_) AllReadyH.nil
  go_simp
  refine Calls.mono (KA.out _ q27) ?_
  rintro e W30 ⟨rfl, bb30⟩
  have f0_30 := kept bb30 f0_27
  have f1_30 := kept bb30 f1_27
  have f2_30 := kept bb30 f2_27
  have e0_30 := kept bb30 e0_27
  have e1_30 := kept bb30 e1_27
  have e2_30 := kept bb30 e2_27
  have q30 := bel_tr q27 bb30
  refine hK.out _ _ ?_ (fun hHeld => ?_)
  · exact ⟨f0_30, f1_30, f2_30, e0_30, e1_30, e2_30⟩
  clear hK K
  try simp only [Act.put, List.setIfInBounds_toArray, List.set_cons_zero, List.set_cons_succ]
  refine wpAnyH_take (i := 31) (oi := { dst := some 54, op := Op.pick (.tmp 52) (.tmp 53) (.const (.bool false)), type := 4, pos := "law.go:42", after := #[{ on := 29, ground := Ground.data }, { on := 30, ground := Ground.data }], guard := none }) (v := (.bool true)) rfl (by kernel_rfl) (by kernel_rfl) (by kernel_rfl) (fun _ _ _ h => h) (Or.inl ⟨by rfl, ?_⟩) hHeld ?_
  · intro w9 hSw
    try dsimp only at hSw
    go_simp
  try simp only [Act.put, List.setIfInBounds_toArray, List.set_cons_zero, List.set_cons_succ]
  refine wpAnyH_take (i := 32) (oi := { dst := some 6, op := Op.assign (.tmp 54), type := 4, pos := "law.go:42", after := #[{ on := 31, ground := Ground.data }, { on := 30, ground := Ground.chain }, { on := 0, ground := Ground.phase }, { on := 1, ground := Ground.phase }, { on := 2, ground := Ground.phase }, { on := 3, ground := Ground.phase }, { on := 4, ground := Ground.phase }, { on := 5, ground := Ground.phase }, { on := 6, ground := Ground.phase }, { on := 7, ground := Ground.phase }, { on := 8, ground := Ground.phase }, { on := 9, ground := Ground.phase }, { on := 10, ground := Ground.phase }, { on := 11, ground := Ground.phase }, { on := 12, ground := Ground.phase }, { on := 13, ground := Ground.phase }, { on := 14, ground := Ground.phase }, { on := 15, ground := Ground.phase }, { on := 16, ground := Ground.phase }, { on := 17, ground := Ground.phase }, { on := 18, ground := Ground.phase }, { on := 19, ground := Ground.phase }, { on := 20, ground := Ground.phase }, { on := 21, ground := Ground.phase }, { on := 22, ground := Ground.phase }, { on := 23, ground := Ground.phase }, { on := 24, ground := Ground.phase }, { on := 25, ground := Ground.phase }, { on := 26, ground := Ground.phase }, { on := 27, ground := Ground.phase }, { on := 28, ground := Ground.phase }, { on := 29, ground := Ground.phase }, { on := 30, ground := Ground.phase }, { on := 31, ground := Ground.phase }], guard := none }) (v := (.bool true)) rfl (by kernel_rfl) (by kernel_rfl) (by kernel_rfl) (fun _ _ _ h => h) (Or.inl ⟨by rfl, ?_⟩) hHeld ?_
  · intro w9 hSw
    try dsimp only at hSw
    go_simp
  try simp only [Act.put, List.setIfInBounds_toArray, List.set_cons_zero, List.set_cons_succ]
  refine wpAnyH_done (by kernel_rfl) ?_ _
  refine NoPanic.normal ?_
  go_wp2
  go_ret
  exact ⟨rfl, q30⟩
end Go.Proofs.YtgppfkbapieneaaDoor
