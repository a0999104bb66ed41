/- Segments: Parse, and the parts of Build. -/
import Derived.Test.YtgdpcomcndidcaaSgqP
namespace Go.Proofs.Ytgdpcomcndidcaa
open Go.RowKit Go.Maps
set_option linter.unusedVariables false
set_option linter.unusedSimpArgs false

/-- What Parse answers. -/
def segE (f pr : Int) (s d : Ad) (l : List Int) : Int :=
  if endsB f s d = false then 1 else if pr = 6 then tcpE f pr s d l else if pr = 17 then udpE f pr s d l else if pr = icmpOf f then icmpE f pr s d l else 9
def segX (f pr : Int) (s d : Ad) (l : List Int) : Sg :=
  if segE f pr s d l = 0 then (if pr = 6 then tcpX f pr s d l else if pr = 17 then udpX f pr s d l else icmpX f pr s d l) else zSg
theorem step_look {ops : Array Oper} {o : Oper} {ac : Act} {K : Act → World → Prop} {Q : Exit → Act → World → Prop} {Z : Prop} {w : World} (hgd : o.guard = none) (m k : Operand) (ho : o.op = Op.lookup 62 m k true) (v1 v2 r : Value)
    (hm : ac.eval m = v1) (hk : ac.eval k = v2) (hrun : (Instr.lookup 62 v1 v2 true).run Try.prog w = .ok r w) (h : K (ac.put o.dst r) w) :
    if Region.wanted o (yielded ops ac.tmps) = true then Oper.wp Try.prog o ac w K Q else Z := by
  have hw : Region.wanted o (yielded ops ac.tmps) = true := by simp [Region.wanted, hgd]
  rw [if_pos hw]
  simp [Oper.wp, Oper.upon, execOp, ho, hm, hk, hrun, Result.andThen]
  exact h

theorem icmp_any (f sf sh sl df dh dl pr ho : Int) (fg : Bool) (id of : Int) (mo : Bool) (xa : Option Addr) (xn xc : Nat) (da : Option Addr) (dc : Nat) (l : List Int) (w : World) (h : Row w da l) (hnil : da = none → dc = 0) (hc : l.length ≤ dc) (hcm : dc ≤ 9223372036854775807) (hll : l.length ≤ 140737488351232) (hs : Ad.ok ⟨sf, sh, sl⟩) (hd : Ad.ok ⟨df, dh, dl⟩) :
    Calls Try.prog 58 #[.agg #[.int .i64 f, .int .i64 sf, .int .u64 sh, .int .u64 sl, .int .i64 df, .int .u64 dh, .int .u64 dl, .int .i64 pr, .int .i64 ho, .bool fg, .int .u32 id, .int .i64 of, .bool mo, .slice xa xn xc, .slice da l.length dc]] w (GotS w (icmpE f pr ⟨sf, sh, sl⟩ ⟨df, dh, dl⟩ l) (if icmpE f pr ⟨sf, sh, sl⟩ ⟨df, dh, dl⟩ l = 0 then icmpX f pr ⟨sf, sh, sl⟩ ⟨df, dh, dl⟩ l else zSg)) := by
  obtain ⟨E, hE⟩ : ∃ E, icmpE f pr ⟨sf, sh, sl⟩ ⟨df, dh, dl⟩ l = E := ⟨_, rfl⟩
  rw [hE]
  unfold icmpE at hE
  split at hE
  · rename_i h8
    subst hE
    exact icmp_e2 f sf sh sl df dh dl pr ho fg id of mo xa xn xc da dc l w h hnil hc hcm hs hd h8
  rename_i h8
  obtain ⟨bk, off, rfl, _⟩ := h.cells (by omega)
  split at hE
  · rename_i hsum
    subst hE
    exact icmp_e6 f sf sh sl df dh dl pr ho fg id of mo xa xn xc bk off dc l w h hc hcm hs hd h8 hsum
  rename_i hsum
  have hsum : sumsB ⟨sf, sh, sl⟩ ⟨df, dh, dl⟩ pr l = true := by simpa using hsum
  split at hE
  · rename_i her
    subst hE
    exact icmp_ok0 f sf sh sl df dh dl pr ho fg id of mo xa xn xc bk off dc l w h hc hcm hs hd hll h8 hsum her
  rename_i her
  have her : isErr f (l.getD 0 0) = true := by simpa using her
  cases hin : inner f (l.drop 8) with
  | none =>
    rw [hin] at hE
    simp at hE
    subst hE
    exact icmp_e4 f sf sh sl df dh dl pr ho fg id of mo xa xn xc bk off dc l w h hc hcm hs hd hll h8 hsum her hin
  | some T =>
    rw [hin] at hE
    simp at hE
    subst hE
    exact icmp_ok1 f sf sh sl df dh dl pr ho fg id of mo xa xn xc bk off dc l w h hc hcm hs hd hll h8 hsum her T hin

theorem readers_any (f : Int) (w : World) : Calls Try.prog 33 #[.int .i64 f] w fun e w' => ∃ es G, e = .returned (.map (some G)) ∧ w'.heap[G]? = some (.map es 3) ∧ Tab (icmpOf f) es ∧ Below w.heap.size w w' := by
  unfold icmpOf
  by_cases hf : f = 4
  · rw [if_pos hf]
    exact readers_4 f w hf
  · rw [if_neg hf]
    exact readers_n f w hf

set_option maxRecDepth 100000 in
set_option maxHeartbeats 4000000 in
theorem parse_e1 (f sf sh sl df dh dl pr ho : Int) (fg : Bool) (id of : Int) (mo : Bool) (xa : Option Addr) (xn xc : Nat) (da : Option Addr) (dc : Nat) (l : List Int) (w : World) (h : Row w da l) (hnil : da = none → dc = 0) (hc : l.length ≤ dc) (hcm : dc ≤ 9223372036854775807) (hll : l.length ≤ 140737488351232) (hs : Ad.ok ⟨sf, sh, sl⟩) (hd : Ad.ok ⟨df, dh, dl⟩) (hE : endsB f ⟨sf, sh, sl⟩ ⟨df, dh, dl⟩ = false) :
    Calls Try.prog 16 #[.agg #[.int .i64 f, .int .i64 sf, .int .u64 sh, .int .u64 sl, .int .i64 df, .int .u64 dh, .int .u64 dl, .int .i64 pr, .int .i64 ho, .bool fg, .int .u32 id, .int .i64 of, .bool mo, .slice xa xn xc, .slice da l.length dc]] w (GotS w 1 zSg) := by
  obtain ⟨W1, hW1⟩ : ∃ W1, w.alloc (.cells #[.int .i64 f, .int .i64 sf, .int .u64 sh, .int .u64 sl, .int .i64 df, .int .u64 dh, .int .u64 dl, .int .i64 pr, .int .i64 ho, .bool fg, .int .u32 id, .int .i64 of, .bool mo, .slice xa xn xc, .slice da l.length dc] 36) = W1 := ⟨_, rfl⟩
  obtain ⟨W2, hW2⟩ : ∃ W2, W1.alloc (.cells #[.int .i64 0, .int .i64 0, .int .i64 0, .int .u64 0, .int .u64 0, .int .i64 0, .int .u64 0, .int .u64 0, .int .i64 0, .int .i64 0, .int .i64 0, .int .u32 0, .int .u32 0, .int .i64 0, .int .i64 0, .int .i64 0, .bool false, .int .i64 0, .int .i64 0, .int .i64 0, .int .u64 0, .int .u64 0, .int .i64 0, .int .u64 0, .int .u64 0, .int .i64 0, .int .i64 0, .slice none 0 0] 38) = W2 := ⟨_, rfl⟩
  have b1 : Below w.heap.size w W1 := by rw [← hW1]; exact (Below.refl _ _).alloc (Nat.le_refl _) _
  have b2 : Below w.heap.size w W2 := by rw [← hW2]; exact b1.alloc b1.size _
  have B1' : Blk W1 w.heap.size 36 #[.int .i64 f, .int .i64 sf, .int .u64 sh, .int .u64 sl, .int .i64 df, .int .u64 dh, .int .u64 dl, .int .i64 pr, .int .i64 ho, .bool fg, .int .u32 id, .int .i64 of, .bool mo, .slice xa xn xc, .slice da l.length dc] := by rw [← hW1]; exact blk_new _ _ _
  have B1 : Blk W2 w.heap.size 36 #[.int .i64 f, .int .i64 sf, .int .u64 sh, .int .u64 sl, .int .i64 df, .int .u64 dh, .int .u64 dl, .int .i64 pr, .int .i64 ho, .bool fg, .int .u32 id, .int .i64 of, .bool mo, .slice xa xn xc, .slice da l.length dc] := by rw [← hW2]; exact B1'.alloc _
  have B2 : Blk W2 W1.heap.size 38 #[.int .i64 0, .int .i64 0, .int .i64 0, .int .u64 0, .int .u64 0, .int .i64 0, .int .u64 0, .int .u64 0, .int .i64 0, .int .i64 0, .int .i64 0, .int .u32 0, .int .u32 0, .int .i64 0, .int .i64 0, .int .i64 0, .bool false, .int .i64 0, .int .i64 0, .int .i64 0, .int .u64 0, .int .u64 0, .int .i64 0, .int .u64 0, .int .u64 0, .int .i64 0, .int .i64 0, .slice none 0 0] := by rw [← hW2]; exact blk_new _ _ _
  have g1 : w.heap.size < W1.heap.size := B1'.lt
  clear B1'
  have d0 := B1.cell 0 (.int .i64 f) rfl
  have d1 := B1.cell 1 (.int .i64 sf) rfl
  have d2 := B1.cell 2 (.int .u64 sh) rfl
  have d3 := B1.cell 3 (.int .u64 sl) rfl
  have d4 := B1.cell 4 (.int .i64 df) rfl
  have d5 := B1.cell 5 (.int .u64 dh) rfl
  have d6 := B1.cell 6 (.int .u64 dl) rfl
  have d7 := B1.cell 7 (.int .i64 pr) rfl
  have K0 := ofFamily_any f sf sh sl df dh dl W2
  rw [hE] at K0
  have K0 : Hid _ := K0
  go_enter Try.func16, Try.ntmps16
  go_wp2_with fail
  refine Calls.mono K0.out ?_
  rintro e W3 ⟨rfl, bb⟩
  have b3 : Below w.heap.size w W3 := b2.trans (bb.mono b2.size)
  have B3 := B1.kept bb
  have B3' := B2.kept bb
  clear K0 bb B1 B2 b2 hW1 hW2 d0 d1 d2 d3 d4 d5 d6 d7
  have hbz : (Instr.build 38 #[]).run Try.prog W3 = .ok (.agg #[.int .i64 0, .int .i64 0, .int .i64 0, .int .u64 0, .int .u64 0, .int .i64 0, .int .u64 0, .int .u64 0, .int .i64 0, .int .i64 0, .int .i64 0, .int .u32 0, .int .u32 0, .int .i64 0, .int .i64 0, .int .i64 0, .bool false, .int .i64 0, .int .i64 0, .int .i64 0, .int .u64 0, .int .u64 0, .int .i64 0, .int .u64 0, .int .u64 0, .int .i64 0, .int .i64 0, .slice none 0 0]) W3 := by kernel_rfl
  have Bf := B3'.set #[.int .i64 0, .int .i64 0, .int .i64 0, .int .u64 0, .int .u64 0, .int .i64 0, .int .u64 0, .int .u64 0, .int .i64 0, .int .i64 0, .int .i64 0, .int .u32 0, .int .u32 0, .int .i64 0, .int .i64 0, .int .i64 0, .bool false, .int .i64 0, .int .i64 0, .int .i64 0, .int .u64 0, .int .u64 0, .int .i64 0, .int .u64 0, .int .u64 0, .int .i64 0, .int .i64 0, .slice none 0 0]
  have bf := below_setRow b3 (Nat.le_of_lt g1) #[.int .i64 0, .int .i64 0, .int .i64 0, .int .u64 0, .int .u64 0, .int .i64 0, .int .u64 0, .int .u64 0, .int .i64 0, .int .i64 0, .int .i64 0, .int .u32 0, .int .u32 0, .int .i64 0, .int .i64 0, .int .i64 0, .bool false, .int .i64 0, .int .i64 0, .int .i64 0, .int .u64 0, .int .u64 0, .int .i64 0, .int .u64 0, .int .u64 0, .int .i64 0, .int .i64 0, .slice none 0 0]
  go_wp2_with (first
    | (refine wpList_build _ rfl _ _ rfl _ (by rfl) _ hbz ?_)
    | (refine wpList_store_row rfl _ _ _ rfl W1.heap.size #[.int .i64 0, .int .i64 0, .int .i64 0, .int .u64 0, .int .u64 0, .int .i64 0, .int .u64 0, .int .u64 0, .int .i64 0, .int .i64 0, .int .i64 0, .int .u32 0, .int .u32 0, .int .i64 0, .int .i64 0, .int .i64 0, .bool false, .int .i64 0, .int .i64 0, .int .i64 0, .int .u64 0, .int .u64 0, .int .i64 0, .int .u64 0, .int .u64 0, .int .i64 0, .int .i64 0, .slice none 0 0] (by rfl) (by rfl) _ _ B3' (by kernel_rfl) (by rfl) (by kernel_rfl) ?_))
  exact ret_cell_tmp (k := 2) (j := 3) Try.f16 (by kernel_rfl) Bf Try.underlying38 (by kernel_rfl) (by rfl) (by rfl) rfl ⟨none, 0, rfl, fresh_nil bf⟩

set_option maxRecDepth 100000 in
set_option maxHeartbeats 4000000 in
theorem parse_e9 (f sf sh sl df dh dl pr ho : Int) (fg : Bool) (id of : Int) (mo : Bool) (xa : Option Addr) (xn xc : Nat) (da : Option Addr) (dc : Nat) (l : List Int) (w : World) (h : Row w da l) (hnil : da = none → dc = 0) (hc : l.length ≤ dc) (hcm : dc ≤ 9223372036854775807) (hll : l.length ≤ 140737488351232) (hs : Ad.ok ⟨sf, sh, sl⟩) (hd : Ad.ok ⟨df, dh, dl⟩) (hE : endsB f ⟨sf, sh, sl⟩ ⟨df, dh, dl⟩ = true) (hfv : lookS (icmpOf f) pr = .nilFunc) (hkn : knownS (icmpOf f) pr = false) :
    Calls Try.prog 16 #[.agg #[.int .i64 f, .int .i64 sf, .int .u64 sh, .int .u64 sl, .int .i64 df, .int .u64 dh, .int .u64 dl, .int .i64 pr, .int .i64 ho, .bool fg, .int .u32 id, .int .i64 of, .bool mo, .slice xa xn xc, .slice da l.length dc]] w (GotS w 9 zSg) := by
  obtain ⟨W1, hW1⟩ : ∃ W1, w.alloc (.cells #[.int .i64 f, .int .i64 sf, .int .u64 sh, .int .u64 sl, .int .i64 df, .int .u64 dh, .int .u64 dl, .int .i64 pr, .int .i64 ho, .bool fg, .int .u32 id, .int .i64 of, .bool mo, .slice xa xn xc, .slice da l.length dc] 36) = W1 := ⟨_, rfl⟩
  obtain ⟨W2, hW2⟩ : ∃ W2, W1.alloc (.cells #[.int .i64 0, .int .i64 0, .int .i64 0, .int .u64 0, .int .u64 0, .int .i64 0, .int .u64 0, .int .u64 0, .int .i64 0, .int .i64 0, .int .i64 0, .int .u32 0, .int .u32 0, .int .i64 0, .int .i64 0, .int .i64 0, .bool false, .int .i64 0, .int .i64 0, .int .i64 0, .int .u64 0, .int .u64 0, .int .i64 0, .int .u64 0, .int .u64 0, .int .i64 0, .int .i64 0, .slice none 0 0] 38) = W2 := ⟨_, rfl⟩
  have b1 : Below w.heap.size w W1 := by rw [← hW1]; exact (Below.refl _ _).alloc (Nat.le_refl _) _
  have b2 : Below w.heap.size w W2 := by rw [← hW2]; exact b1.alloc b1.size _
  have B1' : Blk W1 w.heap.size 36 #[.int .i64 f, .int .i64 sf, .int .u64 sh, .int .u64 sl, .int .i64 df, .int .u64 dh, .int .u64 dl, .int .i64 pr, .int .i64 ho, .bool fg, .int .u32 id, .int .i64 of, .bool mo, .slice xa xn xc, .slice da l.length dc] := by rw [← hW1]; exact blk_new _ _ _
  have B1 : Blk W2 w.heap.size 36 #[.int .i64 f, .int .i64 sf, .int .u64 sh, .int .u64 sl, .int .i64 df, .int .u64 dh, .int .u64 dl, .int .i64 pr, .int .i64 ho, .bool fg, .int .u32 id, .int .i64 of, .bool mo, .slice xa xn xc, .slice da l.length dc] := by rw [← hW2]; exact B1'.alloc _
  have B2 : Blk W2 W1.heap.size 38 #[.int .i64 0, .int .i64 0, .int .i64 0, .int .u64 0, .int .u64 0, .int .i64 0, .int .u64 0, .int .u64 0, .int .i64 0, .int .i64 0, .int .i64 0, .int .u32 0, .int .u32 0, .int .i64 0, .int .i64 0, .int .i64 0, .bool false, .int .i64 0, .int .i64 0, .int .i64 0, .int .u64 0, .int .u64 0, .int .i64 0, .int .u64 0, .int .u64 0, .int .i64 0, .int .i64 0, .slice none 0 0] := by rw [← hW2]; exact blk_new _ _ _
  have g1 : w.heap.size < W1.heap.size := B1'.lt
  clear B1'
  have d0 := B1.cell 0 (.int .i64 f) rfl
  have d1 := B1.cell 1 (.int .i64 sf) rfl
  have d2 := B1.cell 2 (.int .u64 sh) rfl
  have d3 := B1.cell 3 (.int .u64 sl) rfl
  have d4 := B1.cell 4 (.int .i64 df) rfl
  have d5 := B1.cell 5 (.int .u64 dh) rfl
  have d6 := B1.cell 6 (.int .u64 dl) rfl
  have d7 := B1.cell 7 (.int .i64 pr) rfl
  have K0 := ofFamily_any f sf sh sl df dh dl W2
  rw [hE] at K0
  have K0 : Hid _ := K0
  have KR : Hid (∀ W, Calls Try.prog 33 #[.int .i64 f] W fun e w' => ∃ es G, e = .returned (.map (some G)) ∧ w'.heap[G]? = some (.map es 3) ∧ Tab (icmpOf f) es ∧ Below W.heap.size W w') := fun W => readers_any f W
  obtain ⟨I, hI⟩ : ∃ I, icmpOf f = I := ⟨_, rfl⟩
  rw [hI] at KR hfv hkn
  clear hI
  go_enter Try.func16, Try.ntmps16
  go_wp2_with fail
  refine Calls.mono K0.out ?_
  rintro e W3 ⟨rfl, bb⟩
  have b3 : Below w.heap.size w W3 := b2.trans (bb.mono b2.size)
  have B3 := B1.kept bb
  have B3' := B2.kept bb
  clear K0 bb B1 B2 b2 hW1 hW2 d0 d1 d2 d3 d4 d5 d6 d7
  go_wp2_with fail
  refine wp_region_noPanic ?_
  refine wp_region_held_drew (S := fun w' => w'.cell? ⟨w.heap.size, 0, none⟩ = some (.int .i64 f) ∧ w'.cell? ⟨w.heap.size, 7, none⟩ = some (.int .i64 pr)) (by kernel_rfl) (by exact ⟨B3.drew.cell 0 _ rfl, B3.drew.cell 7 _ rfl⟩) (fun hHeld => ?_)
  refine wpAnyH_take (i := 0) (oi := { dst := some 16, op := Op.fieldAddr 36 (.tmp 1) 0, type := 0, pos := "parse.go:20", after := #[], guard := none }) (v := (.pointer (some ⟨w.heap.size, 0, none⟩))) rfl (by kernel_rfl) (by kernel_rfl) (by kernel_rfl) (fun _ _ _ h => h) (Or.inl ⟨by rfl, ?_⟩) hHeld ?_
  · intro w9 hSw
    try dsimp only at hSw
    go_simp
  try simp only [Act.put, List.setIfInBounds_toArray, List.set_cons_zero, List.set_cons_succ]
  refine wpAnyH_take (i := 1) (oi := { dst := some 17, op := Op.load 3 (.tmp 16), type := 3, pos := "parse.go:20", after := #[{ on := 0, ground := Ground.data }], guard := none }) (v := (.int .i64 f)) rfl (by kernel_rfl) (by kernel_rfl) (by kernel_rfl) (fun _ _ _ h => h) (Or.inl ⟨by rfl, ?_⟩) hHeld ?_
  · intro w9 hSw
    try dsimp only at hSw
    go_simp
  try simp only [Act.put, List.setIfInBounds_toArray, List.set_cons_zero, List.set_cons_succ]
  refine wpAnyH_take (i := 3) (oi := { dst := some 19, op := Op.fieldAddr 36 (.tmp 1) 3, type := 0, pos := "parse.go:20", after := #[], guard := none }) (v := (.pointer (some ⟨w.heap.size, 7, none⟩))) rfl (by kernel_rfl) (by kernel_rfl) (by kernel_rfl) (fun _ _ _ h => h) (Or.inl ⟨by rfl, ?_⟩) hHeld ?_
  · intro w9 hSw
    try dsimp only at hSw
    go_simp
  try simp only [Act.put, List.setIfInBounds_toArray, List.set_cons_zero, List.set_cons_succ]
  refine wpAnyH_take (i := 4) (oi := { dst := some 20, op := Op.load 3 (.tmp 19), type := 3, pos := "parse.go:20", after := #[{ on := 3, ground := Ground.data }], guard := none }) (v := (.int .i64 pr)) rfl (by kernel_rfl) (by kernel_rfl) (by kernel_rfl) (fun _ _ _ h => h) (Or.inl ⟨by rfl, ?_⟩) hHeld ?_
  · intro w9 hSw
    try dsimp only at hSw
    go_simp
  try simp only [Act.put, List.setIfInBounds_toArray, List.set_cons_zero, List.set_cons_succ]
  refine wpAnyH_ready (rs := [2]) (by kernel_rfl) (by simp) ?_
  refine AllReadyH.cons (o := { dst := some 18, op := Op.call { callee := Callee.value (.func 33), args := #[.tmp 17], argTypes := #[3] }, type := 62, pos := "parse.go:20", after := #[{ on := 1, ground := Ground.data }], guard := none }) rfl (fun K hK => ?_) AllReadyH.nil
  go_simp
  refine Calls.mono (KR.out _) ?_
  rintro e W4 ⟨es, G, rfl, hes, htab, bb⟩
  have B4 := B3.drew.kept bb
  have B4' := B3'.drew.kept bb
  have b4 : Below w.heap.size w W4 := b3.drew.trans (bb.mono b3.drew.size)
  have hlk := htab W4 G 3 pr hes
  rw [hfv, hkn] at hlk
  refine hK.out _ _ ?_ (fun hHeld => ?_)
  · exact ⟨B4.cell 0 _ rfl, B4.cell 7 _ rfl⟩
  clear hK K
  try simp only [Act.put, List.setIfInBounds_toArray, List.set_cons_zero, List.set_cons_succ]
  refine wpAnyH_ready (rs := [5]) (by kernel_rfl) (by simp) ?_
  refine AllReadyH.cons (o := { dst := some 21, op := Op.lookup 62 (.tmp 18) (.tmp 20) true, type := 61, pos := "parse.go:20", after := #[{ on := 2, ground := Ground.data }, { on := 4, ground := Ground.data }], guard := none }) rfl (fun K hK => ?_) AllReadyH.nil
  refine step_look rfl _ _ rfl _ _ _ (by kernel_rfl) (by kernel_rfl) hlk ?_
  refine hK.out _ _ ?_ (fun hHeld => ?_)
  · exact ⟨B4.cell 0 _ rfl, B4.cell 7 _ rfl⟩
  clear hK K
  try simp only [Act.put, List.setIfInBounds_toArray, List.set_cons_zero, List.set_cons_succ]
  refine wpAnyH_take (i := 6) (oi := { dst := some 15, op := Op.move (.tmp 21), type := 61, pos := "parse.go:20", after := #[{ on := 5, ground := Ground.data }], guard := none }) (v := (.tuple #[.nilFunc, .bool false])) rfl (by kernel_rfl) (by kernel_rfl) (by kernel_rfl) (fun _ _ _ h => h) (Or.inl ⟨by rfl, ?_⟩) hHeld ?_
  · intro w9 hSw
    try dsimp only at hSw
    go_simp
  try simp only [Act.put, List.setIfInBounds_toArray, List.set_cons_zero, List.set_cons_succ]
  refine wpAnyH_take (i := 7) (oi := { dst := some 22, op := Op.extract (.tmp 15) 0, type := 60, pos := "parse.go:20", after := #[{ on := 6, ground := Ground.data }], guard := none }) (v := (.nilFunc)) rfl (by kernel_rfl) (by kernel_rfl) (by kernel_rfl) (fun _ _ _ h => h) (Or.inl ⟨by rfl, ?_⟩) hHeld ?_
  · intro w9 hSw
    try dsimp only at hSw
    go_simp
  try simp only [Act.put, List.setIfInBounds_toArray, List.set_cons_zero, List.set_cons_succ]
  refine wpAnyH_take (i := 8) (oi := { dst := some 23, op := Op.extract (.tmp 15) 1, type := 4, pos := "parse.go:20", after := #[{ on := 6, ground := Ground.data }, { on := 9, ground := Ground.gcOnly Departure.lateStores }], guard := none }) (v := (.bool false)) rfl (by kernel_rfl) (by kernel_rfl) (by kernel_rfl) (fun _ _ _ h => h) (Or.inl ⟨by rfl, ?_⟩) hHeld ?_
  · intro w9 hSw
    try dsimp only at hSw
    go_simp
  try simp only [Act.put, List.setIfInBounds_toArray, List.set_cons_zero, List.set_cons_succ]
  refine wpAnyH_take (i := 9) (oi := { dst := some 4, op := Op.assign (.tmp 22), type := 60, pos := "parse.go:20", after := #[{ on := 7, ground := Ground.data }, { on := 2, ground := Ground.chain }, { on := 0, ground := Ground.phase }, { on := 1, ground := Ground.phase }, { on := 2, ground := Ground.phase }, { on := 3, ground := Ground.phase }, { on := 4, ground := Ground.phase }, { on := 5, ground := Ground.phase }, { on := 6, ground := Ground.phase }, { on := 7, ground := Ground.phase }, { on := 8, ground := Ground.textOnly Departure.lateStores }], guard := none }) (v := (.nilFunc)) rfl (by kernel_rfl) (by kernel_rfl) (by kernel_rfl) (fun _ _ _ h => h) (Or.inl ⟨by rfl, ?_⟩) hHeld ?_
  · intro w9 hSw
    try dsimp only at hSw
    go_simp
  try simp only [Act.put, List.setIfInBounds_toArray, List.set_cons_zero, List.set_cons_succ]
  refine wpAnyH_take (i := 10) (oi := { dst := some 5, op := Op.assign (.tmp 23), type := 4, pos := "parse.go:20", after := #[{ on := 8, ground := Ground.data }, { on := 9, ground := Ground.chain }, { on := 0, ground := Ground.phase }, { on := 1, ground := Ground.phase }, { on := 2, ground := Ground.phase }, { on := 3, ground := Ground.phase }, { on := 4, ground := Ground.phase }, { on := 5, ground := Ground.phase }, { on := 6, ground := Ground.phase }, { on := 7, ground := Ground.phase }, { on := 8, ground := Ground.phase }, { on := 9, ground := Ground.phase }], guard := none }) (v := (.bool false)) rfl (by kernel_rfl) (by kernel_rfl) (by kernel_rfl) (fun _ _ _ h => h) (Or.inl ⟨by rfl, ?_⟩) hHeld ?_
  · intro w9 hSw
    try dsimp only at hSw
    go_simp
  try simp only [Act.put, List.setIfInBounds_toArray, List.set_cons_zero, List.set_cons_succ]
  refine wpAnyH_done (by kernel_rfl) ?_ _
  refine NoPanic.normal ?_
  clear hlk htab hes B3 B3' b3 KR hHeld hfv hkn
  have hbz : (Instr.build 38 #[]).run Try.prog W4 = .ok (.agg #[.int .i64 0, .int .i64 0, .int .i64 0, .int .u64 0, .int .u64 0, .int .i64 0, .int .u64 0, .int .u64 0, .int .i64 0, .int .i64 0, .int .i64 0, .int .u32 0, .int .u32 0, .int .i64 0, .int .i64 0, .int .i64 0, .bool false, .int .i64 0, .int .i64 0, .int .i64 0, .int .u64 0, .int .u64 0, .int .i64 0, .int .u64 0, .int .u64 0, .int .i64 0, .int .i64 0, .slice none 0 0]) W4 := by kernel_rfl
  have Bf := B4'.set #[.int .i64 0, .int .i64 0, .int .i64 0, .int .u64 0, .int .u64 0, .int .i64 0, .int .u64 0, .int .u64 0, .int .i64 0, .int .i64 0, .int .i64 0, .int .u32 0, .int .u32 0, .int .i64 0, .int .i64 0, .int .i64 0, .bool false, .int .i64 0, .int .i64 0, .int .i64 0, .int .u64 0, .int .u64 0, .int .i64 0, .int .u64 0, .int .u64 0, .int .i64 0, .int .i64 0, .slice none 0 0]
  have bf := below_setRow b4 (Nat.le_of_lt g1) #[.int .i64 0, .int .i64 0, .int .i64 0, .int .u64 0, .int .u64 0, .int .i64 0, .int .u64 0, .int .u64 0, .int .i64 0, .int .i64 0, .int .i64 0, .int .u32 0, .int .u32 0, .int .i64 0, .int .i64 0, .int .i64 0, .bool false, .int .i64 0, .int .i64 0, .int .i64 0, .int .u64 0, .int .u64 0, .int .i64 0, .int .u64 0, .int .u64 0, .int .i64 0, .int .i64 0, .slice none 0 0]
  go_wp2_with (first
    | (refine wpList_build _ rfl _ _ rfl _ (by rfl) _ hbz ?_)
    | (refine wpList_store_row rfl _ _ _ rfl W1.heap.size #[.int .i64 0, .int .i64 0, .int .i64 0, .int .u64 0, .int .u64 0, .int .i64 0, .int .u64 0, .int .u64 0, .int .i64 0, .int .i64 0, .int .i64 0, .int .u32 0, .int .u32 0, .int .i64 0, .int .i64 0, .int .i64 0, .bool false, .int .i64 0, .int .i64 0, .int .i64 0, .int .u64 0, .int .u64 0, .int .i64 0, .int .u64 0, .int .u64 0, .int .i64 0, .int .i64 0, .slice none 0 0] (by rfl) (by rfl) _ _ B4' (by kernel_rfl) (by rfl) (by kernel_rfl) ?_))
  exact ret_cell_tmp (k := 2) (j := 3) Try.f16 (by kernel_rfl) Bf Try.underlying38 (by kernel_rfl) (by rfl) (by rfl) rfl ⟨none, 0, rfl, fresh_nil bf⟩

set_option maxRecDepth 100000 in
set_option maxHeartbeats 4000000 in
theorem parse_y (f sf sh sl df dh dl pr ho : Int) (fg : Bool) (id of : Int) (mo : Bool) (xa : Option Addr) (xn xc : Nat) (da : Option Addr) (dc : Nat) (l : List Int) (w : World) (h : Row w da l) (hnil : da = none → dc = 0) (hc : l.length ≤ dc) (hcm : dc ≤ 9223372036854775807) (hll : l.length ≤ 140737488351232) (hs : Ad.ok ⟨sf, sh, sl⟩) (hd : Ad.ok ⟨df, dh, dl⟩) (hE : endsB f ⟨sf, sh, sl⟩ ⟨df, dh, dl⟩ = true) (fn : FuncId) (hfv : lookS (icmpOf f) pr = .func (.func fn) #[] #[]) (hkn : knownS (icmpOf f) pr = true) (hcf : ∀ args w, (callFunc fn args).run Try.prog w = .ok (.enter fn args) w) (E : Int) (X : Sg) (KF : ∀ W, Row W da l → Calls Try.prog fn #[.agg #[.int .i64 f, .int .i64 sf, .int .u64 sh, .int .u64 sl, .int .i64 df, .int .u64 dh, .int .u64 dl, .int .i64 pr, .int .i64 ho, .bool fg, .int .u32 id, .int .i64 of, .bool mo, .slice xa xn xc, .slice da l.length dc]] W (GotS W E X)) :
    Calls Try.prog 16 #[.agg #[.int .i64 f, .int .i64 sf, .int .u64 sh, .int .u64 sl, .int .i64 df, .int .u64 dh, .int .u64 dl, .int .i64 pr, .int .i64 ho, .bool fg, .int .u32 id, .int .i64 of, .bool mo, .slice xa xn xc, .slice da l.length dc]] w (GotS w E X) := by
  have HKF : Hid _ := KF
  clear KF
  obtain ⟨W1, hW1⟩ : ∃ W1, w.alloc (.cells #[.int .i64 f, .int .i64 sf, .int .u64 sh, .int .u64 sl, .int .i64 df, .int .u64 dh, .int .u64 dl, .int .i64 pr, .int .i64 ho, .bool fg, .int .u32 id, .int .i64 of, .bool mo, .slice xa xn xc, .slice da l.length dc] 36) = W1 := ⟨_, rfl⟩
  obtain ⟨W2, hW2⟩ : ∃ W2, W1.alloc (.cells #[.int .i64 0, .int .i64 0, .int .i64 0, .int .u64 0, .int .u64 0, .int .i64 0, .int .u64 0, .int .u64 0, .int .i64 0, .int .i64 0, .int .i64 0, .int .u32 0, .int .u32 0, .int .i64 0, .int .i64 0, .int .i64 0, .bool false, .int .i64 0, .int .i64 0, .int .i64 0, .int .u64 0, .int .u64 0, .int .i64 0, .int .u64 0, .int .u64 0, .int .i64 0, .int .i64 0, .slice none 0 0] 38) = W2 := ⟨_, rfl⟩
  have b1 : Below w.heap.size w W1 := by rw [← hW1]; exact (Below.refl _ _).alloc (Nat.le_refl _) _
  have b2 : Below w.heap.size w W2 := by rw [← hW2]; exact b1.alloc b1.size _
  have B1' : Blk W1 w.heap.size 36 #[.int .i64 f, .int .i64 sf, .int .u64 sh, .int .u64 sl, .int .i64 df, .int .u64 dh, .int .u64 dl, .int .i64 pr, .int .i64 ho, .bool fg, .int .u32 id, .int .i64 of, .bool mo, .slice xa xn xc, .slice da l.length dc] := by rw [← hW1]; exact blk_new _ _ _
  have B1 : Blk W2 w.heap.size 36 #[.int .i64 f, .int .i64 sf, .int .u64 sh, .int .u64 sl, .int .i64 df, .int .u64 dh, .int .u64 dl, .int .i64 pr, .int .i64 ho, .bool fg, .int .u32 id, .int .i64 of, .bool mo, .slice xa xn xc, .slice da l.length dc] := by rw [← hW2]; exact B1'.alloc _
  have B2 : Blk W2 W1.heap.size 38 #[.int .i64 0, .int .i64 0, .int .i64 0, .int .u64 0, .int .u64 0, .int .i64 0, .int .u64 0, .int .u64 0, .int .i64 0, .int .i64 0, .int .i64 0, .int .u32 0, .int .u32 0, .int .i64 0, .int .i64 0, .int .i64 0, .bool false, .int .i64 0, .int .i64 0, .int .i64 0, .int .u64 0, .int .u64 0, .int .i64 0, .int .u64 0, .int .u64 0, .int .i64 0, .int .i64 0, .slice none 0 0] := by rw [← hW2]; exact blk_new _ _ _
  have g1 : w.heap.size < W1.heap.size := B1'.lt
  clear B1'
  have d0 := B1.cell 0 (.int .i64 f) rfl
  have d1 := B1.cell 1 (.int .i64 sf) rfl
  have d2 := B1.cell 2 (.int .u64 sh) rfl
  have d3 := B1.cell 3 (.int .u64 sl) rfl
  have d4 := B1.cell 4 (.int .i64 df) rfl
  have d5 := B1.cell 5 (.int .u64 dh) rfl
  have d6 := B1.cell 6 (.int .u64 dl) rfl
  have d7 := B1.cell 7 (.int .i64 pr) rfl
  have K0 := ofFamily_any f sf sh sl df dh dl W2
  rw [hE] at K0
  have K0 : Hid _ := K0
  have KR : Hid (∀ W, Calls Try.prog 33 #[.int .i64 f] W fun e w' => ∃ es G, e = .returned (.map (some G)) ∧ w'.heap[G]? = some (.map es 3) ∧ Tab (icmpOf f) es ∧ Below W.heap.size W w') := fun W => readers_any f W
  obtain ⟨I, hI⟩ : ∃ I, icmpOf f = I := ⟨_, rfl⟩
  rw [hI] at KR hfv hkn
  clear hI
  go_enter Try.func16, Try.ntmps16
  go_wp2_with fail
  refine Calls.mono K0.out ?_
  rintro e W3 ⟨rfl, bb⟩
  have b3 : Below w.heap.size w W3 := b2.trans (bb.mono b2.size)
  have B3 := B1.kept bb
  have B3' := B2.kept bb
  clear K0 bb B1 B2 b2 hW1 hW2 d0 d1 d2 d3 d4 d5 d6 d7
  go_wp2_with fail
  refine wp_region_noPanic ?_
  refine wp_region_held_drew (S := fun w' => w'.cell? ⟨w.heap.size, 0, none⟩ = some (.int .i64 f) ∧ w'.cell? ⟨w.heap.size, 7, none⟩ = some (.int .i64 pr)) (by kernel_rfl) (by exact ⟨B3.drew.cell 0 _ rfl, B3.drew.cell 7 _ rfl⟩) (fun hHeld => ?_)
  refine wpAnyH_take (i := 0) (oi := { dst := some 16, op := Op.fieldAddr 36 (.tmp 1) 0, type := 0, pos := "parse.go:20", after := #[], guard := none }) (v := (.pointer (some ⟨w.heap.size, 0, none⟩))) rfl (by kernel_rfl) (by kernel_rfl) (by kernel_rfl) (fun _ _ _ h => h) (Or.inl ⟨by rfl, ?_⟩) hHeld ?_
  · intro w9 hSw
    try dsimp only at hSw
    go_simp
  try simp only [Act.put, List.setIfInBounds_toArray, List.set_cons_zero, List.set_cons_succ]
  refine wpAnyH_take (i := 1) (oi := { dst := some 17, op := Op.load 3 (.tmp 16), type := 3, pos := "parse.go:20", after := #[{ on := 0, ground := Ground.data }], guard := none }) (v := (.int .i64 f)) rfl (by kernel_rfl) (by kernel_rfl) (by kernel_rfl) (fun _ _ _ h => h) (Or.inl ⟨by rfl, ?_⟩) hHeld ?_
  · intro w9 hSw
    try dsimp only at hSw
    go_simp
  try simp only [Act.put, List.setIfInBounds_toArray, List.set_cons_zero, List.set_cons_succ]
  refine wpAnyH_take (i := 3) (oi := { dst := some 19, op := Op.fieldAddr 36 (.tmp 1) 3, type := 0, pos := "parse.go:20", after := #[], guard := none }) (v := (.pointer (some ⟨w.heap.size, 7, none⟩))) rfl (by kernel_rfl) (by kernel_rfl) (by kernel_rfl) (fun _ _ _ h => h) (Or.inl ⟨by rfl, ?_⟩) hHeld ?_
  · intro w9 hSw
    try dsimp only at hSw
    go_simp
  try simp only [Act.put, List.setIfInBounds_toArray, List.set_cons_zero, List.set_cons_succ]
  refine wpAnyH_take (i := 4) (oi := { dst := some 20, op := Op.load 3 (.tmp 19), type := 3, pos := "parse.go:20", after := #[{ on := 3, ground := Ground.data }], guard := none }) (v := (.int .i64 pr)) rfl (by kernel_rfl) (by kernel_rfl) (by kernel_rfl) (fun _ _ _ h => h) (Or.inl ⟨by rfl, ?_⟩) hHeld ?_
  · intro w9 hSw
    try dsimp only at hSw
    go_simp
  try simp only [Act.put, List.setIfInBounds_toArray, List.set_cons_zero, List.set_cons_succ]
  refine wpAnyH_ready (rs := [2]) (by kernel_rfl) (by simp) ?_
  refine AllReadyH.cons (o := { dst := some 18, op := Op.call { callee := Callee.value (.func 33), args := #[.tmp 17], argTypes := #[3] }, type := 62, pos := "parse.go:20", after := #[{ on := 1, ground := Ground.data }], guard := none }) rfl (fun K hK => ?_) AllReadyH.nil
  go_simp
  refine Calls.mono (KR.out _) ?_
  rintro e W4 ⟨es, G, rfl, hes, htab, bb⟩
  have B4 := B3.drew.kept bb
  have B4' := B3'.drew.kept bb
  have b4 : Below w.heap.size w W4 := b3.drew.trans (bb.mono b3.drew.size)
  have hlk := htab W4 G 3 pr hes
  rw [hfv, hkn] at hlk
  refine hK.out _ _ ?_ (fun hHeld => ?_)
  · exact ⟨B4.cell 0 _ rfl, B4.cell 7 _ rfl⟩
  clear hK K
  try simp only [Act.put, List.setIfInBounds_toArray, List.set_cons_zero, List.set_cons_succ]
  refine wpAnyH_ready (rs := [5]) (by kernel_rfl) (by simp) ?_
  refine AllReadyH.cons (o := { dst := some 21, op := Op.lookup 62 (.tmp 18) (.tmp 20) true, type := 61, pos := "parse.go:20", after := #[{ on := 2, ground := Ground.data }, { on := 4, ground := Ground.data }], guard := none }) rfl (fun K hK => ?_) AllReadyH.nil
  refine step_look rfl _ _ rfl _ _ _ (by kernel_rfl) (by kernel_rfl) hlk ?_
  refine hK.out _ _ ?_ (fun hHeld => ?_)
  · exact ⟨B4.cell 0 _ rfl, B4.cell 7 _ rfl⟩
  clear hK K
  try simp only [Act.put, List.setIfInBounds_toArray, List.set_cons_zero, List.set_cons_succ]
  refine wpAnyH_take (i := 6) (oi := { dst := some 15, op := Op.move (.tmp 21), type := 61, pos := "parse.go:20", after := #[{ on := 5, ground := Ground.data }], guard := none }) (v := (.tuple #[.func (.func fn) #[] #[], .bool true])) rfl (by kernel_rfl) (by kernel_rfl) (by kernel_rfl) (fun _ _ _ h => h) (Or.inl ⟨by rfl, ?_⟩) hHeld ?_
  · intro w9 hSw
    try dsimp only at hSw
    go_simp
  try simp only [Act.put, List.setIfInBounds_toArray, List.set_cons_zero, List.set_cons_succ]
  refine wpAnyH_take (i := 7) (oi := { dst := some 22, op := Op.extract (.tmp 15) 0, type := 60, pos := "parse.go:20", after := #[{ on := 6, ground := Ground.data }], guard := none }) (v := (.func (.func fn) #[] #[])) rfl (by kernel_rfl) (by kernel_rfl) (by kernel_rfl) (fun _ _ _ h => h) (Or.inl ⟨by rfl, ?_⟩) hHeld ?_
  · intro w9 hSw
    try dsimp only at hSw
    go_simp
  try simp only [Act.put, List.setIfInBounds_toArray, List.set_cons_zero, List.set_cons_succ]
  refine wpAnyH_take (i := 8) (oi := { dst := some 23, op := Op.extract (.tmp 15) 1, type := 4, pos := "parse.go:20", after := #[{ on := 6, ground := Ground.data }, { on := 9, ground := Ground.gcOnly Departure.lateStores }], guard := none }) (v := (.bool true)) rfl (by kernel_rfl) (by kernel_rfl) (by kernel_rfl) (fun _ _ _ h => h) (Or.inl ⟨by rfl, ?_⟩) hHeld ?_
  · intro w9 hSw
    try dsimp only at hSw
    go_simp
  try simp only [Act.put, List.setIfInBounds_toArray, List.set_cons_zero, List.set_cons_succ]
  refine wpAnyH_take (i := 9) (oi := { dst := some 4, op := Op.assign (.tmp 22), type := 60, pos := "parse.go:20", after := #[{ on := 7, ground := Ground.data }, { on := 2, ground := Ground.chain }, { on := 0, ground := Ground.phase }, { on := 1, ground := Ground.phase }, { on := 2, ground := Ground.phase }, { on := 3, ground := Ground.phase }, { on := 4, ground := Ground.phase }, { on := 5, ground := Ground.phase }, { on := 6, ground := Ground.phase }, { on := 7, ground := Ground.phase }, { on := 8, ground := Ground.textOnly Departure.lateStores }], guard := none }) (v := (.func (.func fn) #[] #[])) rfl (by kernel_rfl) (by kernel_rfl) (by kernel_rfl) (fun _ _ _ h => h) (Or.inl ⟨by rfl, ?_⟩) hHeld ?_
  · intro w9 hSw
    try dsimp only at hSw
    go_simp
  try simp only [Act.put, List.setIfInBounds_toArray, List.set_cons_zero, List.set_cons_succ]
  refine wpAnyH_take (i := 10) (oi := { dst := some 5, op := Op.assign (.tmp 23), type := 4, pos := "parse.go:20", after := #[{ on := 8, ground := Ground.data }, { on := 9, ground := Ground.chain }, { on := 0, ground := Ground.phase }, { on := 1, ground := Ground.phase }, { on := 2, ground := Ground.phase }, { on := 3, ground := Ground.phase }, { on := 4, ground := Ground.phase }, { on := 5, ground := Ground.phase }, { on := 6, ground := Ground.phase }, { on := 7, ground := Ground.phase }, { on := 8, ground := Ground.phase }, { on := 9, ground := Ground.phase }], guard := none }) (v := (.bool true)) rfl (by kernel_rfl) (by kernel_rfl) (by kernel_rfl) (fun _ _ _ h => h) (Or.inl ⟨by rfl, ?_⟩) hHeld ?_
  · intro w9 hSw
    try dsimp only at hSw
    go_simp
  try simp only [Act.put, List.setIfInBounds_toArray, List.set_cons_zero, List.set_cons_succ]
  refine wpAnyH_done (by kernel_rfl) ?_ _
  refine NoPanic.normal ?_
  have r4 := h.below b4
  clear hlk htab hes B3 B3' b3 KR hHeld hfv hkn
  go_wp2_with (refine wpList_load_row rfl _ _ rfl w.heap.size (by rfl) _ _ _ _ B4 Try.underlying36 rfl (by kernel_rfl) ?_)
  refine Calls.mono (HKF.out _ r4) ?_
  rintro e W5 ⟨a5, c5, rfl, f5⟩
  have B5 := B4'.kept f5.below
  have b5 : Below w.heap.size w W5 := b4.trans (f5.below.mono b4.size)
  have Bf := B5.set (sgv X a5 c5)
  have bf := below_setRow b5 (Nat.le_of_lt g1) (sgv X a5 c5)
  have oo := owns_le (B' := w.heap.size) b4.size (f5.owns.blk_other B5 (by decide) (sgv X a5 c5))
  clear HKF B4 B4' b4 r4 hcf
  go_wp2_with (refine wpList_store_row rfl _ _ _ rfl W1.heap.size (sgv X a5 c5) (by rfl) (by rfl) _ _ B5 (by kernel_rfl) (by rfl) (by kernel_rfl) ?_)
  refine ret_cell_tmp (k := 2) (j := 3) Try.f16 (by kernel_rfl) Bf Try.underlying38 (by kernel_rfl) (by rfl) (by rfl) rfl ?_
  exact ⟨a5, c5, rfl, oo, f5.room, f5.nil, oo.row f5.row.small f5.row.bytes, bf⟩

theorem segParse_any (f sf sh sl df dh dl pr ho : Int) (fg : Bool) (id of : Int) (mo : Bool) (xa : Option Addr) (xn xc : Nat) (da : Option Addr) (dc : Nat) (l : List Int) (w : World) (h : Row w da l) (hnil : da = none → dc = 0) (hc : l.length ≤ dc) (hcm : dc ≤ 9223372036854775807) (hll : l.length ≤ 140737488351232) (hs : Ad.ok ⟨sf, sh, sl⟩) (hd : Ad.ok ⟨df, dh, dl⟩) :
    Calls Try.prog 16 #[.agg #[.int .i64 f, .int .i64 sf, .int .u64 sh, .int .u64 sl, .int .i64 df, .int .u64 dh, .int .u64 dl, .int .i64 pr, .int .i64 ho, .bool fg, .int .u32 id, .int .i64 of, .bool mo, .slice xa xn xc, .slice da l.length dc]] w (GotS w (segE f pr ⟨sf, sh, sl⟩ ⟨df, dh, dl⟩ l) (segX f pr ⟨sf, sh, sl⟩ ⟨df, dh, dl⟩ l)) := by
  unfold segX
  obtain ⟨E, hEE⟩ : ∃ E, segE f pr ⟨sf, sh, sl⟩ ⟨df, dh, dl⟩ l = E := ⟨_, rfl⟩
  rw [hEE]
  unfold segE at hEE
  cases hE : endsB f ⟨sf, sh, sl⟩ ⟨df, dh, dl⟩ with
  | false =>
    rw [hE] at hEE
    simp at hEE
    subst hEE
    exact parse_e1 f sf sh sl df dh dl pr ho fg id of mo xa xn xc da dc l w h hnil hc hcm hll hs hd hE
  | true =>
    rw [hE, if_neg (by decide)] at hEE
    by_cases h6 : pr = 6
    · rw [if_pos h6] at hEE
      rw [if_pos h6]
      refine parse_y f sf sh sl df dh dl pr ho fg id of mo xa xn xc da dc l w h hnil hc hcm hll hs hd hE 55 (by unfold lookS; rw [if_pos h6]) (by unfold knownS; simp [h6]) Try.call55 _ _ (fun W hW => ?_)
      have := tcp_any f sf sh sl df dh dl pr ho fg id of mo xa xn xc da dc l W hW hnil hc hcm hs hd
      rw [hEE] at this
      exact this
    by_cases h17 : pr = 17
    · rw [if_neg h6, if_pos h17] at hEE
      rw [if_neg h6, if_pos h17]
      refine parse_y f sf sh sl df dh dl pr ho fg id of mo xa xn xc da dc l w h hnil hc hcm hll hs hd hE 56 (by unfold lookS; rw [if_neg h6, if_pos h17]) (by unfold knownS; simp [h17]) Try.call56 _ _ (fun W hW => ?_)
      have := udp_any f sf sh sl df dh dl pr ho fg id of mo xa xn xc da dc l W hW hnil hc hcm hs hd
      rw [hEE] at this
      exact this
    rw [if_neg h6, if_neg h17] at hEE
    by_cases hi : pr = icmpOf f
    · rw [if_pos hi] at hEE
      rw [if_neg h6, if_neg h17]
      refine parse_y f sf sh sl df dh dl pr ho fg id of mo xa xn xc da dc l w h hnil hc hcm hll hs hd hE 58 (by unfold lookS; rw [if_neg h6, if_neg h17, if_pos hi]) (by unfold knownS; simp [hi]) Try.call58 _ _ (fun W hW => ?_)
      have := icmp_any f sf sh sl df dh dl pr ho fg id of mo xa xn xc da dc l W hW hnil hc hcm hll hs hd
      rw [hEE] at this
      exact this
    · rw [if_neg hi] at hEE
      subst hEE
      exact parse_e9 f sf sh sl df dh dl pr ho fg id of mo xa xn xc da dc l w h hnil hc hcm hll hs hd hE (by unfold lookS; rw [if_neg h6, if_neg h17, if_neg hi]) (by unfold knownS; simp [h6, h17, hi])

end Go.Proofs.Ytgdpcomcndidcaa

namespace Go.Proofs.Ytgdpcomcndidcaa
open Go.RowKit
set_option linter.unusedVariables false
set_option linter.unusedSimpArgs false

def badN (m x : Int) : Bool := decide (x < 0) || decide (x > m)
def upB (m : Int) (X : List Int) : Bool := !(X.any (badN m))

theorem upTo1_any (x m : Int) (g : Nat) (w : World) (hc : w.cell? ⟨g, 0, none⟩ = some (.int .i64 m)) :
    Calls Try.prog 78 #[.int .i64 x, .pointer (some ⟨g, 0, none⟩)] w fun e w' => e = .returned (.bool (badN m x)) ∧ w' = w := by
  go_enter Try.func78, Try.ntmps78
  by_cases h0 : x < 0
  · go_wp2
    go_ret
    exact ⟨retB (by simp [badN, h0]), rfl⟩
  · go_wp2
    go_ret
    exact ⟨retB (by simp [badN, h0]; try omega), rfl⟩

set_option maxRecDepth 100000 in
set_option maxHeartbeats 2000000 in
theorem indexFunc_any (m : Int) (g : Nat) (a : Option Addr) (c : Nat) (X : List Int) (w : World) (h : RowI w a X) (hc : w.cell? ⟨g, 0, none⟩ = some (.int .i64 m)) :
    Calls Try.prog 87 #[.slice a X.length c, .func (.func 78) #[] #[.pointer (some ⟨g, 0, none⟩)]] w fun e w' => ∃ i : Int, e = .returned (.int .i64 i) ∧ (decide (0 ≤ i) = X.any (badN m)) ∧ w' = w := by
  have hs := h.small
  obtain ⟨N, hN⟩ : ∃ N, X.length = N := ⟨_, rfl⟩
  have HN : Hid (X.length = N) := hN
  rw [hN] at hs ⊢
  clear hN
  have KU : Hid (∀ x, Calls Try.prog 78 #[.int .i64 x, .pointer (some ⟨g, 0, none⟩)] w _) := fun x => upTo1_any x m g w hc
  clear hc
  go_enter Try.func87, Try.ntmps87
  go_wp2
  go_loopw [8] (fun i w' => ∃ k : Nat, k ≤ N ∧ i = .int .i64 k ∧ w' = w ∧ Hid ((X.take k).any (badN m) = false)) (fun i _ => N - (intOf i).toNat)
  case atStart => exact ⟨0, Nat.zero_le _, rfl, rfl, by show (X.take 0).any (badN m) = false; simp⟩
  case round =>
    obtain ⟨k, hk, rfl, rfl, ho⟩ := hrel
    by_cases hlt : k < N
    · obtain ⟨b, off, rfl, hcl⟩ := h.cells (by have := HN.out; omega)
      have c0 := hcl k (by have := HN.out; omega)
      have hlk : (k : Int) < (N : Int) := by omega
      have e1 : Hid (X.take (k + 1) = X.take k ++ [X.getD k 0]) := by
        show X.take (k + 1) = X.take k ++ [X.getD k 0]
        rw [List.take_succ_eq_append_getElem (by have := HN.out; omega)]; simp [show k < X.length by have := HN.out; omega]
      have e2 : Hid (X.take (k + 1) ++ X.drop (k + 1) = X) := List.take_append_drop _ _
      clear hcl h
      generalize X.getD k 0 = x at *
      have KX : Hid _ := KU.out x
      cases hb : badN m x with
      | false =>
        rw [hb] at KX
        clear KU
        go_wp2_with fail
        refine Calls.mono KX.out ?_
        rintro e W ⟨rfl, hW⟩
        rw [hW]
        clear hW KX
        go_wp2
        exact ⟨⟨k + 1, by omega, int_eq (by omega), trivial, by show (X.take (k + 1)).any (badN m) = false; rw [e1.out, List.any_append, ho.out]; simp [hb]⟩, by simp [intOf]; omega⟩
      | true =>
        rw [hb] at KX
        clear KU
        go_wp2_with fail
        refine Calls.mono KX.out ?_
        rintro e W ⟨rfl, hW⟩
        rw [hW]
        clear hW KX
        go_wp2
        go_ret
        refine ⟨(k : Int), rfl, ?_⟩
        rw [← e2.out, e1.out]
        simp [hb]
    · have hlt' : ¬ (k : Int) < (N : Int) := by omega
      go_wp2
      go_ret
      refine ⟨-1, rfl, ?_⟩
      have := ho.out
      rw [List.take_of_length_le (by have := HN.out; omega)] at this
      rw [this]
      exact ⟨rfl, rfl⟩

theorem upTo_any (m : Int) (a : Option Addr) (c : Nat) (X : List Int) (w : World) (h : RowI w a X) :
    Calls Try.prog 62 #[.int .i64 m, .slice a X.length c] w fun e w' => e = .returned (.bool (upB m X)) ∧ Below w.heap.size w w' := by
  obtain ⟨W1, hW1⟩ : ∃ W1, w.alloc (.cells #[.int .i64 m] 3) = W1 := ⟨_, rfl⟩
  have b1 : Below w.heap.size w W1 := by rw [← hW1]; exact (Below.refl _ _).alloc (Nat.le_refl _) _
  have c0 : W1.cell? ⟨w.heap.size, 0, none⟩ = some (.int .i64 m) := by rw [← hW1]; simp
  have KI : Hid _ := indexFunc_any m w.heap.size a c X W1 (h.below b1) c0
  have KC : Hid (Calls Try.prog 77 #[.slice a X.length c, .func (.func 78) #[] #[.pointer (some ⟨w.heap.size, 0, none⟩)]] W1 fun e w' => e = .returned (.bool (X.any (badN m))) ∧ w' = W1) := by
    show Calls _ _ _ _ _
    generalize X.any (badN m) = R at *
    go_enter Try.func77, Try.ntmps77
    go_wp2_with fail
    refine Calls.mono KI.out ?_
    rintro e W ⟨i, rfl, hi, hW⟩
    rw [hW]
    clear hW KI
    go_wp2
    go_ret
    exact ⟨rfl, rfl⟩
  have e : upB m X = !(X.any (badN m)) := rfl
  rw [e]
  clear e
  generalize X.any (badN m) = R at *
  clear KI
  go_enter Try.func62, Try.ntmps62
  go_wp2_with fail
  refine Calls.mono KC.out ?_
  rintro e W ⟨rfl, hW⟩
  rw [hW]
  clear hW KC
  go_wp2
  go_ret
  exact ⟨rfl, b1⟩
end Go.Proofs.Ytgdpcomcndidcaa

namespace Go.Proofs.Ytgdpcomcndidcaa
open Go.RowKit
set_option linter.unusedVariables false
set_option linter.unusedSimpArgs false

def numB (x : Sg) : Bool := upB 65535 [x.t.sp, x.t.dp, x.wn] && (upB 255 [x.ty, x.cd] && upB 63 [x.fl])
def protoB (x : Sg) : Bool := x.t.pr == 6 || (x.t.pr == 17 || x.t.pr == icmpOf x.t.fam)
def mayB (x : Sg) : Bool := endsB x.t.fam x.t.s x.t.d && (protoB x && (numB x && decide (x.data.length ≤ 65000)))
def portB (x : Sg) : List Int := put16 (put16 [] x.t.sp) x.t.dp
def headB (x : Sg) : List Int :=
  if x.t.pr = 6 then put16 (put32 (put32 (portB x) x.sq) x.ak ++ [80, x.fl % 256]) x.wn ++ [0, 0, 0, 0]
  else if x.t.pr = 17 then put16 (portB x) (8 + x.data.length) ++ [0, 0]
  else put16 [x.ty % 256, x.cd % 256, 0, 0] (if isEcho x.t.fam x.ty = true then x.t.sp else 0) ++ [0, 0]
def placeB (x : Sg) : Nat := if x.t.pr = 6 then 16 else if x.t.pr = 17 then 6 else 2
theorem rowI_at (w : World) (t : TypeId) (X : List Int) (hs : X.length ≤ 17592186044416) : RowI (w.alloc (.cells (X.map (Value.int .i64)).toArray t)) (some ⟨w.heap.size, 0, none⟩) X :=
  ⟨hs, fun _ => ⟨_, _, rfl, fun i hi => by
    have e : X.getD i 0 = X[i] := by simp [hi]
    rw [e, Nat.zero_add, World.cell?_alloc_new]
    simp [hi]⟩⟩
/-- append(v, x...) as one step of a region that draws. -/
theorem step_app {ops : Array Oper} {o : Oper} {ac : Act} {K : Act → World → Prop} {Q : Exit → Act → World → Prop} {Z : Prop} (w : World) (hgd : o.guard = none) (s x : Operand)
    (ho : o.op = .call { callee := .builtin .append, args := #[s, x], argTypes := #[28, 28] })
    (B : Nat) (v : Value) (xs : List Int) (hs : ac.eval s = v) (hown : Owns w B v xs)
    (a : Option Addr) (n c : Nat) (l : List Int) (hx : ac.eval x = .slice a n c) (hn : n = l.length) (hrow : Row w a l) (hnil : a = none → c = 0)
    (hsum : xs.length + l.length ≤ 140737488355328) (hbase : B ≤ w.heap.size)
    (h : ∀ v' w', Owns w' B v' (xs ++ l) → w.grownBy w' v.ownBlock → K (ac.put o.dst v') w') :
    if Region.wanted o (yielded ops ac.tmps) = true then Oper.wp Try.prog o ac w K Q else Z := by
  subst hn
  have hw : Region.wanted o (yielded ops ac.tmps) = true := by simp [Region.wanted, hgd]
  rw [if_pos hw]
  have key : ∃ v' w', (Builtin.append_ #[28, 28] o.type #[v, .slice a l.length c]).run Try.prog w = .ok v' w' ∧ Owns w' B v' (xs ++ l) ∧ w.grownBy w' v.ownBlock := by
    obtain ⟨i0, hi, hz0, hz1, hz2⟩ := info_parts info_u8
    have hrun : ∀ ad : Addr, a = some ad → ∃ v' w', (Builtin.append_ #[28, 28] o.type #[v, .slice a l.length c]).run Try.prog w = .ok v' w' ∧ Owns w' B v' (xs ++ l) ∧ w.grownBy w' v.ownBlock := by
      intro ad ha
      subst ha
      obtain ⟨v', w', h1, h2, h3, _⟩ := run_append_own (P := Try.prog) w B 28 o.type 5 i0 (.int .u8 0) 1 1 Try.underlying28 hi hz0 hz1 hz2 rfl (by decide) v xs.length (xs.map (Value.int .u8)) hown ad l.length c (l.map (Value.int .u8)) (by simp) (by
        intro j u hj
        have hjl : j < l.length := by
          have := (List.getElem?_eq_some_iff.1 hj).1
          simpa using this
        obtain ⟨b, off, hh, hc⟩ := hrow.cells (by omega)
        cases hh
        have e1 : Addr.add ⟨b, off, none⟩ j = ⟨b, off + j, none⟩ := Go.WideShapes.add_plain ..
        rw [e1, hc j hjl]
        rw [← hj]
        simp [hjl]) oneCell_u8 (by unfold maxLen; omega) (by omega) hbase
      refine ⟨v', w', h1, ?_, h3⟩
      show w'.ownsRow B 5 1 v' (xs ++ l).length ((xs ++ l).map (Value.int .u8))
      rw [List.length_append, List.map_append]
      exact h2
    cases ha : a with
    | some ad => rw [← ha]; exact hrun ad ha
    | none =>
      have hl : l = [] := by
        cases l with
        | nil => rfl
        | cons y l => obtain ⟨b, off, hh, _⟩ := hrow.cells (by simp); rw [ha] at hh; cases hh
      subst hl
      rw [hnil ha]
      refine ⟨v, w, ?_, by simpa using hown, World.grownBy.refl _ _⟩
      exact run_append_owned_none (P := Try.prog) (w := w) B 28 o.type 5 i0 1 Try.underlying28 hi v xs.length (xs.map (Value.int .u8)) hown
  obtain ⟨v', w', hr, h2, h3⟩ := key
  unfold Oper.wp execOp
  simp only [ho, resolve, invoke, builtin, Sem.run_bind, Sem.run_pure, Result.andThen_ok, List.map_toArray, List.map_cons, List.map_nil, hs, hx, hr]
  exact h v' w' h2 h3
/-- The same, its answer laid out. -/
theorem step_app2 {ops : Array Oper} {o : Oper} {ac : Act} {K : Act → World → Prop} {Q : Exit → Act → World → Prop} {Z : Prop} (w : World) (hgd : o.guard = none) (s x : Operand)
    (ho : o.op = .call { callee := .builtin .append, args := #[s, x], argTypes := #[28, 28] })
    (B : Nat) (v : Value) (xs : List Int) (hs : ac.eval s = v) (hown : Owns w B v xs) (hxs : M.Bytes xs)
    (a : Option Addr) (n c : Nat) (l : List Int) (hx : ac.eval x = .slice a n c) (hn : n = l.length) (hrow : Row w a l) (hnil : a = none → c = 0)
    (r : List Int) (hr : xs ++ l = r) (hsum : r.length ≤ 140737488355328) (hbase : B ≤ w.heap.size)
    (h : ∀ a' c' w', Owns w' B (.slice a' r.length c') r → r.length ≤ c' → (a' = none → c' = 0) → Row w' a' r → Below B w w' → K (ac.put o.dst (.slice a' r.length c')) w') :
    if Region.wanted o (yielded ops ac.tmps) = true then Oper.wp Try.prog o ac w K Q else Z := by
  subst hr
  refine step_app w hgd s x ho B v xs hs hown a n c l hx hn hrow hnil (by simpa using hsum) hbase fun v' w' h1 h2 => ?_
  obtain ⟨a', c', rfl, h3, h4, h5, h6⟩ := h1.form
  refine h a' c' w' h1 h3 h4 (h1.row hsum (hxs.app hrow.bytes)) ((Below.refl _ _).grown h2 hbase fun k hk => ?_)
  exact (World.ownsRow.lt hown k hk).1
theorem bytes_list {l : List Int} (h : ∀ x ∈ l, 0 ≤ x ∧ x ≤ 255) : M.Bytes l := fun x hx => h x hx

theorem upTo3 (m a b d : Int) (W : World) : Calls Try.prog 62 #[.int .i64 m, .slice (some ⟨W.heap.size, 0, none⟩) 3 3] (W.alloc (.cells #[.int .i64 a, .int .i64 b, .int .i64 d] 3)) fun e w' => e = .returned (.bool (upB m [a, b, d])) ∧ Below (W.alloc (.cells #[.int .i64 a, .int .i64 b, .int .i64 d] 3)).heap.size (W.alloc (.cells #[.int .i64 a, .int .i64 b, .int .i64 d] 3)) w' :=
  upTo_any m (some ⟨W.heap.size, 0, none⟩) 3 [a, b, d] (W.alloc (.cells #[.int .i64 a, .int .i64 b, .int .i64 d] 3)) (rowI_at W 3 [a, b, d] (by simp))
theorem upTo2 (m a b : Int) (W : World) : Calls Try.prog 62 #[.int .i64 m, .slice (some ⟨W.heap.size, 0, none⟩) 2 2] (W.alloc (.cells #[.int .i64 a, .int .i64 b] 3)) fun e w' => e = .returned (.bool (upB m [a, b])) ∧ Below (W.alloc (.cells #[.int .i64 a, .int .i64 b] 3)).heap.size (W.alloc (.cells #[.int .i64 a, .int .i64 b] 3)) w' :=
  upTo_any m (some ⟨W.heap.size, 0, none⟩) 2 [a, b] (W.alloc (.cells #[.int .i64 a, .int .i64 b] 3)) (rowI_at W 3 [a, b] (by simp))
theorem upTo1_ (m a : Int) (W : World) : Calls Try.prog 62 #[.int .i64 m, .slice (some ⟨W.heap.size, 0, none⟩) 1 1] (W.alloc (.cells #[.int .i64 a] 3)) fun e w' => e = .returned (.bool (upB m [a])) ∧ Below (W.alloc (.cells #[.int .i64 a] 3)).heap.size (W.alloc (.cells #[.int .i64 a] 3)) w' :=
  upTo_any m (some ⟨W.heap.size, 0, none⟩) 1 [a] (W.alloc (.cells #[.int .i64 a] 3)) (rowI_at W 3 [a] (by simp))

set_option maxRecDepth 100000 in
set_option maxHeartbeats 4000000 in
theorem rightNumbers_any (x : Sg) (a : Option Addr) (c : Nat) (w : World) :
    Calls Try.prog 40 #[.agg #[.int .i64 x.t.fam, .int .i64 x.t.pr, .int .i64 x.t.s.fam, .int .u64 x.t.s.hi, .int .u64 x.t.s.lo, .int .i64 x.t.d.fam, .int .u64 x.t.d.hi, .int .u64 x.t.d.lo, .int .i64 x.t.sp, .int .i64 x.t.dp, .int .i64 x.fl, .int .u32 x.sq, .int .u32 x.ak, .int .i64 x.wn, .int .i64 x.ty, .int .i64 x.cd, .bool x.er, .int .i64 x.inn.fam, .int .i64 x.inn.pr, .int .i64 x.inn.s.fam, .int .u64 x.inn.s.hi, .int .u64 x.inn.s.lo, .int .i64 x.inn.d.fam, .int .u64 x.inn.d.hi, .int .u64 x.inn.d.lo, .int .i64 x.inn.sp, .int .i64 x.inn.dp, .slice a x.data.length c]] w fun e w' => e = .returned (.bool (numB x)) ∧ Below w.heap.size w w' := by
  obtain ⟨W1, hW1⟩ : ∃ W1, w.alloc (.cells #[.int .i64 x.t.fam, .int .i64 x.t.pr, .int .i64 x.t.s.fam, .int .u64 x.t.s.hi, .int .u64 x.t.s.lo, .int .i64 x.t.d.fam, .int .u64 x.t.d.hi, .int .u64 x.t.d.lo, .int .i64 x.t.sp, .int .i64 x.t.dp, .int .i64 x.fl, .int .u32 x.sq, .int .u32 x.ak, .int .i64 x.wn, .int .i64 x.ty, .int .i64 x.cd, .bool x.er, .int .i64 x.inn.fam, .int .i64 x.inn.pr, .int .i64 x.inn.s.fam, .int .u64 x.inn.s.hi, .int .u64 x.inn.s.lo, .int .i64 x.inn.d.fam, .int .u64 x.inn.d.hi, .int .u64 x.inn.d.lo, .int .i64 x.inn.sp, .int .i64 x.inn.dp, .slice a x.data.length c] 38) = W1 := ⟨_, rfl⟩
  have b1 : Below w.heap.size w W1 := by rw [← hW1]; exact (Below.refl _ _).alloc (Nat.le_refl _) _
  have B1 : Blk W1 w.heap.size 38 #[.int .i64 x.t.fam, .int .i64 x.t.pr, .int .i64 x.t.s.fam, .int .u64 x.t.s.hi, .int .u64 x.t.s.lo, .int .i64 x.t.d.fam, .int .u64 x.t.d.hi, .int .u64 x.t.d.lo, .int .i64 x.t.sp, .int .i64 x.t.dp, .int .i64 x.fl, .int .u32 x.sq, .int .u32 x.ak, .int .i64 x.wn, .int .i64 x.ty, .int .i64 x.cd, .bool x.er, .int .i64 x.inn.fam, .int .i64 x.inn.pr, .int .i64 x.inn.s.fam, .int .u64 x.inn.s.hi, .int .u64 x.inn.s.lo, .int .i64 x.inn.d.fam, .int .u64 x.inn.d.hi, .int .u64 x.inn.d.lo, .int .i64 x.inn.sp, .int .i64 x.inn.dp, .slice a x.data.length c] := by rw [← hW1]; exact blk_new _ _ _
  have K1 : Hid _ := upTo3 65535 x.t.sp x.t.dp x.wn W1
  have K2 : Hid _ := upTo2 255 x.ty x.cd
  have K3 : Hid _ := upTo1_ 63 x.fl
  unfold numB
  generalize upB 65535 [x.t.sp, x.t.dp, x.wn] = R1 at *
  generalize upB 255 [x.ty, x.cd] = R2 at *
  generalize upB 63 [x.fl] = R3 at *
  have d8 := B1.cell 8 (.int .i64 x.t.sp) rfl
  have d9 := B1.cell 9 (.int .i64 x.t.dp) rfl
  have d10 := B1.cell 10 (.int .i64 x.fl) rfl
  have d13 := B1.cell 13 (.int .i64 x.wn) rfl
  have d14 := B1.cell 14 (.int .i64 x.ty) rfl
  have d15 := B1.cell 15 (.int .i64 x.cd) rfl
  go_enter Try.func40, Try.ntmps40
  go_wp2_with fail
  refine Calls.mono K1.out ?_
  rintro e W2 ⟨rfl, bb⟩
  have b2 : Below w.heap.size w W2 := (b1.alloc b1.size _).trans (bb.mono (b1.alloc b1.size _).size)
  have B2 := (B1.alloc (.cells #[.int .i64 x.t.sp, .int .i64 x.t.dp, .int .i64 x.wn] 3)).kept bb
  clear K1 bb B1 b1 hW1 d8 d9 d10 d13 d14 d15
  have d10 := B2.cell 10 (.int .i64 x.fl) rfl
  have d14 := B2.cell 14 (.int .i64 x.ty) rfl
  have d15 := B2.cell 15 (.int .i64 x.cd) rfl
  cases R1 with
  | false =>
    go_wp2
    go_ret
    exact ⟨retB (by simp), b2⟩
  | true =>
    go_wp2_with fail
    refine Calls.mono (K2.out _) ?_
    rintro e W3 ⟨rfl, bb⟩
    have b3 : Below w.heap.size w W3 := (b2.alloc b2.size _).trans (bb.mono (b2.alloc b2.size _).size)
    have B3 := (B2.alloc (.cells #[.int .i64 x.ty, .int .i64 x.cd] 3)).kept bb
    clear K2 bb B2 b2 d10 d14 d15
    have d10 := B3.cell 10 (.int .i64 x.fl) rfl
    cases R2 with
    | false =>
      go_wp2
      go_ret
      exact ⟨retB (by simp), b3⟩
    | true =>
      go_wp2_with fail
      refine Calls.mono (K3.out _) ?_
      rintro e W4 ⟨rfl, bb⟩
      have b4 : Below w.heap.size w W4 := (b3.alloc b3.size _).trans (bb.mono (b3.alloc b3.size _).size)
      clear K3 bb B3 d10
      go_wp2
      go_ret
      exact ⟨retB (by simp), b4⟩

set_option maxRecDepth 100000 in
set_option maxHeartbeats 4000000 in
theorem rightProto_any (x : Sg) (w : World) :
    Calls Try.prog 39 #[.agg #[.int .i64 x.t.fam, .int .i64 x.t.pr, .int .i64 x.t.s.fam, .int .u64 x.t.s.hi, .int .u64 x.t.s.lo, .int .i64 x.t.d.fam, .int .u64 x.t.d.hi, .int .u64 x.t.d.lo, .int .i64 x.t.sp, .int .i64 x.t.dp]] w fun e w' => e = .returned (.bool (protoB x)) ∧ Below w.heap.size w w' := by
  obtain ⟨W1, hW1⟩ : ∃ W1, w.alloc (.cells #[.int .i64 x.t.fam, .int .i64 x.t.pr, .int .i64 x.t.s.fam, .int .u64 x.t.s.hi, .int .u64 x.t.s.lo, .int .i64 x.t.d.fam, .int .u64 x.t.d.hi, .int .u64 x.t.d.lo, .int .i64 x.t.sp, .int .i64 x.t.dp] 26) = W1 := ⟨_, rfl⟩
  have b1 : Below w.heap.size w W1 := by rw [← hW1]; exact (Below.refl _ _).alloc (Nat.le_refl _) _
  have B1 : Blk W1 w.heap.size 26 #[.int .i64 x.t.fam, .int .i64 x.t.pr, .int .i64 x.t.s.fam, .int .u64 x.t.s.hi, .int .u64 x.t.s.lo, .int .i64 x.t.d.fam, .int .u64 x.t.d.hi, .int .u64 x.t.d.lo, .int .i64 x.t.sp, .int .i64 x.t.dp] := by rw [← hW1]; exact blk_new _ _ _
  have d0 := B1.cell 0 (.int .i64 x.t.fam) rfl
  have d1 := B1.cell 1 (.int .i64 x.t.pr) rfl
  have KI : Hid (∀ W, Calls Try.prog 57 #[.int .i64 x.t.fam] W _) := fun W => icmpOf_any x.t.fam W
  unfold protoB
  generalize icmpOf x.t.fam = I at *
  by_cases h6 : x.t.pr = 6
  · have h6' : (x.t.pr == 6) = true := by simpa using h6
    have e : (x.t.pr == 6 || (x.t.pr == 17 || x.t.pr == I)) = true := by rw [h6']; rfl
    rw [e]
    clear h6 e
    go_enter Try.func39, Try.ntmps39
    go_wp2
    go_quiet (fail)
    go_wp2
    go_ret
    exact ⟨retB (by simp), below_drewN b1 _⟩
  have h6' : (x.t.pr == 6) = false := by simpa using h6
  clear h6
  by_cases h17 : x.t.pr = 17
  · have h17' : (x.t.pr == 17) = true := by simpa using h17
    have e : (x.t.pr == 6 || (x.t.pr == 17 || x.t.pr == I)) = true := by rw [h6', h17']; rfl
    rw [e]
    clear h17 e
    go_enter Try.func39, Try.ntmps39
    go_wp2
    go_quiet (fail)
    go_wp2
    go_ret
    exact ⟨retB (by simp), below_drewN b1 _⟩
  have h17' : (x.t.pr == 17) = false := by simpa using h17
  have e : (x.t.pr == 6 || (x.t.pr == 17 || x.t.pr == I)) = (x.t.pr == I) := by rw [h6', h17']; rfl
  rw [e]
  clear h17 e
  go_enter Try.func39, Try.ntmps39
  go_wp2
  go_quiet (first | (go_at_call 57; refine Calls.quiet_of_same (KI.out _)))
  go_wp2
  go_ret
  exact ⟨rfl, below_drewN b1 _⟩

set_option maxRecDepth 100000 in
set_option maxHeartbeats 4000000 in
theorem portBytes_any (x : Sg) (w : World) :
    Calls Try.prog 63 #[.agg #[.int .i64 x.t.fam, .int .i64 x.t.pr, .int .i64 x.t.s.fam, .int .u64 x.t.s.hi, .int .u64 x.t.s.lo, .int .i64 x.t.d.fam, .int .u64 x.t.d.hi, .int .u64 x.t.d.lo, .int .i64 x.t.sp, .int .i64 x.t.dp]] w fun e w' => ∃ a c, e = .returned (.slice a 4 c) ∧ Fresh w w' a c (portB x) := by
  obtain ⟨W1, hW1⟩ : ∃ W1, w.alloc (.cells #[.int .i64 x.t.fam, .int .i64 x.t.pr, .int .i64 x.t.s.fam, .int .u64 x.t.s.hi, .int .u64 x.t.s.lo, .int .i64 x.t.d.fam, .int .u64 x.t.d.hi, .int .u64 x.t.d.lo, .int .i64 x.t.sp, .int .i64 x.t.dp] 26) = W1 := ⟨_, rfl⟩
  have b1 : Below w.heap.size w W1 := by rw [← hW1]; exact (Below.refl _ _).alloc (Nat.le_refl _) _
  have B1 : Blk W1 w.heap.size 26 #[.int .i64 x.t.fam, .int .i64 x.t.pr, .int .i64 x.t.s.fam, .int .u64 x.t.s.hi, .int .u64 x.t.s.lo, .int .i64 x.t.d.fam, .int .u64 x.t.d.hi, .int .u64 x.t.d.lo, .int .i64 x.t.sp, .int .i64 x.t.dp] := by rw [← hW1]; exact blk_new _ _ _
  obtain ⟨L1, hL1⟩ : ∃ L, put16 [] x.t.sp = L := ⟨_, rfl⟩
  obtain ⟨L2, hL2⟩ : ∃ L, portB x = L := ⟨_, rfl⟩
  have hL2' : put16 L1 x.t.dp = L2 := by rw [← hL2, ← hL1]; rfl
  have l1 : L1.length = 2 := by rw [← hL1]; simp [put16]
  have l2 : L2.length = 4 := by rw [← hL2']; simp [put16, l1]
  rw [hL2]
  have K1 : Hid (∀ W, Calls Try.prog 26 #[.slice none 0 0, .int .i64 x.t.sp] W fun e w' => ∃ a' c', e = .returned (.slice a' 2 c') ∧ Fresh W w' a' c' L1) := fun W => by
    have := put16_any none 0 [] x.t.sp W ⟨by simp, M.Bytes.nil, fun h => by simp at h⟩ (fun _ => rfl) (by simp)
    rw [hL1, l1] at this
    exact this
  have K2 : Hid (∀ W a c, Row W a L1 → (a = none → c = 0) → Calls Try.prog 26 #[.slice a 2 c, .int .i64 x.t.dp] W fun e w' => ∃ a' c', e = .returned (.slice a' 4 c') ∧ Fresh W w' a' c' L2) := fun W a c hr hn => by
    have := put16_any a c L1 x.t.dp W hr hn (by omega)
    rw [hL2', l2, l1] at this
    exact this
  have l2' : Hid (L2.length = 4) := l2
  clear hL1 hL2 hL2' l1 l2
  go_enter Try.func63, Try.ntmps63
  go_wp2_with fail
  refine wp_region_noPanic ?_
  refine wp_region_held_drew (S := fun w' => w'.cell? ⟨w.heap.size, 8, none⟩ = some (.int .i64 x.t.sp) ∧ w'.cell? ⟨w.heap.size, 9, none⟩ = some (.int .i64 x.t.dp)) (by kernel_rfl) (by exact ⟨B1.drew.cell 8 _ rfl, B1.drew.cell 9 _ rfl⟩) (fun hHeld => ?_)
  refine wpAnyH_take (i := 0) (oi := { dst := some 3, op := Op.fieldAddr 26 (.tmp 1) 4, type := 0, pos := "build.go:63", after := #[], guard := none }) (v := (.pointer (some ⟨w.heap.size, 8, none⟩))) rfl (by kernel_rfl) (by kernel_rfl) (by kernel_rfl) (fun _ _ _ h => h) (Or.inl ⟨by rfl, ?_⟩) hHeld ?_
  · intro w9 hSw
    try dsimp only at hSw
    go_simp
  try simp only [Act.put, List.setIfInBounds_toArray, List.set_cons_zero, List.set_cons_succ]
  refine wpAnyH_take (i := 1) (oi := { dst := some 4, op := Op.load 3 (.tmp 3), type := 3, pos := "build.go:63", after := #[{ on := 0, ground := Ground.data }], guard := none }) (v := (.int .i64 x.t.sp)) rfl (by kernel_rfl) (by kernel_rfl) (by kernel_rfl) (fun _ _ _ h => h) (Or.inl ⟨by rfl, ?_⟩) hHeld ?_
  · intro w9 hSw
    try dsimp only at hSw
    go_simp
  try simp only [Act.put, List.setIfInBounds_toArray, List.set_cons_zero, List.set_cons_succ]
  refine wpAnyH_take (i := 3) (oi := { dst := some 6, op := Op.fieldAddr 26 (.tmp 1) 5, type := 0, pos := "build.go:63", after := #[], guard := none }) (v := (.pointer (some ⟨w.heap.size, 9, none⟩))) rfl (by kernel_rfl) (by kernel_rfl) (by kernel_rfl) (fun _ _ _ h => h) (Or.inl ⟨by rfl, ?_⟩) hHeld ?_
  · intro w9 hSw
    try dsimp only at hSw
    go_simp
  try simp only [Act.put, List.setIfInBounds_toArray, List.set_cons_zero, List.set_cons_succ]
  refine wpAnyH_take (i := 4) (oi := { dst := some 7, op := Op.load 3 (.tmp 6), type := 3, pos := "build.go:63", after := #[{ on := 3, ground := Ground.data }], guard := none }) (v := (.int .i64 x.t.dp)) rfl (by kernel_rfl) (by kernel_rfl) (by kernel_rfl) (fun _ _ _ h => h) (Or.inl ⟨by rfl, ?_⟩) hHeld ?_
  · intro w9 hSw
    try dsimp only at hSw
    go_simp
  try simp only [Act.put, List.setIfInBounds_toArray, List.set_cons_zero, List.set_cons_succ]
  refine wpAnyH_ready (rs := [2]) (by kernel_rfl) (by simp) ?_
  refine AllReadyH.cons (o := { dst := some 5, op := Op.call { callee := Callee.value (.func 26), args := #[.const (.slice none 0 0), .tmp 4], argTypes := #[28, 3] }, type := 28, pos := "build.go:63", after := #[{ on := 1, ground := Ground.data }], guard := none }) rfl (fun K hK => ?_) AllReadyH.nil
  go_simp
  refine Calls.mono (K1.out _) ?_
  rintro e W2 ⟨a2, c2, rfl, f2⟩
  have B2 := B1.drew.kept f2.below
  have b2 : Below w.heap.size w W2 := b1.drew.trans (f2.below.mono b1.drew.size)
  refine hK.out _ _ ?_ (fun hHeld => ?_)
  · exact ⟨B2.cell 8 _ rfl, B2.cell 9 _ rfl⟩
  clear hK K
  try simp only [Act.put, List.setIfInBounds_toArray, List.set_cons_zero, List.set_cons_succ]
  refine wpAnyH_ready (rs := [5]) (by kernel_rfl) (by simp) ?_
  refine AllReadyH.cons (o := { dst := some 8, op := Op.call { callee := Callee.value (.func 26), args := #[.tmp 5, .tmp 7], argTypes := #[28, 3] }, type := 28, pos := "build.go:63", after := #[{ on := 2, ground := Ground.data }, { on := 4, ground := Ground.data }, { on := 2, ground := Ground.chain }], guard := none }) rfl (fun K hK => ?_) AllReadyH.nil
  go_simp
  refine Calls.mono (K2.out _ _ _ f2.row f2.nil) ?_
  rintro e W3 ⟨a3, c3, rfl, f3⟩
  have B3 := B2.kept f3.below
  have b3 : Below w.heap.size w W3 := b2.trans (f3.below.mono b2.size)
  refine hK.out _ _ ?_ (fun hHeld => ?_)
  · exact ⟨B3.cell 8 _ rfl, B3.cell 9 _ rfl⟩
  clear hK K
  try simp only [Act.put, List.setIfInBounds_toArray, List.set_cons_zero, List.set_cons_succ]
  refine wpAnyH_take (i := 6) (oi := { dst := some 2, op := Op.assign (.tmp 8), type := 28, pos := "build.go:63", after := #[{ on := 5, ground := Ground.data }, { on := 5, ground := Ground.chain }, { on := 0, ground := Ground.phase }, { on := 1, ground := Ground.phase }, { on := 2, ground := Ground.phase }, { on := 3, ground := Ground.phase }, { on := 4, ground := Ground.phase }, { on := 5, ground := Ground.phase }], guard := none }) (v := (.slice a3 4 c3)) rfl (by kernel_rfl) (by kernel_rfl) (by kernel_rfl) (fun _ _ _ h => h) (Or.inl ⟨by rfl, ?_⟩) hHeld ?_
  · intro w9 hSw
    try dsimp only at hSw
    go_simp
  try simp only [Act.put, List.setIfInBounds_toArray, List.set_cons_zero, List.set_cons_succ]
  refine wpAnyH_done (by kernel_rfl) ?_ _
  refine NoPanic.normal ?_
  go_wp2
  go_ret
  exact ⟨a3, c3, rfl, owns_le b2.size f3.owns, f3.room, f3.nil, f3.row, b3⟩

end Go.Proofs.Ytgdpcomcndidcaa

namespace Go.Proofs.Ytgdpcomcndidcaa
open Go.RowKit
set_option linter.unusedVariables false
set_option linter.unusedSimpArgs false

/-- A struct that lies within another one. -/
theorem load_sub {W : World} {g : Nat} {t ty : TypeId} {cs : Array Value} (h : Blk W g t cs) (k : Nat) (sub : Array Value) (hs : (cs.toList.drop k).take sub.size = sub.toList) {fs : _} (hu : Try.prog.underlying ty = some (.struct fs)) (hi : (Try.prog.info? ty).map (·.size) = some sub.size) :
    (loadVar ty ⟨g, k, none⟩).run Try.prog W = .ok (.agg sub) W := by
  have hl : (loadCells ⟨g, k, none⟩ sub.toList.length).run Try.prog W = .ok sub.toList.toArray W :=
    run_loadCells_list (P := Try.prog) W ⟨g, k, none⟩ sub.toList (fun j v hv => by
      have hadd : (⟨g, k, none⟩ : Addr).add j = ⟨g, k + j, none⟩ := Go.WideShapes.add_plain ..
      rw [hadd]
      refine h.cell (k + j) v ?_
      rw [← hs] at hv
      rw [List.getElem?_take] at hv
      split at hv
      · rw [List.getElem?_drop] at hv
        simpa using hv
      · cases hv)
  cases hq : Try.prog.info? ty with
  | none => simp [hq] at hi
  | some i =>
    have hs' : i.size = sub.size := by simpa [hq] using hi
    have hagg : (isAgg ty).run Try.prog W = .ok true W := by
      unfold isAgg
      rw [Sem.run_bind, run_underlying hu W]
      rfl
    simp only [Array.length_toList, Array.toArray_toList] at hl
    simp [loadVar, Sem.run_bind, hagg, sizeOf, typeInfo, hq, hs', hl]
theorem yieldsIf_sub {ops : Array Oper} {S : World → Prop} {o : Oper} {ac : Act} (hgd : o.guard = none) (ty : TypeId) (p : Operand) (ho : o.op = Op.load ty p) (g k : Nat) (t : TypeId) (hp : ac.eval p = .pointer (some ⟨g, k, none⟩)) (cs sub : Array Value)
    (hS : ∀ w, S w → Blk w g t cs) (hs : (cs.toList.drop k).take sub.size = sub.toList) {fs : _} (hu : Try.prog.underlying ty = some (.struct fs)) (hi : (Try.prog.info? ty).map (·.size) = some sub.size) : YieldsIf Try.prog ops S o (.agg sub) ac := by
  refine .inl ⟨by simp [Region.wanted, hgd], fun w hw => ?_⟩
  have hl := load_sub (hS w hw) k sub hs hu hi
  simp [execOp, ho, hp, Instr.loadAt, Instr.sureAddr, hl, Result.andThen]
theorem wpList_load_sub {ops : Array Oper} {rest : List Oper} {o : Oper} {ac : Act} {w : World} {Q : Exit → Act → World → Prop} (hgd : o.guard = none) (ty : TypeId) (p : Operand) (ho : o.op = Op.load ty p) (g k : Nat) (t : TypeId) (hp : ac.eval p = .pointer (some ⟨g, k, none⟩)) (cs sub : Array Value)
    (hb : Blk w g t cs) (hs : (cs.toList.drop k).take sub.size = sub.toList) {fs : _} (hu : Try.prog.underlying ty = some (.struct fs)) (hi : (Try.prog.info? ty).map (·.size) = some sub.size) (h : wpList Try.prog ops Q rest (ac.put o.dst (.agg sub)) w) : wpList Try.prog ops Q (o :: rest) ac w := by
  refine wpList_plain hgd fun K hK => ?_
  have hl := load_sub hb k sub hs hu hi
  unfold Oper.wp
  simp [execOp, ho, hp, Instr.loadAt, Instr.sureAddr, hl, Result.andThen]
  exact hK _ _ h
theorem bytes_tcp (p : Int) : M.Bytes [80, p % 256] := by
  intro x hx
  simp at hx
  rcases hx with rfl | rfl <;> omega
theorem bytes_icmp (p q : Int) : M.Bytes [p % 256, q % 256, 0, 0] := by
  intro x hx
  simp at hx
  rcases hx with rfl | rfl | rfl <;> omega
theorem bytes_00 : M.Bytes [0, 0] := by
  intro x hx
  simp at hx
  subst hx
  omega
theorem bytes_0000 : M.Bytes [0, 0, 0, 0] := by
  intro x hx
  simp at hx
  subst hx
  omega

set_option maxRecDepth 100000 in
set_option maxHeartbeats 4000000 in
theorem written_tcp (x : Sg) (a : Option Addr) (c : Nat) (w : World) (hsq : 0 ≤ x.sq ∧ x.sq ≤ 4294967295) (hak : 0 ≤ x.ak ∧ x.ak ≤ 4294967295) (hdl : x.data.length ≤ 140737488355328) (h6 : x.t.pr = 6) :
    Calls Try.prog 41 #[.agg #[.int .i64 x.t.fam, .int .i64 x.t.pr, .int .i64 x.t.s.fam, .int .u64 x.t.s.hi, .int .u64 x.t.s.lo, .int .i64 x.t.d.fam, .int .u64 x.t.d.hi, .int .u64 x.t.d.lo, .int .i64 x.t.sp, .int .i64 x.t.dp, .int .i64 x.fl, .int .u32 x.sq, .int .u32 x.ak, .int .i64 x.wn, .int .i64 x.ty, .int .i64 x.cd, .bool x.er, .int .i64 x.inn.fam, .int .i64 x.inn.pr, .int .i64 x.inn.s.fam, .int .u64 x.inn.s.hi, .int .u64 x.inn.s.lo, .int .i64 x.inn.d.fam, .int .u64 x.inn.d.hi, .int .u64 x.inn.d.lo, .int .i64 x.inn.sp, .int .i64 x.inn.dp, .slice a x.data.length c]] w fun e w' => ∃ a' c', e = .returned (.tuple #[.slice a' (headB x).length c', .int .i64 (placeB x : Nat)]) ∧ Fresh w w' a' c' (headB x) := by
  obtain ⟨W1, hW1⟩ : ∃ W1, w.alloc (.cells #[.int .i64 x.t.fam, .int .i64 x.t.pr, .int .i64 x.t.s.fam, .int .u64 x.t.s.hi, .int .u64 x.t.s.lo, .int .i64 x.t.d.fam, .int .u64 x.t.d.hi, .int .u64 x.t.d.lo, .int .i64 x.t.sp, .int .i64 x.t.dp, .int .i64 x.fl, .int .u32 x.sq, .int .u32 x.ak, .int .i64 x.wn, .int .i64 x.ty, .int .i64 x.cd, .bool x.er, .int .i64 x.inn.fam, .int .i64 x.inn.pr, .int .i64 x.inn.s.fam, .int .u64 x.inn.s.hi, .int .u64 x.inn.s.lo, .int .i64 x.inn.d.fam, .int .u64 x.inn.d.hi, .int .u64 x.inn.d.lo, .int .i64 x.inn.sp, .int .i64 x.inn.dp, .slice a x.data.length c] 38) = W1 := ⟨_, rfl⟩
  have b1 : Below w.heap.size w W1 := by rw [← hW1]; exact (Below.refl _ _).alloc (Nat.le_refl _) _
  have B1 : Blk W1 w.heap.size 38 #[.int .i64 x.t.fam, .int .i64 x.t.pr, .int .i64 x.t.s.fam, .int .u64 x.t.s.hi, .int .u64 x.t.s.lo, .int .i64 x.t.d.fam, .int .u64 x.t.d.hi, .int .u64 x.t.d.lo, .int .i64 x.t.sp, .int .i64 x.t.dp, .int .i64 x.fl, .int .u32 x.sq, .int .u32 x.ak, .int .i64 x.wn, .int .i64 x.ty, .int .i64 x.cd, .bool x.er, .int .i64 x.inn.fam, .int .i64 x.inn.pr, .int .i64 x.inn.s.fam, .int .u64 x.inn.s.hi, .int .u64 x.inn.s.lo, .int .i64 x.inn.d.fam, .int .u64 x.inn.d.hi, .int .u64 x.inn.d.lo, .int .i64 x.inn.sp, .int .i64 x.inn.dp, .slice a x.data.length c] := by rw [← hW1]; exact blk_new _ _ _
  have g1 : w.heap.size < W1.heap.size := B1.lt
  have d1 := B1.cell 1 (.int .i64 x.t.pr) rfl
  have KP : Hid _ := portBytes_any x
  have e6 : (x.t.pr == 6) = true := by simpa using h6
  have eP : placeB x = 16 := by unfold placeB; rw [if_pos h6]
  have eH : headB x = put16 (put32 (put32 (portB x) x.sq) x.ak ++ [80, x.fl % 256]) x.wn ++ [0, 0, 0, 0] := by unfold headB; rw [if_pos h6]
  rw [eP, eH]
  obtain ⟨L0, h0⟩ : ∃ L, portB x = L := ⟨_, rfl⟩
  have l0 : L0.length = 4 := by rw [← h0]; simp [portB, put16]
  rw [h0] at KP ⊢
  obtain ⟨L1, h1⟩ : ∃ L, put32 L0 x.sq = L := ⟨_, rfl⟩
  have l1 : L1.length = 8 := by rw [← h1]; simp [put32, l0]
  obtain ⟨L2, h2⟩ : ∃ L, put32 L1 x.ak = L := ⟨_, rfl⟩
  have l2 : L2.length = 12 := by rw [← h2]; simp [put32, l1]
  obtain ⟨L3, h3⟩ : ∃ L, L2 ++ [80, x.fl % 256] = L := ⟨_, rfl⟩
  have l3 : L3.length = 14 := by rw [← h3]; simp [l2]
  obtain ⟨L4, h4⟩ : ∃ L, put16 L3 x.wn = L := ⟨_, rfl⟩
  have l4 : L4.length = 16 := by rw [← h4]; simp [put16, l3]
  obtain ⟨L5, h5⟩ : ∃ L, L4 ++ [0, 0, 0, 0] = L := ⟨_, rfl⟩
  have l5 : L5.length = 20 := by rw [← h5]; simp [l4]
  rw [h1, h2, h3, h4, h5]
  have K1 : Hid (∀ W a c, Row W a L0 → (a = none → c = 0) → Calls Try.prog 27 #[.slice a 4 c, .int .u32 x.sq] W fun e w' => ∃ a' c', e = .returned (.slice a' L1.length c') ∧ Fresh W w' a' c' L1) := fun W a c hr hn => by
    have := put32_any a c L0 x.sq W hr hn (by omega) hsq
    rw [h1, l0] at this
    exact this
  have K2 : Hid (∀ W a c, Row W a L1 → (a = none → c = 0) → Calls Try.prog 27 #[.slice a L1.length c, .int .u32 x.ak] W fun e w' => ∃ a' c', e = .returned (.slice a' L2.length c') ∧ Fresh W w' a' c' L2) := fun W a c hr hn => by
    have := put32_any a c L1 x.ak W hr hn (by omega) hak
    rw [h2] at this
    exact this
  have K3 : Hid (∀ W a c, Row W a L3 → (a = none → c = 0) → Calls Try.prog 26 #[.slice a L3.length c, .int .i64 x.wn] W fun e w' => ∃ a' c', e = .returned (.slice a' L4.length c') ∧ Fresh W w' a' c' L4) := fun W a c hr hn => by
    have := put16_any a c L3 x.wn W hr hn (by omega)
    rw [h4] at this
    exact this
  have HL3 : Hid (L2 ++ [80, x.fl % 256] = L3) := h3
  have HL5 : Hid (L4 ++ [0, 0, 0, 0] = L5) := h5
  have wfl := wrapU8 x.fl
  have l3' : L3.length ≤ 14 := by omega
  have l5' : L5.length ≤ 20 := by omega
  clear h0 h1 h2 h3 h4 h5 l0 l1 l2 l3 l4 l5 eP eH h6
  go_enter Try.func41, Try.ntmps41
  go_wp2_with fail
  refine wp_region_noPanic ?_
  refine wp_region_held_drew (S := fun w' => Blk w' w.heap.size 38 #[.int .i64 x.t.fam, .int .i64 x.t.pr, .int .i64 x.t.s.fam, .int .u64 x.t.s.hi, .int .u64 x.t.s.lo, .int .i64 x.t.d.fam, .int .u64 x.t.d.hi, .int .u64 x.t.d.lo, .int .i64 x.t.sp, .int .i64 x.t.dp, .int .i64 x.fl, .int .u32 x.sq, .int .u32 x.ak, .int .i64 x.wn, .int .i64 x.ty, .int .i64 x.cd, .bool x.er, .int .i64 x.inn.fam, .int .i64 x.inn.pr, .int .i64 x.inn.s.fam, .int .u64 x.inn.s.hi, .int .u64 x.inn.s.lo, .int .i64 x.inn.d.fam, .int .u64 x.inn.d.hi, .int .u64 x.inn.d.lo, .int .i64 x.inn.sp, .int .i64 x.inn.dp, .slice a x.data.length c] ∧ w'.cell? ⟨w.heap.size, 11, none⟩ = some (.int .u32 x.sq) ∧ w'.cell? ⟨w.heap.size, 12, none⟩ = some (.int .u32 x.ak)) (by kernel_rfl) (by exact ⟨B1.drew, B1.drew.cell 11 _ rfl, B1.drew.cell 12 _ rfl⟩) (fun hHeld => ?_)
  refine wpAnyH_take (i := 0) (oi := { dst := some 12, op := Op.fieldAddr 38 (.tmp 1) 0, type := 0, pos := "build.go:47", after := #[], guard := none }) (v := (.pointer (some ⟨w.heap.size, 0, none⟩))) rfl (by kernel_rfl) (by kernel_rfl) (by kernel_rfl) (fun _ _ _ h => h) (Or.inl ⟨by rfl, ?_⟩) hHeld ?_
  · intro w9 hSw
    try dsimp only at hSw
    go_simp
  try simp only [Act.put, List.setIfInBounds_toArray, List.set_cons_zero, List.set_cons_succ]
  refine wpAnyH_take (i := 1) (oi := { dst := some 13, op := Op.load 26 (.tmp 12), type := 26, pos := "build.go:47", after := #[{ on := 0, ground := Ground.data }], guard := none }) (v := (.agg #[.int .i64 x.t.fam, .int .i64 x.t.pr, .int .i64 x.t.s.fam, .int .u64 x.t.s.hi, .int .u64 x.t.s.lo, .int .i64 x.t.d.fam, .int .u64 x.t.d.hi, .int .u64 x.t.d.lo, .int .i64 x.t.sp, .int .i64 x.t.dp])) rfl (by kernel_rfl) (by kernel_rfl) (by kernel_rfl) (fun _ _ _ h => h) (yieldsIf_sub rfl _ _ rfl w.heap.size 0 38 (by rfl) _ _ (fun _ hSw => hSw.1) (by rfl) Try.underlying26 (by kernel_rfl)) hHeld ?_
  try simp only [Act.put, List.setIfInBounds_toArray, List.set_cons_zero, List.set_cons_succ]
  refine wpAnyH_take (i := 3) (oi := { dst := some 15, op := Op.fieldAddr 38 (.tmp 1) 2, type := 0, pos := "build.go:47", after := #[], guard := none }) (v := (.pointer (some ⟨w.heap.size, 11, none⟩))) rfl (by kernel_rfl) (by kernel_rfl) (by kernel_rfl) (fun _ _ _ h => h) (Or.inl ⟨by rfl, ?_⟩) hHeld ?_
  · intro w9 hSw
    try dsimp only at hSw
    go_simp
  try simp only [Act.put, List.setIfInBounds_toArray, List.set_cons_zero, List.set_cons_succ]
  refine wpAnyH_take (i := 4) (oi := { dst := some 16, op := Op.load 33 (.tmp 15), type := 33, pos := "build.go:47", after := #[{ on := 3, ground := Ground.data }], guard := none }) (v := (.int .u32 x.sq)) rfl (by kernel_rfl) (by kernel_rfl) (by kernel_rfl) (fun _ _ _ h => h) (Or.inl ⟨by rfl, ?_⟩) hHeld ?_
  · intro w9 hSw
    try dsimp only at hSw
    go_simp
  try simp only [Act.put, List.setIfInBounds_toArray, List.set_cons_zero, List.set_cons_succ]
  refine wpAnyH_take (i := 6) (oi := { dst := some 18, op := Op.fieldAddr 38 (.tmp 1) 3, type := 0, pos := "build.go:47", after := #[], guard := none }) (v := (.pointer (some ⟨w.heap.size, 12, none⟩))) rfl (by kernel_rfl) (by kernel_rfl) (by kernel_rfl) (fun _ _ _ h => h) (Or.inl ⟨by rfl, ?_⟩) hHeld ?_
  · intro w9 hSw
    try dsimp only at hSw
    go_simp
  try simp only [Act.put, List.setIfInBounds_toArray, List.set_cons_zero, List.set_cons_succ]
  refine wpAnyH_take (i := 7) (oi := { dst := some 19, op := Op.load 33 (.tmp 18), type := 33, pos := "build.go:47", after := #[{ on := 6, ground := Ground.data }], guard := none }) (v := (.int .u32 x.ak)) rfl (by kernel_rfl) (by kernel_rfl) (by kernel_rfl) (fun _ _ _ h => h) (Or.inl ⟨by rfl, ?_⟩) hHeld ?_
  · intro w9 hSw
    try dsimp only at hSw
    go_simp
  try simp only [Act.put, List.setIfInBounds_toArray, List.set_cons_zero, List.set_cons_succ]
  refine wpAnyH_ready (rs := [2]) (by kernel_rfl) (by simp) ?_
  refine AllReadyH.cons (o := { dst := some 14, op := Op.call { callee := Callee.value (.func 63), args := #[.tmp 13], argTypes := #[26] }, type := 28, pos := "build.go:47", after := #[{ on := 1, ground := Ground.data }], guard := none }) rfl (fun K hK => ?_) AllReadyH.nil
  go_simp
  refine Calls.mono (KP.out _) ?_
  rintro e W2 ⟨a2, c2, rfl, f2⟩
  have B2 := B1.drew.kept f2.below
  have b2 : Below w.heap.size w W2 := b1.drew.trans (f2.below.mono b1.drew.size)
  refine hK.out _ _ ?_ (fun hHeld => ?_)
  · exact ⟨B2, B2.cell 11 _ rfl, B2.cell 12 _ rfl⟩
  clear hK K
  try simp only [Act.put, List.setIfInBounds_toArray, List.set_cons_zero, List.set_cons_succ]
  refine wpAnyH_ready (rs := [5]) (by kernel_rfl) (by simp) ?_
  refine AllReadyH.cons (o := { dst := some 17, op := Op.call { callee := Callee.value (.func 27), args := #[.tmp 14, .tmp 16], argTypes := #[28, 33] }, type := 28, pos := "build.go:47", after := #[{ on := 2, ground := Ground.data }, { on := 4, ground := Ground.data }, { on := 2, ground := Ground.chain }], guard := none }) rfl (fun K hK => ?_) AllReadyH.nil
  go_simp
  refine Calls.mono (K1.out _ _ _ f2.row f2.nil) ?_
  rintro e W3 ⟨a3, c3, rfl, f3⟩
  have B3 := B2.kept f3.below
  have b3 : Below w.heap.size w W3 := b2.trans (f3.below.mono b2.size)
  refine hK.out _ _ ?_ (fun hHeld => ?_)
  · exact ⟨B3, B3.cell 11 _ rfl, B3.cell 12 _ rfl⟩
  clear hK K
  try simp only [Act.put, List.setIfInBounds_toArray, List.set_cons_zero, List.set_cons_succ]
  refine wpAnyH_ready (rs := [8]) (by kernel_rfl) (by simp) ?_
  refine AllReadyH.cons (o := { dst := some 20, op := Op.call { callee := Callee.value (.func 27), args := #[.tmp 17, .tmp 19], argTypes := #[28, 33] }, type := 28, pos := "build.go:47", after := #[{ on := 5, ground := Ground.data }, { on := 7, ground := Ground.data }, { on := 5, ground := Ground.chain }], guard := none }) rfl (fun K hK => ?_) AllReadyH.nil
  go_simp
  refine Calls.mono (K2.out _ _ _ f3.row f3.nil) ?_
  rintro e W4 ⟨a4, c4, rfl, f4⟩
  have B4 := B3.kept f4.below
  have b4 : Below w.heap.size w W4 := b3.trans (f4.below.mono b3.size)
  refine hK.out _ _ ?_ (fun hHeld => ?_)
  · exact ⟨B4, B4.cell 11 _ rfl, B4.cell 12 _ rfl⟩
  clear hK K
  try simp only [Act.put, List.setIfInBounds_toArray, List.set_cons_zero, List.set_cons_succ]
  refine wpAnyH_take (i := 9) (oi := { dst := some 4, op := Op.assign (.tmp 20), type := 28, pos := "build.go:47", after := #[{ on := 8, ground := Ground.data }, { on := 8, ground := Ground.chain }, { on := 0, ground := Ground.phase }, { on := 1, ground := Ground.phase }, { on := 2, ground := Ground.phase }, { on := 3, ground := Ground.phase }, { on := 4, ground := Ground.phase }, { on := 5, ground := Ground.phase }, { on := 6, ground := Ground.phase }, { on := 7, ground := Ground.phase }, { on := 8, ground := Ground.phase }], guard := none }) (v := (.slice a4 L2.length c4)) rfl (by kernel_rfl) (by kernel_rfl) (by kernel_rfl) (fun _ _ _ h => h) (Or.inl ⟨by rfl, ?_⟩) hHeld ?_
  · intro w9 hSw
    try dsimp only at hSw
    go_simp
  try simp only [Act.put, List.setIfInBounds_toArray, List.set_cons_zero, List.set_cons_succ]
  refine wpAnyH_done (by kernel_rfl) ?_ _
  refine NoPanic.normal ?_
  have s3 : W1.heap.size ≤ W3.heap.size := Nat.le_trans (Nat.le_trans (show W1.heap.size ≤ W1.drew.heap.size from Nat.le_refl _) f2.below.size) f3.below.size
  have s4 : W1.heap.size ≤ W4.heap.size := Nat.le_trans s3 f4.below.size
  clear KP K1 K2 f2 f3 B2 B3 hHeld
  go_wp2_with fail
  refine wp_region_noPanic ?_
  refine wp_region_held_drew (S := fun w' => Blk w' w.heap.size 38 #[.int .i64 x.t.fam, .int .i64 x.t.pr, .int .i64 x.t.s.fam, .int .u64 x.t.s.hi, .int .u64 x.t.s.lo, .int .i64 x.t.d.fam, .int .u64 x.t.d.hi, .int .u64 x.t.d.lo, .int .i64 x.t.sp, .int .i64 x.t.dp, .int .i64 x.fl, .int .u32 x.sq, .int .u32 x.ak, .int .i64 x.wn, .int .i64 x.ty, .int .i64 x.cd, .bool x.er, .int .i64 x.inn.fam, .int .i64 x.inn.pr, .int .i64 x.inn.s.fam, .int .u64 x.inn.s.hi, .int .u64 x.inn.s.lo, .int .i64 x.inn.d.fam, .int .u64 x.inn.d.hi, .int .u64 x.inn.d.lo, .int .i64 x.inn.sp, .int .i64 x.inn.dp, .slice a x.data.length c] ∧ w'.cell? ⟨w.heap.size, 10, none⟩ = some (.int .i64 x.fl) ∧ w'.cell? ⟨w.heap.size, 13, none⟩ = some (.int .i64 x.wn)) (by kernel_rfl) (by exact ⟨B4.drew, B4.drew.cell 10 _ rfl, B4.drew.cell 13 _ rfl⟩) (fun hHeld => ?_)
  refine wpAnyH_take (i := 0) (oi := { dst := some 21, op := Op.move (.tmp 4), type := 28, pos := "build.go:48", after := #[], guard := none }) (v := (.slice a4 L2.length c4)) rfl (by kernel_rfl) (by kernel_rfl) (by kernel_rfl) (fun _ _ _ h => h) (Or.inl ⟨by rfl, ?_⟩) hHeld ?_
  · intro w9 hSw
    try dsimp only at hSw
    go_simp
  try simp only [Act.put, List.setIfInBounds_toArray, List.set_cons_zero, List.set_cons_succ]
  refine wpAnyH_take (i := 1) (oi := { dst := some 22, op := Op.fieldAddr 38 (.tmp 1) 1, type := 0, pos := "build.go:48", after := #[], guard := none }) (v := (.pointer (some ⟨w.heap.size, 10, none⟩))) rfl (by kernel_rfl) (by kernel_rfl) (by kernel_rfl) (fun _ _ _ h => h) (Or.inl ⟨by rfl, ?_⟩) hHeld ?_
  · intro w9 hSw
    try dsimp only at hSw
    go_simp
  try simp only [Act.put, List.setIfInBounds_toArray, List.set_cons_zero, List.set_cons_succ]
  refine wpAnyH_take (i := 2) (oi := { dst := some 23, op := Op.load 3 (.tmp 22), type := 3, pos := "build.go:48", after := #[{ on := 1, ground := Ground.data }], guard := none }) (v := (.int .i64 x.fl)) rfl (by kernel_rfl) (by kernel_rfl) (by kernel_rfl) (fun _ _ _ h => h) (Or.inl ⟨by rfl, ?_⟩) hHeld ?_
  · intro w9 hSw
    try dsimp only at hSw
    go_simp
  try simp only [Act.put, List.setIfInBounds_toArray, List.set_cons_zero, List.set_cons_succ]
  refine wpAnyH_take (i := 3) (oi := { dst := some 24, op := Op.convert 3 5 (.tmp 23), type := 5, pos := "build.go:48", after := #[{ on := 2, ground := Ground.data }], guard := none }) (v := (.int .u8 (x.fl % 256))) rfl (by kernel_rfl) (by kernel_rfl) (by kernel_rfl) (fun _ _ _ h => h) (Or.inl ⟨by rfl, ?_⟩) hHeld ?_
  · intro w9 hSw
    try dsimp only at hSw
    go_simp
  try simp only [Act.put, List.setIfInBounds_toArray, List.set_cons_zero, List.set_cons_succ]
  refine wpAnyH_take (i := 6) (oi := { dst := some 27, op := Op.fieldAddr 38 (.tmp 1) 4, type := 0, pos := "build.go:48", after := #[], guard := none }) (v := (.pointer (some ⟨w.heap.size, 13, none⟩))) rfl (by kernel_rfl) (by kernel_rfl) (by kernel_rfl) (fun _ _ _ h => h) (Or.inl ⟨by rfl, ?_⟩) hHeld ?_
  · intro w9 hSw
    try dsimp only at hSw
    go_simp
  try simp only [Act.put, List.setIfInBounds_toArray, List.set_cons_zero, List.set_cons_succ]
  refine wpAnyH_take (i := 7) (oi := { dst := some 28, op := Op.load 3 (.tmp 27), type := 3, pos := "build.go:48", after := #[{ on := 6, ground := Ground.data }], guard := none }) (v := (.int .i64 x.wn)) rfl (by kernel_rfl) (by kernel_rfl) (by kernel_rfl) (fun _ _ _ h => h) (Or.inl ⟨by rfl, ?_⟩) hHeld ?_
  · intro w9 hSw
    try dsimp only at hSw
    go_simp
  try simp only [Act.put, List.setIfInBounds_toArray, List.set_cons_zero, List.set_cons_succ]
  refine wpAnyH_ready (rs := [4]) (by kernel_rfl) (by simp) ?_
  refine AllReadyH.cons (o := { dst := some 25, op := Op.buildSlice 28 2 #[(0, .const (.int .u8 80)), (1, .tmp 24)], type := 28, pos := "build.go:48", after := #[{ on := 3, ground := Ground.data }], guard := none }) rfl (fun K hK => ?_) AllReadyH.nil
  go_simp
  have B5 := B4.drew.alloc (.cells #[.int .u8 80, .int .u8 (x.fl % 256)] 5)
  have b5 := b4.drew.alloc b4.drew.size (.cells #[.int .u8 80, .int .u8 (x.fl % 256)] 5)
  have O5 := Owns.alloc (owns_le (B' := W1.heap.size) s3 (f4.owns.below ((Below.refl _ _).drew))) (.cells #[.int .u8 80, .int .u8 (x.fl % 256)] 5)
  have s5 : W1.heap.size ≤ (W4.drew.alloc (.cells #[.int .u8 80, .int .u8 (x.fl % 256)] 5)).heap.size := by
    have : W4.drew.heap.size = W4.heap.size := rfl
    simp only [World.size_alloc]
    omega
  have r5 := row_at W4.drew 5 [80, x.fl % 256] W4.drew.heap.size rfl (by simp) (bytes_tcp x.fl)
  refine hK.out _ _ ?_ (fun hHeld => ?_)
  · exact ⟨B5, B5.cell 10 _ rfl, B5.cell 13 _ rfl⟩
  clear hK K
  try simp only [Act.put, List.setIfInBounds_toArray, List.set_cons_zero, List.set_cons_succ]
  refine wpAnyH_ready (rs := [5]) (by kernel_rfl) (by simp) ?_
  refine AllReadyH.cons (o := { dst := some 26, op := Op.call { callee := Callee.builtin Builtin.append, args := #[.tmp 21, .tmp 25], argTypes := #[28, 28] }, type := 28, pos := "build.go:48", after := #[{ on := 0, ground := Ground.data }, { on := 4, ground := Ground.data }], guard := none }) rfl (fun K hK => ?_) AllReadyH.nil
  refine step_app2 _ rfl _ _ rfl W1.heap.size _ L2 rfl O5 f4.row.bytes _ 2 2 [80, x.fl % 256] (by rfl) rfl r5 (fun hh => by cases hh) L3 HL3.out (by omega) s5 ?_
  intro a6 c6 W6 O6 rm6 nl6 r6 bb
  have b6 : Below w.heap.size w W6 := b5.trans (bb.mono b1.size)
  have B6 := B5.below bb g1
  have s6 : W1.heap.size ≤ W6.heap.size := Nat.le_trans s5 bb.size
  refine hK.out _ _ ?_ (fun hHeld => ?_)
  · exact ⟨B6, B6.cell 10 _ rfl, B6.cell 13 _ rfl⟩
  clear hK K
  try simp only [Act.put, List.setIfInBounds_toArray, List.set_cons_zero, List.set_cons_succ]
  refine wpAnyH_ready (rs := [8]) (by kernel_rfl) (by simp) ?_
  refine AllReadyH.cons (o := { dst := some 29, op := Op.call { callee := Callee.value (.func 26), args := #[.tmp 26, .tmp 28], argTypes := #[28, 3] }, type := 28, pos := "build.go:48", after := #[{ on := 5, ground := Ground.data }, { on := 7, ground := Ground.data }, { on := 5, ground := Ground.chain }], guard := none }) rfl (fun K hK => ?_) AllReadyH.nil
  go_simp
  refine Calls.mono (K3.out _ _ _ r6 nl6) ?_
  rintro e W7 ⟨a7, c7, rfl, f7⟩
  have B7 := B6.kept f7.below
  have b7 : Below w.heap.size w W7 := b6.trans (f7.below.mono b6.size)
  refine hK.out _ _ ?_ (fun hHeld => ?_)
  · exact ⟨B7, B7.cell 10 _ rfl, B7.cell 13 _ rfl⟩
  clear hK K
  try simp only [Act.put, List.setIfInBounds_toArray, List.set_cons_zero, List.set_cons_succ]
  refine wpAnyH_take (i := 9) (oi := { dst := some 4, op := Op.assign (.tmp 29), type := 28, pos := "build.go:48", after := #[{ on := 8, ground := Ground.data }, { on := 8, ground := Ground.chain }, { on := 0, ground := Ground.phase }, { on := 1, ground := Ground.phase }, { on := 2, ground := Ground.phase }, { on := 3, ground := Ground.phase }, { on := 4, ground := Ground.phase }, { on := 5, ground := Ground.phase }, { on := 6, ground := Ground.phase }, { on := 7, ground := Ground.phase }, { on := 8, ground := Ground.phase }], guard := none }) (v := (.slice a7 L4.length c7)) rfl (by kernel_rfl) (by kernel_rfl) (by kernel_rfl) (fun _ _ _ h => h) (Or.inl ⟨by rfl, ?_⟩) hHeld ?_
  · intro w9 hSw
    try dsimp only at hSw
    go_simp
  try simp only [Act.put, List.setIfInBounds_toArray, List.set_cons_zero, List.set_cons_succ]
  refine wpAnyH_done (by kernel_rfl) ?_ _
  refine NoPanic.normal ?_
  have OW := owns_le b6.size f7.owns
  have rb := f7.row.bytes
  clear K3 f7 f4 B4 B5 B6 B7 hHeld r6 O5 O6 r5 HL3
  go_wp2_with (at_builtin; refine wpList_app2 _ rfl _ _ rfl w.heap.size _ L4 rfl (OW.alloc _) rb _ 4 [0, 0, 0, 0] rfl ?row (fun hh => by cases hh) L5 HL5.out ?c1 ?c2 ?_)
  case row => exact row_at W7 5 [0, 0, 0, 0] W7.heap.size rfl (by simp) bytes_0000
  case c1 => omega
  case c2 => exact Nat.le_trans b7.size (by simp)
  intro a8 c8 W8 o8 rm8 nl8 r8 bb _
  have b8 : Below w.heap.size w W8 := (b7.alloc b7.size _).trans bb
  go_wp2
  go_ret2
  exact ⟨a8, c8, rfl, o8, rm8, nl8, r8, b8⟩

set_option maxRecDepth 100000 in
set_option maxHeartbeats 4000000 in
theorem written_udp (x : Sg) (a : Option Addr) (c : Nat) (w : World) (hsq : 0 ≤ x.sq ∧ x.sq ≤ 4294967295) (hak : 0 ≤ x.ak ∧ x.ak ≤ 4294967295) (hdl : x.data.length ≤ 140737488355328) (h6 : ¬ x.t.pr = 6) (h17 : x.t.pr = 17) :
    Calls Try.prog 41 #[.agg #[.int .i64 x.t.fam, .int .i64 x.t.pr, .int .i64 x.t.s.fam, .int .u64 x.t.s.hi, .int .u64 x.t.s.lo, .int .i64 x.t.d.fam, .int .u64 x.t.d.hi, .int .u64 x.t.d.lo, .int .i64 x.t.sp, .int .i64 x.t.dp, .int .i64 x.fl, .int .u32 x.sq, .int .u32 x.ak, .int .i64 x.wn, .int .i64 x.ty, .int .i64 x.cd, .bool x.er, .int .i64 x.inn.fam, .int .i64 x.inn.pr, .int .i64 x.inn.s.fam, .int .u64 x.inn.s.hi, .int .u64 x.inn.s.lo, .int .i64 x.inn.d.fam, .int .u64 x.inn.d.hi, .int .u64 x.inn.d.lo, .int .i64 x.inn.sp, .int .i64 x.inn.dp, .slice a x.data.length c]] w fun e w' => ∃ a' c', e = .returned (.tuple #[.slice a' (headB x).length c', .int .i64 (placeB x : Nat)]) ∧ Fresh w w' a' c' (headB x) := by
  obtain ⟨W1, hW1⟩ : ∃ W1, w.alloc (.cells #[.int .i64 x.t.fam, .int .i64 x.t.pr, .int .i64 x.t.s.fam, .int .u64 x.t.s.hi, .int .u64 x.t.s.lo, .int .i64 x.t.d.fam, .int .u64 x.t.d.hi, .int .u64 x.t.d.lo, .int .i64 x.t.sp, .int .i64 x.t.dp, .int .i64 x.fl, .int .u32 x.sq, .int .u32 x.ak, .int .i64 x.wn, .int .i64 x.ty, .int .i64 x.cd, .bool x.er, .int .i64 x.inn.fam, .int .i64 x.inn.pr, .int .i64 x.inn.s.fam, .int .u64 x.inn.s.hi, .int .u64 x.inn.s.lo, .int .i64 x.inn.d.fam, .int .u64 x.inn.d.hi, .int .u64 x.inn.d.lo, .int .i64 x.inn.sp, .int .i64 x.inn.dp, .slice a x.data.length c] 38) = W1 := ⟨_, rfl⟩
  have b1 : Below w.heap.size w W1 := by rw [← hW1]; exact (Below.refl _ _).alloc (Nat.le_refl _) _
  have B1 : Blk W1 w.heap.size 38 #[.int .i64 x.t.fam, .int .i64 x.t.pr, .int .i64 x.t.s.fam, .int .u64 x.t.s.hi, .int .u64 x.t.s.lo, .int .i64 x.t.d.fam, .int .u64 x.t.d.hi, .int .u64 x.t.d.lo, .int .i64 x.t.sp, .int .i64 x.t.dp, .int .i64 x.fl, .int .u32 x.sq, .int .u32 x.ak, .int .i64 x.wn, .int .i64 x.ty, .int .i64 x.cd, .bool x.er, .int .i64 x.inn.fam, .int .i64 x.inn.pr, .int .i64 x.inn.s.fam, .int .u64 x.inn.s.hi, .int .u64 x.inn.s.lo, .int .i64 x.inn.d.fam, .int .u64 x.inn.d.hi, .int .u64 x.inn.d.lo, .int .i64 x.inn.sp, .int .i64 x.inn.dp, .slice a x.data.length c] := by rw [← hW1]; exact blk_new _ _ _
  have g1 : w.heap.size < W1.heap.size := B1.lt
  have d1 := B1.cell 1 (.int .i64 x.t.pr) rfl
  have KP : Hid _ := portBytes_any x
  have d27 := B1.cell 27 (.slice a x.data.length c) rfl
  have HC : Hid (∀ W, Blk W w.heap.size 38 #[.int .i64 x.t.fam, .int .i64 x.t.pr, .int .i64 x.t.s.fam, .int .u64 x.t.s.hi, .int .u64 x.t.s.lo, .int .i64 x.t.d.fam, .int .u64 x.t.d.hi, .int .u64 x.t.d.lo, .int .i64 x.t.sp, .int .i64 x.t.dp, .int .i64 x.fl, .int .u32 x.sq, .int .u32 x.ak, .int .i64 x.wn, .int .i64 x.ty, .int .i64 x.cd, .bool x.er, .int .i64 x.inn.fam, .int .i64 x.inn.pr, .int .i64 x.inn.s.fam, .int .u64 x.inn.s.hi, .int .u64 x.inn.s.lo, .int .i64 x.inn.d.fam, .int .u64 x.inn.d.hi, .int .u64 x.inn.d.lo, .int .i64 x.inn.sp, .int .i64 x.inn.dp, .slice a x.data.length c] → W.cell? ⟨w.heap.size, 27, none⟩ = some (.slice a x.data.length c)) := fun W hW => hW.cell 27 _ rfl
  have e6 : (x.t.pr == 6) = false := by simpa using h6
  have e17 : (x.t.pr == 17) = true := by simpa using h17
  have eP : placeB x = 6 := by unfold placeB; rw [if_neg h6, if_pos h17]
  have eH : headB x = put16 (portB x) (8 + x.data.length) ++ [0, 0] := by unfold headB; rw [if_neg h6, if_pos h17]
  rw [eP, eH]
  obtain ⟨L0, h0⟩ : ∃ L, portB x = L := ⟨_, rfl⟩
  have l0 : L0.length = 4 := by rw [← h0]; simp [portB, put16]
  rw [h0] at KP ⊢
  have w8 : IntKind.i64.wrap (8 + (x.data.length : Int)) = 8 + (x.data.length : Int) := wraps_i64 _ (by omega) (by omega)
  obtain ⟨L1, h1⟩ : ∃ L, put16 L0 (8 + (x.data.length : Int)) = L := ⟨_, rfl⟩
  have l1 : L1.length = 6 := by rw [← h1]; simp [put16, l0]
  obtain ⟨L2, h2⟩ : ∃ L, L1 ++ [0, 0] = L := ⟨_, rfl⟩
  have l2 : L2.length = 8 := by rw [← h2]; simp [l1]
  rw [h1, h2]
  have K1 : Hid (∀ W a c, Row W a L0 → (a = none → c = 0) → Calls Try.prog 26 #[.slice a 4 c, .int .i64 (8 + (x.data.length : Int))] W fun e w' => ∃ a' c', e = .returned (.slice a' L1.length c') ∧ Fresh W w' a' c' L1) := fun W a c hr hn => by
    have := put16_any a c L0 (8 + (x.data.length : Int)) W hr hn (by omega)
    rw [h1, l0] at this
    exact this
  have HL2 : Hid (L1 ++ [0, 0] = L2) := h2
  have l2' : L2.length ≤ 8 := by omega
  have s0 : W1.heap.size ≤ W1.drew.heap.size := Nat.le_refl _
  clear h0 h1 h2 l0 l1 l2 eP eH h6 h17
  go_enter Try.func41, Try.ntmps41
  go_wp2_with fail
  refine wp_region_noPanic ?_
  refine wp_region_held_drew (S := fun w' => Blk w' w.heap.size 38 #[.int .i64 x.t.fam, .int .i64 x.t.pr, .int .i64 x.t.s.fam, .int .u64 x.t.s.hi, .int .u64 x.t.s.lo, .int .i64 x.t.d.fam, .int .u64 x.t.d.hi, .int .u64 x.t.d.lo, .int .i64 x.t.sp, .int .i64 x.t.dp, .int .i64 x.fl, .int .u32 x.sq, .int .u32 x.ak, .int .i64 x.wn, .int .i64 x.ty, .int .i64 x.cd, .bool x.er, .int .i64 x.inn.fam, .int .i64 x.inn.pr, .int .i64 x.inn.s.fam, .int .u64 x.inn.s.hi, .int .u64 x.inn.s.lo, .int .i64 x.inn.d.fam, .int .u64 x.inn.d.hi, .int .u64 x.inn.d.lo, .int .i64 x.inn.sp, .int .i64 x.inn.dp, .slice a x.data.length c] ∧ w'.cell? ⟨w.heap.size, 27, none⟩ = some (.slice a x.data.length c)) (by kernel_rfl) (by exact ⟨B1.drew, d27⟩) (fun hHeld => ?_)
  refine wpAnyH_take (i := 0) (oi := { dst := some 35, op := Op.fieldAddr 38 (.tmp 1) 0, type := 0, pos := "build.go:51", after := #[], guard := none }) (v := (.pointer (some ⟨w.heap.size, 0, none⟩))) rfl (by kernel_rfl) (by kernel_rfl) (by kernel_rfl) (fun _ _ _ h => h) (Or.inl ⟨by rfl, ?_⟩) hHeld ?_
  · intro w9 hSw
    try dsimp only at hSw
    go_simp
  try simp only [Act.put, List.setIfInBounds_toArray, List.set_cons_zero, List.set_cons_succ]
  refine wpAnyH_take (i := 1) (oi := { dst := some 36, op := Op.load 26 (.tmp 35), type := 26, pos := "build.go:51", after := #[{ on := 0, ground := Ground.data }], guard := none }) (v := (.agg #[.int .i64 x.t.fam, .int .i64 x.t.pr, .int .i64 x.t.s.fam, .int .u64 x.t.s.hi, .int .u64 x.t.s.lo, .int .i64 x.t.d.fam, .int .u64 x.t.d.hi, .int .u64 x.t.d.lo, .int .i64 x.t.sp, .int .i64 x.t.dp])) rfl (by kernel_rfl) (by kernel_rfl) (by kernel_rfl) (fun _ _ _ h => h) (yieldsIf_sub rfl _ _ rfl w.heap.size 0 38 (by rfl) _ _ (fun _ hSw => hSw.1) (by rfl) Try.underlying26 (by kernel_rfl)) hHeld ?_
  try simp only [Act.put, List.setIfInBounds_toArray, List.set_cons_zero, List.set_cons_succ]
  refine wpAnyH_take (i := 3) (oi := { dst := some 38, op := Op.fieldAddr 38 (.tmp 1) 9, type := 0, pos := "build.go:51", after := #[], guard := none }) (v := (.pointer (some ⟨w.heap.size, 27, none⟩))) rfl (by kernel_rfl) (by kernel_rfl) (by kernel_rfl) (fun _ _ _ h => h) (Or.inl ⟨by rfl, ?_⟩) hHeld ?_
  · intro w9 hSw
    try dsimp only at hSw
    go_simp
  try simp only [Act.put, List.setIfInBounds_toArray, List.set_cons_zero, List.set_cons_succ]
  refine wpAnyH_take (i := 4) (oi := { dst := some 39, op := Op.load 28 (.tmp 38), type := 28, pos := "build.go:51", after := #[{ on := 3, ground := Ground.data }], guard := none }) (v := (.slice a x.data.length c)) rfl (by kernel_rfl) (by kernel_rfl) (by kernel_rfl) (fun _ _ _ h => h) (Or.inl ⟨by rfl, ?_⟩) hHeld ?_
  · intro w9 hSw
    try dsimp only at hSw
    go_simp
  try simp only [Act.put, List.setIfInBounds_toArray, List.set_cons_zero, List.set_cons_succ]
  refine wpAnyH_take (i := 5) (oi := { dst := some 40, op := Op.call { callee := Callee.builtin Builtin.len, args := #[.tmp 39], argTypes := #[28] }, type := 3, pos := "build.go:51", after := #[{ on := 4, ground := Ground.data }], guard := none }) (v := (.int .i64 (x.data.length : Int))) rfl (by kernel_rfl) (by kernel_rfl) (by kernel_rfl) (fun _ _ _ h => h) (Or.inl ⟨by rfl, ?_⟩) hHeld ?_
  · intro w9 hSw
    try dsimp only at hSw
    go_simp
  try simp only [Act.put, List.setIfInBounds_toArray, List.set_cons_zero, List.set_cons_succ]
  refine wpAnyH_take (i := 6) (oi := { dst := some 41, op := Op.binOp BinOp.add 3 (.const (.int .i64 8)) (.tmp 40) 3, type := 3, pos := "build.go:51", after := #[{ on := 5, ground := Ground.data }], guard := none }) (v := (.int .i64 (8 + (x.data.length : Int)))) rfl (by kernel_rfl) (by kernel_rfl) (by kernel_rfl) (fun _ _ _ h => h) (Or.inl ⟨by rfl, ?_⟩) hHeld ?_
  · intro w9 hSw
    try dsimp only at hSw
    go_simp
  try simp only [Act.put, List.setIfInBounds_toArray, List.set_cons_zero, List.set_cons_succ]
  have B1x := B1.drew
  have b1x := b1.drew
  obtain ⟨W1x, hW1x⟩ : ∃ W, W1.drew = W := ⟨_, rfl⟩
  rw [hW1x] at B1x b1x s0 ⊢
  clear hW1x
  refine wpAnyH_ready (rs := [2, 8]) (by kernel_rfl) (by simp) ?_
  refine (AllReadyH.cons (o := { dst := some 37, op := Op.call { callee := Callee.value (.func 63), args := #[.tmp 36], argTypes := #[26] }, type := 28, pos := "build.go:51", after := #[{ on := 1, ground := Ground.data }], guard := none }) rfl (fun K hK => ?_) (AllReadyH.cons (o := { dst := some 43, op := Op.buildSlice 28 2 #[(0, .const (.int .u8 0)), (1, .const (.int .u8 0))], type := 28, pos := "build.go:51", after := #[], guard := none }) rfl (fun K hK => ?_) AllReadyH.nil))
  · go_simp
    refine Calls.mono (KP.out _) ?_
    rintro e W2 ⟨a2, c2, rfl, f2⟩
    have B2 := B1x.kept f2.below
    have b2 : Below w.heap.size w W2 := b1x.trans (f2.below.mono b1x.size)
    have s2 : W1.heap.size ≤ W2.heap.size := Nat.le_trans s0 f2.below.size
    refine hK.out _ _ (by exact ⟨B2, HC.out _ B2⟩) (fun hHeld => ?_)
    clear hK K
    try simp only [Act.put, List.setIfInBounds_toArray, List.set_cons_zero, List.set_cons_succ]
    refine wpAnyH_ready (rs := [7, 8]) (by kernel_rfl) (by simp) ?_
    refine (AllReadyH.cons (o := { dst := some 42, op := Op.call { callee := Callee.value (.func 26), args := #[.tmp 37, .tmp 41], argTypes := #[28, 3] }, type := 28, pos := "build.go:51", after := #[{ on := 2, ground := Ground.data }, { on := 6, ground := Ground.data }, { on := 2, ground := Ground.chain }], guard := none }) rfl (fun K hK => ?_) (AllReadyH.cons (o := { dst := some 43, op := Op.buildSlice 28 2 #[(0, .const (.int .u8 0)), (1, .const (.int .u8 0))], type := 28, pos := "build.go:51", after := #[], guard := none }) rfl (fun K hK => ?_) AllReadyH.nil))
    · go_simp
      refine Calls.mono (K1.out _ _ _ f2.row f2.nil) ?_
      rintro e W3 ⟨a3, c3, rfl, f3⟩
      have B3 := B2.kept f3.below
      have b3 : Below w.heap.size w W3 := b2.trans (f3.below.mono b2.size)
      have s3 : W1.heap.size ≤ W3.heap.size := Nat.le_trans s2 f3.below.size
      have O3 := owns_le (B' := W1.heap.size) s2 f3.owns
      have y3 := f3.row.bytes
      refine hK.out _ _ (by exact ⟨B3, HC.out _ B3⟩) (fun hHeld => ?_)
      clear hK K
      try simp only [Act.put, List.setIfInBounds_toArray, List.set_cons_zero, List.set_cons_succ]
      refine wpAnyH_ready (rs := [8]) (by kernel_rfl) (by simp) ?_
      refine AllReadyH.cons (o := { dst := some 43, op := Op.buildSlice 28 2 #[(0, .const (.int .u8 0)), (1, .const (.int .u8 0))], type := 28, pos := "build.go:51", after := #[], guard := none }) rfl (fun K hK => ?_) AllReadyH.nil
      obtain ⟨W4, hA⟩ : ∃ W, W3.alloc (.cells #[.int .u8 0, .int .u8 0] 5) = W := ⟨_, rfl⟩
      have b4 : Below w.heap.size w W4 := by rw [← hA]; exact b3.alloc b3.size _
      have B4 := B3.alloc (.cells #[.int .u8 0, .int .u8 0] 5)
      have q4 := row_at W3 5 [0, 0] W3.heap.size rfl (by simp) bytes_00
      have s4 : W1.heap.size ≤ W4.heap.size := by rw [← hA]; simp only [World.size_alloc]; omega
      have al4 : Below W3.heap.size W3 W4 := by rw [← hA]; exact (Below.refl _ _).alloc (Nat.le_refl _) _
      have O4 := O3.alloc (.cells #[.int .u8 0, .int .u8 0] 5)
      rw [hA] at O4
      go_simp
      replace q4 : Row W4 (some ⟨W3.heap.size, 0, none⟩) [0, 0] := by rw [← hA]; exact q4
      rw [hA] at B4
      obtain ⟨G, hG⟩ : ∃ G, W3.heap.size = G := ⟨_, rfl⟩
      rw [hG] at q4 ⊢
      refine hK.out _ _ (by exact ⟨B4, HC.out _ B4⟩) (fun hHeld => ?_)
      clear hK K hG hA
      try simp only [Act.put, List.setIfInBounds_toArray, List.set_cons_zero, List.set_cons_succ]
      refine wpAnyH_ready (rs := [9]) (by kernel_rfl) (by simp) ?_
      refine AllReadyH.cons (o := { dst := some 44, op := Op.call { callee := Callee.builtin Builtin.append, args := #[.tmp 42, .tmp 43], argTypes := #[28, 28] }, type := 28, pos := "build.go:51", after := #[{ on := 7, ground := Ground.data }, { on := 8, ground := Ground.data }, { on := 7, ground := Ground.chain }], guard := none }) rfl (fun K hK => ?_) AllReadyH.nil
      refine step_app2 _ rfl _ _ rfl W1.heap.size _ L1 rfl O4 y3 _ 2 2 [0, 0] (by rfl) rfl q4 (fun hh => by cases hh) L2 HL2.out (by omega) s4 ?_
      intro a9 c9 W9 O9 rm9 nl9 r9 bb
      have b9 : Below w.heap.size w W9 := b4.trans (bb.mono b1.size)
      have B9 := B4.below bb g1
      refine hK.out _ _ (by exact ⟨B9, HC.out _ B9⟩) (fun hHeld => ?_)
      clear hK K
      try simp only [Act.put, List.setIfInBounds_toArray, List.set_cons_zero, List.set_cons_succ]
      refine wpAnyH_take (i := 10) (oi := { dst := some 2, op := Op.assign (.tmp 44), type := 28, pos := "build.go:51", after := #[{ on := 9, ground := Ground.data }, { on := 9, ground := Ground.chain }, { on := 0, ground := Ground.phase }, { on := 1, ground := Ground.phase }, { on := 2, ground := Ground.phase }, { on := 3, ground := Ground.phase }, { on := 4, ground := Ground.phase }, { on := 5, ground := Ground.phase }, { on := 6, ground := Ground.phase }, { on := 7, ground := Ground.phase }, { on := 8, ground := Ground.phase }, { on := 9, ground := Ground.phase }], guard := none }) (v := (.slice a9 L2.length c9)) rfl (by kernel_rfl) (by kernel_rfl) (by kernel_rfl) (fun _ _ _ h => h) (Or.inl ⟨by rfl, ?_⟩) hHeld ?_
      · intro w9 hSw
        try dsimp only at hSw
        go_simp
      try simp only [Act.put, List.setIfInBounds_toArray, List.set_cons_zero, List.set_cons_succ]
      refine wpAnyH_take (i := 11) (oi := { dst := some 3, op := Op.assign (.const (.int .i64 6)), type := 3, pos := "build.go:51", after := #[{ on := 10, ground := Ground.chain }, { on := 0, ground := Ground.phase }, { on := 1, ground := Ground.phase }, { on := 2, ground := Ground.phase }, { on := 3, ground := Ground.phase }, { on := 4, ground := Ground.phase }, { on := 5, ground := Ground.phase }, { on := 6, ground := Ground.phase }, { on := 7, ground := Ground.phase }, { on := 8, ground := Ground.phase }, { on := 9, ground := Ground.phase }, { on := 10, ground := Ground.phase }], guard := none }) (v := (.int .i64 6)) rfl (by kernel_rfl) (by kernel_rfl) (by kernel_rfl) (fun _ _ _ h => h) (Or.inl ⟨by rfl, ?_⟩) hHeld ?_
      · intro w9 hSw
        try dsimp only at hSw
        go_simp
      try simp only [Act.put, List.setIfInBounds_toArray, List.set_cons_zero, List.set_cons_succ]
      refine wpAnyH_done (by kernel_rfl) ?_ _
      refine NoPanic.normal ?_
      go_wp2
      go_ret2
      exact ⟨a9, c9, rfl, owns_le b1.size O9, rm9, nl9, r9, b9⟩
    · obtain ⟨W3, hA⟩ : ∃ W, W2.alloc (.cells #[.int .u8 0, .int .u8 0] 5) = W := ⟨_, rfl⟩
      have b3 : Below w.heap.size w W3 := by rw [← hA]; exact b2.alloc b2.size _
      have B3 := B2.alloc (.cells #[.int .u8 0, .int .u8 0] 5)
      have q3 := row_at W2 5 [0, 0] W2.heap.size rfl (by simp) bytes_00
      have s3 : W1.heap.size ≤ W3.heap.size := by rw [← hA]; simp only [World.size_alloc]; omega
      have al3 : Below W2.heap.size W2 W3 := by rw [← hA]; exact (Below.refl _ _).alloc (Nat.le_refl _) _
      go_simp
      replace q3 : Row W3 (some ⟨W2.heap.size, 0, none⟩) [0, 0] := by rw [← hA]; exact q3
      rw [hA] at B3
      obtain ⟨G, hG⟩ : ∃ G, W2.heap.size = G := ⟨_, rfl⟩
      rw [hG] at q3 ⊢
      refine hK.out _ _ (by exact ⟨B3, HC.out _ B3⟩) (fun hHeld => ?_)
      clear hK K hG hA
      try simp only [Act.put, List.setIfInBounds_toArray, List.set_cons_zero, List.set_cons_succ]
      refine wpAnyH_ready (rs := [7]) (by kernel_rfl) (by simp) ?_
      refine AllReadyH.cons (o := { dst := some 42, op := Op.call { callee := Callee.value (.func 26), args := #[.tmp 37, .tmp 41], argTypes := #[28, 3] }, type := 28, pos := "build.go:51", after := #[{ on := 2, ground := Ground.data }, { on := 6, ground := Ground.data }, { on := 2, ground := Ground.chain }], guard := none }) rfl (fun K hK => ?_) AllReadyH.nil
      go_simp
      refine Calls.mono (K1.out _ _ _ (f2.row.below al3) f2.nil) ?_
      rintro e W4 ⟨a4, c4, rfl, f4⟩
      have B4 := B3.kept f4.below
      have b4 : Below w.heap.size w W4 := b3.trans (f4.below.mono b3.size)
      have s4 : W1.heap.size ≤ W4.heap.size := Nat.le_trans s3 f4.below.size
      have O4 := owns_le (B' := W1.heap.size) s3 f4.owns
      have y4 := f4.row.bytes
      have q4 := q3.below f4.below
      refine hK.out _ _ (by exact ⟨B4, HC.out _ B4⟩) (fun hHeld => ?_)
      clear hK K
      try simp only [Act.put, List.setIfInBounds_toArray, List.set_cons_zero, List.set_cons_succ]
      refine wpAnyH_ready (rs := [9]) (by kernel_rfl) (by simp) ?_
      refine AllReadyH.cons (o := { dst := some 44, op := Op.call { callee := Callee.builtin Builtin.append, args := #[.tmp 42, .tmp 43], argTypes := #[28, 28] }, type := 28, pos := "build.go:51", after := #[{ on := 7, ground := Ground.data }, { on := 8, ground := Ground.data }, { on := 7, ground := Ground.chain }], guard := none }) rfl (fun K hK => ?_) AllReadyH.nil
      refine step_app2 _ rfl _ _ rfl W1.heap.size _ L1 rfl O4 y4 _ 2 2 [0, 0] (by rfl) rfl q4 (fun hh => by cases hh) L2 HL2.out (by omega) s4 ?_
      intro a9 c9 W9 O9 rm9 nl9 r9 bb
      have b9 : Below w.heap.size w W9 := b4.trans (bb.mono b1.size)
      have B9 := B4.below bb g1
      refine hK.out _ _ (by exact ⟨B9, HC.out _ B9⟩) (fun hHeld => ?_)
      clear hK K
      try simp only [Act.put, List.setIfInBounds_toArray, List.set_cons_zero, List.set_cons_succ]
      refine wpAnyH_take (i := 10) (oi := { dst := some 2, op := Op.assign (.tmp 44), type := 28, pos := "build.go:51", after := #[{ on := 9, ground := Ground.data }, { on := 9, ground := Ground.chain }, { on := 0, ground := Ground.phase }, { on := 1, ground := Ground.phase }, { on := 2, ground := Ground.phase }, { on := 3, ground := Ground.phase }, { on := 4, ground := Ground.phase }, { on := 5, ground := Ground.phase }, { on := 6, ground := Ground.phase }, { on := 7, ground := Ground.phase }, { on := 8, ground := Ground.phase }, { on := 9, ground := Ground.phase }], guard := none }) (v := (.slice a9 L2.length c9)) rfl (by kernel_rfl) (by kernel_rfl) (by kernel_rfl) (fun _ _ _ h => h) (Or.inl ⟨by rfl, ?_⟩) hHeld ?_
      · intro w9 hSw
        try dsimp only at hSw
        go_simp
      try simp only [Act.put, List.setIfInBounds_toArray, List.set_cons_zero, List.set_cons_succ]
      refine wpAnyH_take (i := 11) (oi := { dst := some 3, op := Op.assign (.const (.int .i64 6)), type := 3, pos := "build.go:51", after := #[{ on := 10, ground := Ground.chain }, { on := 0, ground := Ground.phase }, { on := 1, ground := Ground.phase }, { on := 2, ground := Ground.phase }, { on := 3, ground := Ground.phase }, { on := 4, ground := Ground.phase }, { on := 5, ground := Ground.phase }, { on := 6, ground := Ground.phase }, { on := 7, ground := Ground.phase }, { on := 8, ground := Ground.phase }, { on := 9, ground := Ground.phase }, { on := 10, ground := Ground.phase }], guard := none }) (v := (.int .i64 6)) rfl (by kernel_rfl) (by kernel_rfl) (by kernel_rfl) (fun _ _ _ h => h) (Or.inl ⟨by rfl, ?_⟩) hHeld ?_
      · intro w9 hSw
        try dsimp only at hSw
        go_simp
      try simp only [Act.put, List.setIfInBounds_toArray, List.set_cons_zero, List.set_cons_succ]
      refine wpAnyH_done (by kernel_rfl) ?_ _
      refine NoPanic.normal ?_
      go_wp2
      go_ret2
      exact ⟨a9, c9, rfl, owns_le b1.size O9, rm9, nl9, r9, b9⟩
  · obtain ⟨W2, hA⟩ : ∃ W, W1x.alloc (.cells #[.int .u8 0, .int .u8 0] 5) = W := ⟨_, rfl⟩
    have b2 : Below w.heap.size w W2 := by rw [← hA]; exact b1x.alloc b1x.size _
    have B2 := B1x.alloc (.cells #[.int .u8 0, .int .u8 0] 5)
    have q2 := row_at W1x 5 [0, 0] W1x.heap.size rfl (by simp) bytes_00
    have s2 : W1.heap.size ≤ W2.heap.size := by rw [← hA]; simp only [World.size_alloc]; omega
    have al2 : Below W1x.heap.size W1x W2 := by rw [← hA]; exact (Below.refl _ _).alloc (Nat.le_refl _) _
    go_simp
    replace q2 : Row W2 (some ⟨W1x.heap.size, 0, none⟩) [0, 0] := by rw [← hA]; exact q2
    rw [hA] at B2
    obtain ⟨G, hG⟩ : ∃ G, W1x.heap.size = G := ⟨_, rfl⟩
    rw [hG] at q2 ⊢
    refine hK.out _ _ (by exact ⟨B2, HC.out _ B2⟩) (fun hHeld => ?_)
    clear hK K hG hA
    try simp only [Act.put, List.setIfInBounds_toArray, List.set_cons_zero, List.set_cons_succ]
    refine wpAnyH_ready (rs := [2]) (by kernel_rfl) (by simp) ?_
    refine AllReadyH.cons (o := { dst := some 37, op := Op.call { callee := Callee.value (.func 63), args := #[.tmp 36], argTypes := #[26] }, type := 28, pos := "build.go:51", after := #[{ on := 1, ground := Ground.data }], guard := none }) rfl (fun K hK => ?_) AllReadyH.nil
    go_simp
    refine Calls.mono (KP.out _) ?_
    rintro e W3 ⟨a3, c3, rfl, f3⟩
    have B3 := B2.kept f3.below
    have b3 : Below w.heap.size w W3 := b2.trans (f3.below.mono b2.size)
    have s3 : W1.heap.size ≤ W3.heap.size := Nat.le_trans s2 f3.below.size
    have q3 := q2.below f3.below
    refine hK.out _ _ (by exact ⟨B3, HC.out _ B3⟩) (fun hHeld => ?_)
    clear hK K
    try simp only [Act.put, List.setIfInBounds_toArray, List.set_cons_zero, List.set_cons_succ]
    refine wpAnyH_ready (rs := [7]) (by kernel_rfl) (by simp) ?_
    refine AllReadyH.cons (o := { dst := some 42, op := Op.call { callee := Callee.value (.func 26), args := #[.tmp 37, .tmp 41], argTypes := #[28, 3] }, type := 28, pos := "build.go:51", after := #[{ on := 2, ground := Ground.data }, { on := 6, ground := Ground.data }, { on := 2, ground := Ground.chain }], guard := none }) rfl (fun K hK => ?_) AllReadyH.nil
    go_simp
    refine Calls.mono (K1.out _ _ _ f3.row f3.nil) ?_
    rintro e W4 ⟨a4, c4, rfl, f4⟩
    have B4 := B3.kept f4.below
    have b4 : Below w.heap.size w W4 := b3.trans (f4.below.mono b3.size)
    have s4 : W1.heap.size ≤ W4.heap.size := Nat.le_trans s3 f4.below.size
    have O4 := owns_le (B' := W1.heap.size) s3 f4.owns
    have y4 := f4.row.bytes
    have q4 := q3.below f4.below
    refine hK.out _ _ (by exact ⟨B4, HC.out _ B4⟩) (fun hHeld => ?_)
    clear hK K
    try simp only [Act.put, List.setIfInBounds_toArray, List.set_cons_zero, List.set_cons_succ]
    refine wpAnyH_ready (rs := [9]) (by kernel_rfl) (by simp) ?_
    refine AllReadyH.cons (o := { dst := some 44, op := Op.call { callee := Callee.builtin Builtin.append, args := #[.tmp 42, .tmp 43], argTypes := #[28, 28] }, type := 28, pos := "build.go:51", after := #[{ on := 7, ground := Ground.data }, { on := 8, ground := Ground.data }, { on := 7, ground := Ground.chain }], guard := none }) rfl (fun K hK => ?_) AllReadyH.nil
    refine step_app2 _ rfl _ _ rfl W1.heap.size _ L1 rfl O4 y4 _ 2 2 [0, 0] (by rfl) rfl q4 (fun hh => by cases hh) L2 HL2.out (by omega) s4 ?_
    intro a9 c9 W9 O9 rm9 nl9 r9 bb
    have b9 : Below w.heap.size w W9 := b4.trans (bb.mono b1.size)
    have B9 := B4.below bb g1
    refine hK.out _ _ (by exact ⟨B9, HC.out _ B9⟩) (fun hHeld => ?_)
    clear hK K
    try simp only [Act.put, List.setIfInBounds_toArray, List.set_cons_zero, List.set_cons_succ]
    refine wpAnyH_take (i := 10) (oi := { dst := some 2, op := Op.assign (.tmp 44), type := 28, pos := "build.go:51", after := #[{ on := 9, ground := Ground.data }, { on := 9, ground := Ground.chain }, { on := 0, ground := Ground.phase }, { on := 1, ground := Ground.phase }, { on := 2, ground := Ground.phase }, { on := 3, ground := Ground.phase }, { on := 4, ground := Ground.phase }, { on := 5, ground := Ground.phase }, { on := 6, ground := Ground.phase }, { on := 7, ground := Ground.phase }, { on := 8, ground := Ground.phase }, { on := 9, ground := Ground.phase }], guard := none }) (v := (.slice a9 L2.length c9)) rfl (by kernel_rfl) (by kernel_rfl) (by kernel_rfl) (fun _ _ _ h => h) (Or.inl ⟨by rfl, ?_⟩) hHeld ?_
    · intro w9 hSw
      try dsimp only at hSw
      go_simp
    try simp only [Act.put, List.setIfInBounds_toArray, List.set_cons_zero, List.set_cons_succ]
    refine wpAnyH_take (i := 11) (oi := { dst := some 3, op := Op.assign (.const (.int .i64 6)), type := 3, pos := "build.go:51", after := #[{ on := 10, ground := Ground.chain }, { on := 0, ground := Ground.phase }, { on := 1, ground := Ground.phase }, { on := 2, ground := Ground.phase }, { on := 3, ground := Ground.phase }, { on := 4, ground := Ground.phase }, { on := 5, ground := Ground.phase }, { on := 6, ground := Ground.phase }, { on := 7, ground := Ground.phase }, { on := 8, ground := Ground.phase }, { on := 9, ground := Ground.phase }, { on := 10, ground := Ground.phase }], guard := none }) (v := (.int .i64 6)) rfl (by kernel_rfl) (by kernel_rfl) (by kernel_rfl) (fun _ _ _ h => h) (Or.inl ⟨by rfl, ?_⟩) hHeld ?_
    · intro w9 hSw
      try dsimp only at hSw
      go_simp
    try simp only [Act.put, List.setIfInBounds_toArray, List.set_cons_zero, List.set_cons_succ]
    refine wpAnyH_done (by kernel_rfl) ?_ _
    refine NoPanic.normal ?_
    go_wp2
    go_ret2
    exact ⟨a9, c9, rfl, owns_le b1.size O9, rm9, nl9, r9, b9⟩

set_option maxRecDepth 100000 in
set_option maxHeartbeats 4000000 in
theorem written_echo (x : Sg) (a : Option Addr) (c : Nat) (w : World) (hsq : 0 ≤ x.sq ∧ x.sq ≤ 4294967295) (hak : 0 ≤ x.ak ∧ x.ak ≤ 4294967295) (hdl : x.data.length ≤ 140737488355328) (h6 : ¬ x.t.pr = 6) (h17 : ¬ x.t.pr = 17) (he : isEcho x.t.fam x.ty = true) :
    Calls Try.prog 41 #[.agg #[.int .i64 x.t.fam, .int .i64 x.t.pr, .int .i64 x.t.s.fam, .int .u64 x.t.s.hi, .int .u64 x.t.s.lo, .int .i64 x.t.d.fam, .int .u64 x.t.d.hi, .int .u64 x.t.d.lo, .int .i64 x.t.sp, .int .i64 x.t.dp, .int .i64 x.fl, .int .u32 x.sq, .int .u32 x.ak, .int .i64 x.wn, .int .i64 x.ty, .int .i64 x.cd, .bool x.er, .int .i64 x.inn.fam, .int .i64 x.inn.pr, .int .i64 x.inn.s.fam, .int .u64 x.inn.s.hi, .int .u64 x.inn.s.lo, .int .i64 x.inn.d.fam, .int .u64 x.inn.d.hi, .int .u64 x.inn.d.lo, .int .i64 x.inn.sp, .int .i64 x.inn.dp, .slice a x.data.length c]] w fun e w' => ∃ a' c', e = .returned (.tuple #[.slice a' (headB x).length c', .int .i64 (placeB x : Nat)]) ∧ Fresh w w' a' c' (headB x) := by
  obtain ⟨W1, hW1⟩ : ∃ W1, w.alloc (.cells #[.int .i64 x.t.fam, .int .i64 x.t.pr, .int .i64 x.t.s.fam, .int .u64 x.t.s.hi, .int .u64 x.t.s.lo, .int .i64 x.t.d.fam, .int .u64 x.t.d.hi, .int .u64 x.t.d.lo, .int .i64 x.t.sp, .int .i64 x.t.dp, .int .i64 x.fl, .int .u32 x.sq, .int .u32 x.ak, .int .i64 x.wn, .int .i64 x.ty, .int .i64 x.cd, .bool x.er, .int .i64 x.inn.fam, .int .i64 x.inn.pr, .int .i64 x.inn.s.fam, .int .u64 x.inn.s.hi, .int .u64 x.inn.s.lo, .int .i64 x.inn.d.fam, .int .u64 x.inn.d.hi, .int .u64 x.inn.d.lo, .int .i64 x.inn.sp, .int .i64 x.inn.dp, .slice a x.data.length c] 38) = W1 := ⟨_, rfl⟩
  have b1 : Below w.heap.size w W1 := by rw [← hW1]; exact (Below.refl _ _).alloc (Nat.le_refl _) _
  have B1 : Blk W1 w.heap.size 38 #[.int .i64 x.t.fam, .int .i64 x.t.pr, .int .i64 x.t.s.fam, .int .u64 x.t.s.hi, .int .u64 x.t.s.lo, .int .i64 x.t.d.fam, .int .u64 x.t.d.hi, .int .u64 x.t.d.lo, .int .i64 x.t.sp, .int .i64 x.t.dp, .int .i64 x.fl, .int .u32 x.sq, .int .u32 x.ak, .int .i64 x.wn, .int .i64 x.ty, .int .i64 x.cd, .bool x.er, .int .i64 x.inn.fam, .int .i64 x.inn.pr, .int .i64 x.inn.s.fam, .int .u64 x.inn.s.hi, .int .u64 x.inn.s.lo, .int .i64 x.inn.d.fam, .int .u64 x.inn.d.hi, .int .u64 x.inn.d.lo, .int .i64 x.inn.sp, .int .i64 x.inn.dp, .slice a x.data.length c] := by rw [← hW1]; exact blk_new _ _ _
  have g1 : w.heap.size < W1.heap.size := B1.lt
  have d1 := B1.cell 1 (.int .i64 x.t.pr) rfl
  have KP : Hid _ := portBytes_any x
  have d0 := B1.cell 0 (.int .i64 x.t.fam) rfl
  have d8 := B1.cell 8 (.int .i64 x.t.sp) rfl
  have d14 := B1.cell 14 (.int .i64 x.ty) rfl
  have d15 := B1.cell 15 (.int .i64 x.cd) rfl
  have e6 : (x.t.pr == 6) = false := by simpa using h6
  have e17 : (x.t.pr == 17) = false := by simpa using h17
  have eP : placeB x = 2 := by unfold placeB; rw [if_neg h6, if_neg h17]
  have eH : headB x = put16 [x.ty % 256, x.cd % 256, 0, 0] x.t.sp ++ [0, 0] := by unfold headB; rw [if_neg h6, if_neg h17, he]; rfl
  rw [eP, eH]
  obtain ⟨L1, h1⟩ : ∃ L, put16 [x.ty % 256, x.cd % 256, 0, 0] x.t.sp = L := ⟨_, rfl⟩
  have l1 : L1.length = 6 := by rw [← h1]; simp [put16]
  obtain ⟨L2, h2⟩ : ∃ L, L1 ++ [0, 0] = L := ⟨_, rfl⟩
  have l2 : L2.length = 8 := by rw [← h2]; simp [l1]
  rw [h1, h2]
  have K1 : Hid (∀ W a c, Row W a [x.ty % 256, x.cd % 256, 0, 0] → (a = none → c = 0) → Calls Try.prog 26 #[.slice a 4 c, .int .i64 x.t.sp] W fun e w' => ∃ a' c', e = .returned (.slice a' L1.length c') ∧ Fresh W w' a' c' L1) := fun W a c hr hn => by
    have := put16_any a c [x.ty % 256, x.cd % 256, 0, 0] x.t.sp W hr hn (by simp)
    rw [h1] at this
    exact this
  have KE : Hid (∀ W, Calls Try.prog 64 #[.int .i64 x.t.fam, .int .i64 x.ty] W fun e w' => e = .returned (.bool true) ∧ w' = W) := fun W => by
    have := isEcho_any x.t.fam x.ty W
    rw [he] at this
    exact this
  have HL2 : Hid (L1 ++ [0, 0] = L2) := h2
  have l2' : L2.length ≤ 8 := by omega
  have wty := wrapU8 x.ty
  have wcd := wrapU8 x.cd
  clear h1 h2 l1 l2 eP eH h6 h17 he KP
  go_enter Try.func41, Try.ntmps41
  go_wp2_with fail
  refine Calls.mono (KE.out _) ?_
  rintro e W2 ⟨rfl, hW2⟩
  rw [hW2]
  clear hW2 W2 KE
  go_wp2_with fail
  refine Calls.mono (K1.out _ _ _ (row_at W1 5 [x.ty % 256, x.cd % 256, 0, 0] W1.heap.size rfl (by simp) (bytes_icmp x.ty x.cd)) (fun hh => by cases hh)) ?_
  rintro e W7 ⟨a7, c7, rfl, f7⟩
  have bx := b1.alloc b1.size (.cells #[.int .u8 (x.ty % 256), .int .u8 (x.cd % 256), .int .u8 0, .int .u8 0] 5)
  have b7 : Below w.heap.size w W7 := bx.trans (f7.below.mono bx.size)
  have OW := owns_le bx.size f7.owns
  have rb := f7.row.bytes
  clear K1 f7 bx B1 d0 d8 d14 d15 d1 hW1
  go_wp2_with (at_builtin; refine wpList_app2 _ rfl _ _ rfl w.heap.size _ L1 rfl (OW.alloc _) rb _ 2 [0, 0] rfl ?row (fun hh => by cases hh) L2 HL2.out ?c1 ?c2 ?_)
  case row => exact row_at W7 5 [0, 0] W7.heap.size rfl (by simp) bytes_00
  case c1 => omega
  case c2 => exact Nat.le_trans b7.size (by simp)
  intro a8 c8 W8 o8 rm8 nl8 r8 bb _
  have b8 : Below w.heap.size w W8 := (b7.alloc b7.size _).trans bb
  go_wp2
  go_ret2
  exact ⟨a8, c8, rfl, o8, rm8, nl8, r8, b8⟩

set_option maxRecDepth 100000 in
set_option maxHeartbeats 4000000 in
theorem written_mute (x : Sg) (a : Option Addr) (c : Nat) (w : World) (hsq : 0 ≤ x.sq ∧ x.sq ≤ 4294967295) (hak : 0 ≤ x.ak ∧ x.ak ≤ 4294967295) (hdl : x.data.length ≤ 140737488355328) (h6 : ¬ x.t.pr = 6) (h17 : ¬ x.t.pr = 17) (he : isEcho x.t.fam x.ty = false) :
    Calls Try.prog 41 #[.agg #[.int .i64 x.t.fam, .int .i64 x.t.pr, .int .i64 x.t.s.fam, .int .u64 x.t.s.hi, .int .u64 x.t.s.lo, .int .i64 x.t.d.fam, .int .u64 x.t.d.hi, .int .u64 x.t.d.lo, .int .i64 x.t.sp, .int .i64 x.t.dp, .int .i64 x.fl, .int .u32 x.sq, .int .u32 x.ak, .int .i64 x.wn, .int .i64 x.ty, .int .i64 x.cd, .bool x.er, .int .i64 x.inn.fam, .int .i64 x.inn.pr, .int .i64 x.inn.s.fam, .int .u64 x.inn.s.hi, .int .u64 x.inn.s.lo, .int .i64 x.inn.d.fam, .int .u64 x.inn.d.hi, .int .u64 x.inn.d.lo, .int .i64 x.inn.sp, .int .i64 x.inn.dp, .slice a x.data.length c]] w fun e w' => ∃ a' c', e = .returned (.tuple #[.slice a' (headB x).length c', .int .i64 (placeB x : Nat)]) ∧ Fresh w w' a' c' (headB x) := by
  obtain ⟨W1, hW1⟩ : ∃ W1, w.alloc (.cells #[.int .i64 x.t.fam, .int .i64 x.t.pr, .int .i64 x.t.s.fam, .int .u64 x.t.s.hi, .int .u64 x.t.s.lo, .int .i64 x.t.d.fam, .int .u64 x.t.d.hi, .int .u64 x.t.d.lo, .int .i64 x.t.sp, .int .i64 x.t.dp, .int .i64 x.fl, .int .u32 x.sq, .int .u32 x.ak, .int .i64 x.wn, .int .i64 x.ty, .int .i64 x.cd, .bool x.er, .int .i64 x.inn.fam, .int .i64 x.inn.pr, .int .i64 x.inn.s.fam, .int .u64 x.inn.s.hi, .int .u64 x.inn.s.lo, .int .i64 x.inn.d.fam, .int .u64 x.inn.d.hi, .int .u64 x.inn.d.lo, .int .i64 x.inn.sp, .int .i64 x.inn.dp, .slice a x.data.length c] 38) = W1 := ⟨_, rfl⟩
  have b1 : Below w.heap.size w W1 := by rw [← hW1]; exact (Below.refl _ _).alloc (Nat.le_refl _) _
  have B1 : Blk W1 w.heap.size 38 #[.int .i64 x.t.fam, .int .i64 x.t.pr, .int .i64 x.t.s.fam, .int .u64 x.t.s.hi, .int .u64 x.t.s.lo, .int .i64 x.t.d.fam, .int .u64 x.t.d.hi, .int .u64 x.t.d.lo, .int .i64 x.t.sp, .int .i64 x.t.dp, .int .i64 x.fl, .int .u32 x.sq, .int .u32 x.ak, .int .i64 x.wn, .int .i64 x.ty, .int .i64 x.cd, .bool x.er, .int .i64 x.inn.fam, .int .i64 x.inn.pr, .int .i64 x.inn.s.fam, .int .u64 x.inn.s.hi, .int .u64 x.inn.s.lo, .int .i64 x.inn.d.fam, .int .u64 x.inn.d.hi, .int .u64 x.inn.d.lo, .int .i64 x.inn.sp, .int .i64 x.inn.dp, .slice a x.data.length c] := by rw [← hW1]; exact blk_new _ _ _
  have g1 : w.heap.size < W1.heap.size := B1.lt
  have d1 := B1.cell 1 (.int .i64 x.t.pr) rfl
  have KP : Hid _ := portBytes_any x
  have d0 := B1.cell 0 (.int .i64 x.t.fam) rfl
  have d8 := B1.cell 8 (.int .i64 x.t.sp) rfl
  have d14 := B1.cell 14 (.int .i64 x.ty) rfl
  have d15 := B1.cell 15 (.int .i64 x.cd) rfl
  have e6 : (x.t.pr == 6) = false := by simpa using h6
  have e17 : (x.t.pr == 17) = false := by simpa using h17
  have eP : placeB x = 2 := by unfold placeB; rw [if_neg h6, if_neg h17]
  have eH : headB x = put16 [x.ty % 256, x.cd % 256, 0, 0] 0 ++ [0, 0] := by unfold headB; rw [if_neg h6, if_neg h17, he]; rfl
  rw [eP, eH]
  obtain ⟨L1, h1⟩ : ∃ L, put16 [x.ty % 256, x.cd % 256, 0, 0] 0 = L := ⟨_, rfl⟩
  have l1 : L1.length = 6 := by rw [← h1]; simp [put16]
  obtain ⟨L2, h2⟩ : ∃ L, L1 ++ [0, 0] = L := ⟨_, rfl⟩
  have l2 : L2.length = 8 := by rw [← h2]; simp [l1]
  rw [h1, h2]
  have K1 : Hid (∀ W a c, Row W a [x.ty % 256, x.cd % 256, 0, 0] → (a = none → c = 0) → Calls Try.prog 26 #[.slice a 4 c, .int .i64 0] W fun e w' => ∃ a' c', e = .returned (.slice a' L1.length c') ∧ Fresh W w' a' c' L1) := fun W a c hr hn => by
    have := put16_any a c [x.ty % 256, x.cd % 256, 0, 0] 0 W hr hn (by simp)
    rw [h1] at this
    exact this
  have KE : Hid (∀ W, Calls Try.prog 64 #[.int .i64 x.t.fam, .int .i64 x.ty] W fun e w' => e = .returned (.bool false) ∧ w' = W) := fun W => by
    have := isEcho_any x.t.fam x.ty W
    rw [he] at this
    exact this
  have HL2 : Hid (L1 ++ [0, 0] = L2) := h2
  have l2' : L2.length ≤ 8 := by omega
  have wty := wrapU8 x.ty
  have wcd := wrapU8 x.cd
  clear h1 h2 l1 l2 eP eH h6 h17 he KP
  go_enter Try.func41, Try.ntmps41
  go_wp2_with fail
  refine Calls.mono (KE.out _) ?_
  rintro e W2 ⟨rfl, hW2⟩
  rw [hW2]
  clear hW2 W2 KE
  go_wp2_with fail
  refine Calls.mono (K1.out _ _ _ (row_at W1 5 [x.ty % 256, x.cd % 256, 0, 0] W1.heap.size rfl (by simp) (bytes_icmp x.ty x.cd)) (fun hh => by cases hh)) ?_
  rintro e W7 ⟨a7, c7, rfl, f7⟩
  have bx := b1.alloc b1.size (.cells #[.int .u8 (x.ty % 256), .int .u8 (x.cd % 256), .int .u8 0, .int .u8 0] 5)
  have b7 : Below w.heap.size w W7 := bx.trans (f7.below.mono bx.size)
  have OW := owns_le bx.size f7.owns
  have rb := f7.row.bytes
  clear K1 f7 bx B1 d0 d8 d14 d15 d1 hW1
  go_wp2_with (at_builtin; refine wpList_app2 _ rfl _ _ rfl w.heap.size _ L1 rfl (OW.alloc _) rb _ 2 [0, 0] rfl ?row (fun hh => by cases hh) L2 HL2.out ?c1 ?c2 ?_)
  case row => exact row_at W7 5 [0, 0] W7.heap.size rfl (by simp) bytes_00
  case c1 => omega
  case c2 => exact Nat.le_trans b7.size (by simp)
  intro a8 c8 W8 o8 rm8 nl8 r8 bb _
  have b8 : Below w.heap.size w W8 := (b7.alloc b7.size _).trans bb
  go_wp2
  go_ret2
  exact ⟨a8, c8, rfl, o8, rm8, nl8, r8, b8⟩

theorem written_any (x : Sg) (a : Option Addr) (c : Nat) (w : World) (hsq : 0 ≤ x.sq ∧ x.sq ≤ 4294967295) (hak : 0 ≤ x.ak ∧ x.ak ≤ 4294967295) (hdl : x.data.length ≤ 140737488355328) :
    Calls Try.prog 41 #[.agg #[.int .i64 x.t.fam, .int .i64 x.t.pr, .int .i64 x.t.s.fam, .int .u64 x.t.s.hi, .int .u64 x.t.s.lo, .int .i64 x.t.d.fam, .int .u64 x.t.d.hi, .int .u64 x.t.d.lo, .int .i64 x.t.sp, .int .i64 x.t.dp, .int .i64 x.fl, .int .u32 x.sq, .int .u32 x.ak, .int .i64 x.wn, .int .i64 x.ty, .int .i64 x.cd, .bool x.er, .int .i64 x.inn.fam, .int .i64 x.inn.pr, .int .i64 x.inn.s.fam, .int .u64 x.inn.s.hi, .int .u64 x.inn.s.lo, .int .i64 x.inn.d.fam, .int .u64 x.inn.d.hi, .int .u64 x.inn.d.lo, .int .i64 x.inn.sp, .int .i64 x.inn.dp, .slice a x.data.length c]] w fun e w' => ∃ a' c', e = .returned (.tuple #[.slice a' (headB x).length c', .int .i64 (placeB x : Nat)]) ∧ Fresh w w' a' c' (headB x) := by
  by_cases h6 : x.t.pr = 6
  · exact written_tcp x a c w hsq hak hdl h6
  by_cases h17 : x.t.pr = 17
  · exact written_udp x a c w hsq hak hdl h6 h17
  cases he : isEcho x.t.fam x.ty with
  | true => exact written_echo x a c w hsq hak hdl h6 h17 he
  | false => exact written_mute x a c w hsq hak hdl h6 h17 he

end Go.Proofs.Ytgdpcomcndidcaa
