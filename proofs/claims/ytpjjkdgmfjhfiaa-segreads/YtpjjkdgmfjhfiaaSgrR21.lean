/- Texts joined: SgQ -/
import Derived.Test.YtpjjkdgmfjhfiaaSgrR20
namespace Go.Proofs.Ytpjjkdgmfjhfiaa
abbrev sgrR21o0 : Oper := { dst := some 4, op := Op.assign (.tmp 22), type := 60, pos := "parse.go:20", after := #[{ on := 7, ground := Ground.data }, { on := 2, ground := Ground.chain }, { on := 0, ground := Ground.phase }, { on := 1, ground := Ground.phase }, { on := 2, ground := Ground.phase }, { on := 3, ground := Ground.phase }, { on := 4, ground := Ground.phase }, { on := 5, ground := Ground.phase }, { on := 6, ground := Ground.phase }, { on := 7, ground := Ground.phase }, { on := 8, ground := Ground.textOnly Departure.lateStores }], guard := none }
abbrev sgrR21o1 : Oper := { dst := some 5, op := Op.assign (.tmp 23), type := 4, pos := "parse.go:20", after := #[{ on := 8, ground := Ground.data }, { on := 9, ground := Ground.chain }, { on := 0, ground := Ground.phase }, { on := 1, ground := Ground.phase }, { on := 2, ground := Ground.phase }, { on := 3, ground := Ground.phase }, { on := 4, ground := Ground.phase }, { on := 5, ground := Ground.phase }, { on := 6, ground := Ground.phase }, { on := 7, ground := Ground.phase }, { on := 8, ground := Ground.phase }, { on := 9, ground := Ground.phase }], guard := none }
abbrev sgrR21o2 : Oper := { dst := some 21, op := Op.lookup 62 (.tmp 18) (.tmp 20) true, type := 61, pos := "parse.go:20", after := #[{ on := 2, ground := Ground.data }, { on := 4, ground := Ground.data }], guard := none }
abbrev sgrR21o3 : Oper := { dst := some 18, op := Op.call { callee := Callee.value (.func 33), args := #[.tmp 17], argTypes := #[3] }, type := 62, pos := "parse.go:20", after := #[{ on := 1, ground := Ground.data }], guard := none }
abbrev sgrR21o4 : Oper := { dst := some 23, op := Op.extract (.tmp 15) 1, type := 4, pos := "parse.go:20", after := #[{ on := 6, ground := Ground.data }, { on := 9, ground := Ground.gcOnly Departure.lateStores }], guard := none }
abbrev sgrR21o5 : Oper := { dst := some 15, op := Op.move (.tmp 21), type := 61, pos := "parse.go:20", after := #[{ on := 5, ground := Ground.data }], guard := none }
abbrev sgrR21o6 : Oper := { dst := some 22, op := Op.extract (.tmp 15) 0, type := 60, pos := "parse.go:20", after := #[{ on := 6, ground := Ground.data }], guard := none }
abbrev sgrR21o7 : Oper := { dst := some 17, op := Op.load 3 (.tmp 16), type := 3, pos := "parse.go:20", after := #[{ on := 0, ground := Ground.data }], guard := none }
abbrev sgrR21o8 : Oper := { dst := some 20, op := Op.load 3 (.tmp 19), type := 3, pos := "parse.go:20", after := #[{ on := 3, ground := Ground.data }], guard := none }
abbrev sgrR21o9 : Oper := { dst := some 16, op := Op.fieldAddr 36 (.tmp 1) 0, type := 0, pos := "parse.go:20", after := #[], guard := none }
abbrev sgrR21o10 : Oper := { dst := some 19, op := Op.fieldAddr 36 (.tmp 1) 3, type := 0, pos := "parse.go:20", after := #[], guard := none }
end Go.Proofs.Ytpjjkdgmfjhfiaa
namespace Go.Proofs.Ytpjjkdgmfjhfiaa
open Go.RowKit Go.Maps
set_option linter.unusedVariables false
set_option linter.unusedSimpArgs false
/-- What Parse answers. -/
def segE (f pr : Int) (s d : Ad) (l : List Int) : Int :=
  if endsB f s d = false then 1 else if pr = 6 then tcpE f pr s d l else if pr = 17 then udpE f pr s d l else if pr = icmpOf f then icmpE f pr s d l else 9
def segX (f pr : Int) (s d : Ad) (l : List Int) : Sg :=
  if segE f pr s d l = 0 then (if pr = 6 then tcpX f pr s d l else if pr = 17 then udpX f pr s d l else icmpX f pr s d l) else zSg
theorem step_look {ops : Array Oper} {o : Oper} {ac : Act} {K : Act → World → Prop} {Q : Exit → Act → World → Prop} {Z : Prop} {w : World} (hgd : o.guard = none) (m k : Operand) (ho : o.op = Op.lookup 62 m k true) (v1 v2 r : Value)
    (hm : ac.eval m = v1) (hk : ac.eval k = v2) (hrun : (Instr.lookup 62 v1 v2 true).run Try.prog w = .ok r w) (h : K (ac.put o.dst r) w) :
    if Region.wanted o (yielded ops ac.tmps) = true then Oper.wp Try.prog o ac w K Q else Z := by
  have hw : Region.wanted o (yielded ops ac.tmps) = true := by simp [Region.wanted, hgd]
  rw [if_pos hw]
  simp [Oper.wp, Oper.upon, execOp, ho, hm, hk, hrun, Result.andThen]
  exact h
theorem icmp_any (f sf sh sl df dh dl pr ho : Int) (fg : Bool) (id of : Int) (mo : Bool) (xa : Option Addr) (xn xc : Nat) (da : Option Addr) (dc : Nat) (l : List Int) (w : World) (h : Row w da l) (hnil : da = none → dc = 0) (hc : l.length ≤ dc) (hcm : dc ≤ 9223372036854775807) (hll : l.length ≤ 140737488351232) (hs : Ad.ok ⟨sf, sh, sl⟩) (hd : Ad.ok ⟨df, dh, dl⟩) :
    Calls Try.prog 58 #[.agg (sRa f sf sh sl df dh dl pr ho fg id of mo xa xn xc da l.length dc)] w (GotS w (icmpE f pr ⟨sf, sh, sl⟩ ⟨df, dh, dl⟩ l) (if icmpE f pr ⟨sf, sh, sl⟩ ⟨df, dh, dl⟩ l = 0 then icmpX f pr ⟨sf, sh, sl⟩ ⟨df, dh, dl⟩ l else zSg)) := by
  obtain ⟨E, hE⟩ : ∃ E, icmpE f pr ⟨sf, sh, sl⟩ ⟨df, dh, dl⟩ l = E := ⟨_, rfl⟩
  rw [hE]
  unfold icmpE at hE
  split at hE
  · rename_i h8
    subst hE
    exact icmp_e2 f sf sh sl df dh dl pr ho fg id of mo xa xn xc da dc l w h hnil hc hcm hs hd h8
  rename_i h8
  obtain ⟨bk, off, rfl, _⟩ := h.cells (by omega)
  split at hE
  · rename_i hsum
    subst hE
    exact icmp_e6 f sf sh sl df dh dl pr ho fg id of mo xa xn xc bk off dc l w h hc hcm hs hd h8 hsum
  rename_i hsum
  have hsum : sumsB ⟨sf, sh, sl⟩ ⟨df, dh, dl⟩ pr l = true := by simpa using hsum
  split at hE
  · rename_i her
    subst hE
    exact icmp_ok0 f sf sh sl df dh dl pr ho fg id of mo xa xn xc bk off dc l w h hc hcm hs hd hll h8 hsum her
  rename_i her
  have her : isErr f (l.getD 0 0) = true := by simpa using her
  cases hin : inner f (l.drop 8) with
  | none =>
    rw [hin] at hE
    simp at hE
    subst hE
    exact icmp_e4 f sf sh sl df dh dl pr ho fg id of mo xa xn xc bk off dc l w h hc hcm hs hd hll h8 hsum her hin
  | some T =>
    rw [hin] at hE
    simp at hE
    subst hE
    exact icmp_ok1 f sf sh sl df dh dl pr ho fg id of mo xa xn xc bk off dc l w h hc hcm hs hd hll h8 hsum her T hin
theorem readers_any (f : Int) (w : World) : Calls Try.prog 33 #[.int .i64 f] w fun e w' => ∃ es G, e = .returned (.map (some G)) ∧ w'.heap[G]? = some (.map es 3) ∧ Tab (icmpOf f) es ∧ Below w.heap.size w w' := by
  unfold icmpOf
  by_cases hf : f = 4
  · rw [if_pos hf]
    exact readers_4 f w hf
  · rw [if_neg hf]
    exact readers_n f w hf
set_option maxRecDepth 100000 in
set_option maxHeartbeats 4000000 in
theorem parse_e1 (f sf sh sl df dh dl pr ho : Int) (fg : Bool) (id of : Int) (mo : Bool) (xa : Option Addr) (xn xc : Nat) (da : Option Addr) (dc : Nat) (l : List Int) (w : World) (h : Row w da l) (hnil : da = none → dc = 0) (hc : l.length ≤ dc) (hcm : dc ≤ 9223372036854775807) (hll : l.length ≤ 140737488351232) (hs : Ad.ok ⟨sf, sh, sl⟩) (hd : Ad.ok ⟨df, dh, dl⟩) (hE : endsB f ⟨sf, sh, sl⟩ ⟨df, dh, dl⟩ = false) :
    Calls Try.prog 16 #[.agg (sRa f sf sh sl df dh dl pr ho fg id of mo xa xn xc da l.length dc)] w (GotS w 1 zSg) := by
  obtain ⟨W1, hW1⟩ : ∃ W1, w.alloc (.cells (sRa f sf sh sl df dh dl pr ho fg id of mo xa xn xc da l.length dc) 36) = W1 := ⟨_, rfl⟩
  obtain ⟨W2, hW2⟩ : ∃ W2, W1.alloc (.cells (sRc 0 0 0 0 0 0 0 0 0 0 0 0 0 0 0 0 false 0 0 0 0 0 0 0 0 0 0 none 0 0) 38) = W2 := ⟨_, rfl⟩
  have b1 := bel_nw hW1
  have b2 := bel_al b1 hW2
  have B1' := blk_nw hW1
  have B1 := B1'.al hW2
  have B2 := blk_nw hW2
  have g1 : w.heap.size < W1.heap.size := B1'.lt
  clear B1'
  have d0 := B1.cell 0 (.int .i64 f) rfl
  have d1 := B1.cell 1 (.int .i64 sf) rfl
  have d2 := B1.cell 2 (.int .u64 sh) rfl
  have d3 := B1.cell 3 (.int .u64 sl) rfl
  have d4 := B1.cell 4 (.int .i64 df) rfl
  have d5 := B1.cell 5 (.int .u64 dh) rfl
  have d6 := B1.cell 6 (.int .u64 dl) rfl
  have d7 := B1.cell 7 (.int .i64 pr) rfl
  have K0 := ofFamily_any f sf sh sl df dh dl W2
  rw [hE] at K0
  have K0 : Hid _ := K0
  go_enter Try.func16, Try.ntmps16
  go_wp2_with fail
  refine Calls.mono K0.out ?_
  rintro e W3 ⟨rfl, bb⟩
  have b3 := bel_tr b2 bb
  have B3 := B1.kept bb
  have B3' := B2.kept bb
  clear K0 bb B1 B2 b2 hW1 hW2 d0 d1 d2 d3 d4 d5 d6 d7
  have hbz : (Instr.build 38 #[]).run Try.prog W3 = .ok (.agg (sRc 0 0 0 0 0 0 0 0 0 0 0 0 0 0 0 0 false 0 0 0 0 0 0 0 0 0 0 none 0 0)) W3 := by kernel_rfl
  have Bf := B3'.set (sRc 0 0 0 0 0 0 0 0 0 0 0 0 0 0 0 0 false 0 0 0 0 0 0 0 0 0 0 none 0 0)
  have bf := below_setRow b3 (Nat.le_of_lt g1) (sRc 0 0 0 0 0 0 0 0 0 0 0 0 0 0 0 0 false 0 0 0 0 0 0 0 0 0 0 none 0 0)
  go_wp2_with (first
    | (refine wpList_build _ rfl _ _ rfl _ (by rfl) _ hbz ?_)
    | (refine wpList_store_row rfl _ _ _ rfl W1.heap.size (sRc 0 0 0 0 0 0 0 0 0 0 0 0 0 0 0 0 false 0 0 0 0 0 0 0 0 0 0 none 0 0) (by rfl) (by rfl) _ _ B3' (by kernel_rfl) (by rfl) (by kernel_rfl) ?_))
  exact ret_cell_tmp (k := 2) (j := 3) Try.f16 (by kernel_rfl) Bf Try.underlying38 (by kernel_rfl) (by rfl) (by rfl) rfl ⟨none, 0, rfl, fresh_nil bf⟩
set_option maxRecDepth 100000 in
set_option maxHeartbeats 4000000 in
theorem parse_e9 (f sf sh sl df dh dl pr ho : Int) (fg : Bool) (id of : Int) (mo : Bool) (xa : Option Addr) (xn xc : Nat) (da : Option Addr) (dc : Nat) (l : List Int) (w : World) (h : Row w da l) (hnil : da = none → dc = 0) (hc : l.length ≤ dc) (hcm : dc ≤ 9223372036854775807) (hll : l.length ≤ 140737488351232) (hs : Ad.ok ⟨sf, sh, sl⟩) (hd : Ad.ok ⟨df, dh, dl⟩) (hE : endsB f ⟨sf, sh, sl⟩ ⟨df, dh, dl⟩ = true) (hfv : lookS (icmpOf f) pr = .nilFunc) (hkn : knownS (icmpOf f) pr = false) :
    Calls Try.prog 16 #[.agg (sRa f sf sh sl df dh dl pr ho fg id of mo xa xn xc da l.length dc)] w (GotS w 9 zSg) := by
  obtain ⟨W1, hW1⟩ : ∃ W1, w.alloc (.cells (sRa f sf sh sl df dh dl pr ho fg id of mo xa xn xc da l.length dc) 36) = W1 := ⟨_, rfl⟩
  obtain ⟨W2, hW2⟩ : ∃ W2, W1.alloc (.cells (sRc 0 0 0 0 0 0 0 0 0 0 0 0 0 0 0 0 false 0 0 0 0 0 0 0 0 0 0 none 0 0) 38) = W2 := ⟨_, rfl⟩
  have b1 := bel_nw hW1
  have b2 := bel_al b1 hW2
  have B1' := blk_nw hW1
  have B1 := B1'.al hW2
  have B2 := blk_nw hW2
  have g1 : w.heap.size < W1.heap.size := B1'.lt
  clear B1'
  have d0 := B1.cell 0 (.int .i64 f) rfl
  have d1 := B1.cell 1 (.int .i64 sf) rfl
  have d2 := B1.cell 2 (.int .u64 sh) rfl
  have d3 := B1.cell 3 (.int .u64 sl) rfl
  have d4 := B1.cell 4 (.int .i64 df) rfl
  have d5 := B1.cell 5 (.int .u64 dh) rfl
  have d6 := B1.cell 6 (.int .u64 dl) rfl
  have d7 := B1.cell 7 (.int .i64 pr) rfl
  have K0 := ofFamily_any f sf sh sl df dh dl W2
  rw [hE] at K0
  have K0 : Hid _ := K0
  have KR : Hid (∀ W, Calls Try.prog 33 #[.int .i64 f] W fun e w' => ∃ es G, e = .returned (.map (some G)) ∧ w'.heap[G]? = some (.map es 3) ∧ Tab (icmpOf f) es ∧ Below W.heap.size W w') := fun W => readers_any f W
  obtain ⟨I, hI⟩ : ∃ I, icmpOf f = I := ⟨_, rfl⟩
  rw [hI] at KR hfv hkn
  clear hI
  go_enter Try.func16, Try.ntmps16
  go_wp2_with fail
  refine Calls.mono K0.out ?_
  rintro e W3 ⟨rfl, bb⟩
  have b3 := bel_tr b2 bb
  have B3 := B1.kept bb
  have B3' := B2.kept bb
  clear K0 bb B1 B2 b2 hW1 hW2 d0 d1 d2 d3 d4 d5 d6 d7
  go_wp2_with fail
  refine wp_region_noPanic ?_
  refine wp_region_held_drew (S := fun w' => w'.cell? ⟨w.heap.size, 0, none⟩ = some (.int .i64 f) ∧ w'.cell? ⟨w.heap.size, 7, none⟩ = some (.int .i64 pr)) (by kernel_rfl) (by exact ⟨B3.drew.cell 0 _ rfl, B3.drew.cell 7 _ rfl⟩) (fun hHeld => ?_)
  refine tk (i := 0) (oi := sgrR21o9) (v := (.pointer (some ⟨w.heap.size, 0, none⟩))) hHeld ?_ ?_
  · intro w9 hSw
    try dsimp only at hSw
    go_simp
  try simp only [pu]
  refine tk (i := 1) (oi := sgrR21o7) (v := (.int .i64 f)) hHeld ?_ ?_
  · intro w9 hSw
    try dsimp only at hSw
    go_simp
  try simp only [pu]
  refine tk (i := 3) (oi := sgrR21o10) (v := (.pointer (some ⟨w.heap.size, 7, none⟩))) hHeld ?_ ?_
  · intro w9 hSw
    try dsimp only at hSw
    go_simp
  try simp only [pu]
  refine tk (i := 4) (oi := sgrR21o8) (v := (.int .i64 pr)) hHeld ?_ ?_
  · intro w9 hSw
    try dsimp only at hSw
    go_simp
  try simp only [pu]
  refine wpAnyH_ready (rs := [2]) (by kernel_rfl) (by simp) ?_
  refine AllReadyH.cons (o := sgrR21o3) rfl (fun K hK => ?_) AllReadyH.nil
  go_simp
  refine Calls.mono (KR.out _) ?_
  rintro e W4 ⟨es, G, rfl, hes, htab, bb⟩
  have B4 := B3.drew.kept bb
  have B4' := B3'.drew.kept bb
  have b4 : Below w.heap.size w W4 := b3.drew.trans (bb.mono b3.drew.size)
  have hlk := htab W4 G 3 pr hes
  rw [hfv, hkn] at hlk
  refine hK.out _ _ ?_ (fun hHeld => ?_)
  · exact ⟨B4.cell 0 _ rfl, B4.cell 7 _ rfl⟩
  clear hK K
  try simp only [pu]
  refine wpAnyH_ready (rs := [5]) (by kernel_rfl) (by simp) ?_
  refine AllReadyH.cons (o := sgrR21o2) rfl (fun K hK => ?_) AllReadyH.nil
  refine step_look rfl _ _ rfl _ _ _ (by kernel_rfl) (by kernel_rfl) hlk ?_
  refine hK.out _ _ ?_ (fun hHeld => ?_)
  · exact ⟨B4.cell 0 _ rfl, B4.cell 7 _ rfl⟩
  clear hK K
  try simp only [pu]
  refine tk (i := 6) (oi := sgrR21o5) (v := (.tuple #[.nilFunc, .bool false])) hHeld ?_ ?_
  · intro w9 hSw
    try dsimp only at hSw
    go_simp
  try simp only [pu]
  refine tk (i := 7) (oi := sgrR21o6) (v := (.nilFunc)) hHeld ?_ ?_
  · intro w9 hSw
    try dsimp only at hSw
    go_simp
  try simp only [pu]
  refine tk (i := 8) (oi := sgrR21o4) (v := (.bool false)) hHeld ?_ ?_
  · intro w9 hSw
    try dsimp only at hSw
    go_simp
  try simp only [pu]
  refine tk (i := 9) (oi := sgrR21o0) (v := (.nilFunc)) hHeld ?_ ?_
  · intro w9 hSw
    try dsimp only at hSw
    go_simp
  try simp only [pu]
  refine tk (i := 10) (oi := sgrR21o1) (v := (.bool false)) hHeld ?_ ?_
  · intro w9 hSw
    try dsimp only at hSw
    go_simp
  try simp only [pu]
  refine wpAnyH_done (by kernel_rfl) ?_ _
  refine NoPanic.normal ?_
  clear hlk htab hes B3 B3' b3 KR hHeld hfv hkn
  have hbz : (Instr.build 38 #[]).run Try.prog W4 = .ok (.agg (sRc 0 0 0 0 0 0 0 0 0 0 0 0 0 0 0 0 false 0 0 0 0 0 0 0 0 0 0 none 0 0)) W4 := by kernel_rfl
  have Bf := B4'.set (sRc 0 0 0 0 0 0 0 0 0 0 0 0 0 0 0 0 false 0 0 0 0 0 0 0 0 0 0 none 0 0)
  have bf := below_setRow b4 (Nat.le_of_lt g1) (sRc 0 0 0 0 0 0 0 0 0 0 0 0 0 0 0 0 false 0 0 0 0 0 0 0 0 0 0 none 0 0)
  go_wp2_with (first
    | (refine wpList_build _ rfl _ _ rfl _ (by rfl) _ hbz ?_)
    | (refine wpList_store_row rfl _ _ _ rfl W1.heap.size (sRc 0 0 0 0 0 0 0 0 0 0 0 0 0 0 0 0 false 0 0 0 0 0 0 0 0 0 0 none 0 0) (by rfl) (by rfl) _ _ B4' (by kernel_rfl) (by rfl) (by kernel_rfl) ?_))
  exact ret_cell_tmp (k := 2) (j := 3) Try.f16 (by kernel_rfl) Bf Try.underlying38 (by kernel_rfl) (by rfl) (by rfl) rfl ⟨none, 0, rfl, fresh_nil bf⟩
set_option maxRecDepth 100000 in
set_option maxHeartbeats 4000000 in
theorem parse_y (f sf sh sl df dh dl pr ho : Int) (fg : Bool) (id of : Int) (mo : Bool) (xa : Option Addr) (xn xc : Nat) (da : Option Addr) (dc : Nat) (l : List Int) (w : World) (h : Row w da l) (hnil : da = none → dc = 0) (hc : l.length ≤ dc) (hcm : dc ≤ 9223372036854775807) (hll : l.length ≤ 140737488351232) (hs : Ad.ok ⟨sf, sh, sl⟩) (hd : Ad.ok ⟨df, dh, dl⟩) (hE : endsB f ⟨sf, sh, sl⟩ ⟨df, dh, dl⟩ = true) (fn : FuncId) (hfv : lookS (icmpOf f) pr = .func (.func fn) #[] #[]) (hkn : knownS (icmpOf f) pr = true) (hcf : ∀ args w, (callFunc fn args).run Try.prog w = .ok (.enter fn args) w) (E : Int) (X : Sg) (KF : ∀ W, Row W da l → Calls Try.prog fn #[.agg (sRa f sf sh sl df dh dl pr ho fg id of mo xa xn xc da l.length dc)] W (GotS W E X)) :
    Calls Try.prog 16 #[.agg (sRa f sf sh sl df dh dl pr ho fg id of mo xa xn xc da l.length dc)] w (GotS w E X) := by
  have HKF : Hid _ := KF
  clear KF
  obtain ⟨W1, hW1⟩ : ∃ W1, w.alloc (.cells (sRa f sf sh sl df dh dl pr ho fg id of mo xa xn xc da l.length dc) 36) = W1 := ⟨_, rfl⟩
  obtain ⟨W2, hW2⟩ : ∃ W2, W1.alloc (.cells (sRc 0 0 0 0 0 0 0 0 0 0 0 0 0 0 0 0 false 0 0 0 0 0 0 0 0 0 0 none 0 0) 38) = W2 := ⟨_, rfl⟩
  have b1 := bel_nw hW1
  have b2 := bel_al b1 hW2
  have B1' := blk_nw hW1
  have B1 := B1'.al hW2
  have B2 := blk_nw hW2
  have g1 : w.heap.size < W1.heap.size := B1'.lt
  clear B1'
  have d0 := B1.cell 0 (.int .i64 f) rfl
  have d1 := B1.cell 1 (.int .i64 sf) rfl
  have d2 := B1.cell 2 (.int .u64 sh) rfl
  have d3 := B1.cell 3 (.int .u64 sl) rfl
  have d4 := B1.cell 4 (.int .i64 df) rfl
  have d5 := B1.cell 5 (.int .u64 dh) rfl
  have d6 := B1.cell 6 (.int .u64 dl) rfl
  have d7 := B1.cell 7 (.int .i64 pr) rfl
  have K0 := ofFamily_any f sf sh sl df dh dl W2
  rw [hE] at K0
  have K0 : Hid _ := K0
  have KR : Hid (∀ W, Calls Try.prog 33 #[.int .i64 f] W fun e w' => ∃ es G, e = .returned (.map (some G)) ∧ w'.heap[G]? = some (.map es 3) ∧ Tab (icmpOf f) es ∧ Below W.heap.size W w') := fun W => readers_any f W
  obtain ⟨I, hI⟩ : ∃ I, icmpOf f = I := ⟨_, rfl⟩
  rw [hI] at KR hfv hkn
  clear hI
  go_enter Try.func16, Try.ntmps16
  go_wp2_with fail
  refine Calls.mono K0.out ?_
  rintro e W3 ⟨rfl, bb⟩
  have b3 := bel_tr b2 bb
  have B3 := B1.kept bb
  have B3' := B2.kept bb
  clear K0 bb B1 B2 b2 hW1 hW2 d0 d1 d2 d3 d4 d5 d6 d7
  go_wp2_with fail
  refine wp_region_noPanic ?_
  refine wp_region_held_drew (S := fun w' => w'.cell? ⟨w.heap.size, 0, none⟩ = some (.int .i64 f) ∧ w'.cell? ⟨w.heap.size, 7, none⟩ = some (.int .i64 pr)) (by kernel_rfl) (by exact ⟨B3.drew.cell 0 _ rfl, B3.drew.cell 7 _ rfl⟩) (fun hHeld => ?_)
  refine tk (i := 0) (oi := sgrR21o9) (v := (.pointer (some ⟨w.heap.size, 0, none⟩))) hHeld ?_ ?_
  · intro w9 hSw
    try dsimp only at hSw
    go_simp
  try simp only [pu]
  refine tk (i := 1) (oi := sgrR21o7) (v := (.int .i64 f)) hHeld ?_ ?_
  · intro w9 hSw
    try dsimp only at hSw
    go_simp
  try simp only [pu]
  refine tk (i := 3) (oi := sgrR21o10) (v := (.pointer (some ⟨w.heap.size, 7, none⟩))) hHeld ?_ ?_
  · intro w9 hSw
    try dsimp only at hSw
    go_simp
  try simp only [pu]
  refine tk (i := 4) (oi := sgrR21o8) (v := (.int .i64 pr)) hHeld ?_ ?_
  · intro w9 hSw
    try dsimp only at hSw
    go_simp
  try simp only [pu]
  refine wpAnyH_ready (rs := [2]) (by kernel_rfl) (by simp) ?_
  refine AllReadyH.cons (o := sgrR21o3) rfl (fun K hK => ?_) AllReadyH.nil
  go_simp
  refine Calls.mono (KR.out _) ?_
  rintro e W4 ⟨es, G, rfl, hes, htab, bb⟩
  have B4 := B3.drew.kept bb
  have B4' := B3'.drew.kept bb
  have b4 : Below w.heap.size w W4 := b3.drew.trans (bb.mono b3.drew.size)
  have hlk := htab W4 G 3 pr hes
  rw [hfv, hkn] at hlk
  refine hK.out _ _ ?_ (fun hHeld => ?_)
  · exact ⟨B4.cell 0 _ rfl, B4.cell 7 _ rfl⟩
  clear hK K
  try simp only [pu]
  refine wpAnyH_ready (rs := [5]) (by kernel_rfl) (by simp) ?_
  refine AllReadyH.cons (o := sgrR21o2) rfl (fun K hK => ?_) AllReadyH.nil
  refine step_look rfl _ _ rfl _ _ _ (by kernel_rfl) (by kernel_rfl) hlk ?_
  refine hK.out _ _ ?_ (fun hHeld => ?_)
  · exact ⟨B4.cell 0 _ rfl, B4.cell 7 _ rfl⟩
  clear hK K
  try simp only [pu]
  refine tk (i := 6) (oi := sgrR21o5) (v := (.tuple #[.func (.func fn) #[] #[], .bool true])) hHeld ?_ ?_
  · intro w9 hSw
    try dsimp only at hSw
    go_simp
  try simp only [pu]
  refine tk (i := 7) (oi := sgrR21o6) (v := (.func (.func fn) #[] #[])) hHeld ?_ ?_
  · intro w9 hSw
    try dsimp only at hSw
    go_simp
  try simp only [pu]
  refine tk (i := 8) (oi := sgrR21o4) (v := (.bool true)) hHeld ?_ ?_
  · intro w9 hSw
    try dsimp only at hSw
    go_simp
  try simp only [pu]
  refine tk (i := 9) (oi := sgrR21o0) (v := (.func (.func fn) #[] #[])) hHeld ?_ ?_
  · intro w9 hSw
    try dsimp only at hSw
    go_simp
  try simp only [pu]
  refine tk (i := 10) (oi := sgrR21o1) (v := (.bool true)) hHeld ?_ ?_
  · intro w9 hSw
    try dsimp only at hSw
    go_simp
  try simp only [pu]
  refine wpAnyH_done (by kernel_rfl) ?_ _
  refine NoPanic.normal ?_
  have r4 := h.below b4
  clear hlk htab hes B3 B3' b3 KR hHeld hfv hkn
  go_wp2_with (refine wpList_load_row rfl _ _ rfl w.heap.size (by rfl) _ _ _ _ B4 Try.underlying36 rfl (by kernel_rfl) ?_)
  refine Calls.mono (HKF.out _ r4) ?_
  rintro e W5 ⟨a5, c5, rfl, f5⟩
  have B5 := B4'.kept f5.below
  have b5 := bel_tr b4 f5.below
  have Bf := B5.set (sgv X a5 c5)
  have bf := below_setRow b5 (Nat.le_of_lt g1) (sgv X a5 c5)
  have oo := owns_le (B' := w.heap.size) b4.size (f5.owns.blk_other B5 (by decide) (sgv X a5 c5))
  clear HKF B4 B4' b4 r4 hcf
  go_wp2_with (refine wpList_store_row rfl _ _ _ rfl W1.heap.size (sgv X a5 c5) (by rfl) (by rfl) _ _ B5 (by kernel_rfl) (by rfl) (by kernel_rfl) ?_)
  refine ret_cell_tmp (k := 2) (j := 3) Try.f16 (by kernel_rfl) Bf Try.underlying38 (by kernel_rfl) (by rfl) (by rfl) rfl ?_
  exact ⟨a5, c5, rfl, oo, f5.room, f5.nil, oo.row f5.row.small f5.row.bytes, bf⟩
theorem segParse_any (f sf sh sl df dh dl pr ho : Int) (fg : Bool) (id of : Int) (mo : Bool) (xa : Option Addr) (xn xc : Nat) (da : Option Addr) (dc : Nat) (l : List Int) (w : World) (h : Row w da l) (hnil : da = none → dc = 0) (hc : l.length ≤ dc) (hcm : dc ≤ 9223372036854775807) (hll : l.length ≤ 140737488351232) (hs : Ad.ok ⟨sf, sh, sl⟩) (hd : Ad.ok ⟨df, dh, dl⟩) :
    Calls Try.prog 16 #[.agg (sRa f sf sh sl df dh dl pr ho fg id of mo xa xn xc da l.length dc)] w (GotS w (segE f pr ⟨sf, sh, sl⟩ ⟨df, dh, dl⟩ l) (segX f pr ⟨sf, sh, sl⟩ ⟨df, dh, dl⟩ l)) := by
  unfold segX
  obtain ⟨E, hEE⟩ : ∃ E, segE f pr ⟨sf, sh, sl⟩ ⟨df, dh, dl⟩ l = E := ⟨_, rfl⟩
  rw [hEE]
  unfold segE at hEE
  cases hE : endsB f ⟨sf, sh, sl⟩ ⟨df, dh, dl⟩ with
  | false =>
    rw [hE] at hEE
    simp at hEE
    subst hEE
    exact parse_e1 f sf sh sl df dh dl pr ho fg id of mo xa xn xc da dc l w h hnil hc hcm hll hs hd hE
  | true =>
    rw [hE, if_neg (by decide)] at hEE
    by_cases h6 : pr = 6
    · rw [if_pos h6] at hEE
      rw [if_pos h6]
      refine parse_y f sf sh sl df dh dl pr ho fg id of mo xa xn xc da dc l w h hnil hc hcm hll hs hd hE 55 (by unfold lookS; rw [if_pos h6]) (by unfold knownS; simp [h6]) Try.call55 _ _ (fun W hW => ?_)
      have := tcp_any f sf sh sl df dh dl pr ho fg id of mo xa xn xc da dc l W hW hnil hc hcm hs hd
      rw [hEE] at this
      exact this
    by_cases h17 : pr = 17
    · rw [if_neg h6, if_pos h17] at hEE
      rw [if_neg h6, if_pos h17]
      refine parse_y f sf sh sl df dh dl pr ho fg id of mo xa xn xc da dc l w h hnil hc hcm hll hs hd hE 56 (by unfold lookS; rw [if_neg h6, if_pos h17]) (by unfold knownS; simp [h17]) Try.call56 _ _ (fun W hW => ?_)
      have := udp_any f sf sh sl df dh dl pr ho fg id of mo xa xn xc da dc l W hW hnil hc hcm hs hd
      rw [hEE] at this
      exact this
    rw [if_neg h6, if_neg h17] at hEE
    by_cases hi : pr = icmpOf f
    · rw [if_pos hi] at hEE
      rw [if_neg h6, if_neg h17]
      refine parse_y f sf sh sl df dh dl pr ho fg id of mo xa xn xc da dc l w h hnil hc hcm hll hs hd hE 58 (by unfold lookS; rw [if_neg h6, if_neg h17, if_pos hi]) (by unfold knownS; simp [hi]) Try.call58 _ _ (fun W hW => ?_)
      have := icmp_any f sf sh sl df dh dl pr ho fg id of mo xa xn xc da dc l W hW hnil hc hcm hll hs hd
      rw [hEE] at this
      exact this
    · rw [if_neg hi] at hEE
      subst hEE
      exact parse_e9 f sf sh sl df dh dl pr ho fg id of mo xa xn xc da dc l w h hnil hc hcm hll hs hd hE (by unfold lookS; rw [if_neg h6, if_neg h17, if_neg hi]) (by unfold knownS; simp [h6, h17, hi])
end Go.Proofs.Ytpjjkdgmfjhfiaa
