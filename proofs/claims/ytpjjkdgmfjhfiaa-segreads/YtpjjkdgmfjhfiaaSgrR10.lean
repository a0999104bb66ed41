/- Texts joined: SgF SgN SgU -/
import Derived.Test.YtpjjkdgmfjhfiaaSgrR8
import Derived.Test.YtpjjkdgmfjhfiaaSgrR9
namespace Go.Proofs.Ytpjjkdgmfjhfiaa
open Go.RowKit
set_option linter.unusedVariables false
set_option linter.unusedSimpArgs false
/-- Does the sum hold? -/
def sumsB (s d : Ad) (pr : Int) (m : List Int) : Bool := M.sumOf [ahead s d pr m.length, m] == 65535
set_option maxRecDepth 100000 in
set_option maxHeartbeats 4000000 in
theorem summed_any (f pr sf sh sl df dh dl sp dp sz : Int) (w : World) (ho : Ad.ok ⟨sf, sh, sl⟩) (ho' : Ad.ok ⟨df, dh, dl⟩) :
    Calls Try.prog 43 #[.agg (sRb f pr sf sh sl df dh dl sp dp), .int .i64 sz] w fun e w' => ∃ a c, e = .returned (.slice a (ahead ⟨sf, sh, sl⟩ ⟨df, dh, dl⟩ pr sz).length c) ∧ Fresh w w' a c (ahead ⟨sf, sh, sl⟩ ⟨df, dh, dl⟩ pr sz) := by
  obtain ⟨W1, hW1⟩ : ∃ W1, w.alloc (.cells (sRb f pr sf sh sl df dh dl sp dp) 26) = W1 := ⟨_, rfl⟩
  have b1 := bel_nw hW1
  have B1 := blk_nw hW1
  have d0 := B1.cell 0 (.int .i64 f) rfl
  have d1 := B1.cell 1 (.int .i64 pr) rfl
  have d2 := B1.cell 2 (.int .i64 sf) rfl
  have d3 := B1.cell 3 (.int .u64 sh) rfl
  have d4 := B1.cell 4 (.int .u64 sl) rfl
  have d5 := B1.cell 5 (.int .i64 df) rfl
  have d6 := B1.cell 6 (.int .u64 dh) rfl
  have d7 := B1.cell 7 (.int .u64 dl) rfl
  have K := pseudo_any sf sh sl df dh dl pr sz W1 ho ho'
  unfold ahead
  by_cases h1 : pr = 1
  · rw [if_pos h1]
    have h1' : (pr == 1) = true := by simpa using h1
    clear K h1
    go_enter Try.func43, Try.ntmps43
    go_wp2
    go_ret
    exact ⟨none, 0, rfl, fresh_nil b1⟩
  · rw [if_neg h1]
    have h1' : (pr == 1) = false := by simpa using h1
    clear h1
    obtain ⟨L, hL⟩ : ∃ L, pseudo ⟨sf, sh, sl⟩ ⟨df, dh, dl⟩ pr sz = L := ⟨_, rfl⟩
    rw [hL] at K ⊢
    clear hL
    have K : Hid _ := K
    go_enter Try.func43, Try.ntmps43
    go_wp2_with fail
    refine Calls.mono K.out ?_
    rintro e W2 ⟨a2, c2, rfl, f2⟩
    clear K
    go_wp2
    go_ret
    exact ⟨a2, c2, rfl, owns_le b1.size f2.owns, f2.room, f2.nil, f2.row, b1.trans (f2.below.mono b1.size)⟩
set_option maxRecDepth 100000 in
set_option maxHeartbeats 4000000 in
theorem sumsUp_any (f sf sh sl df dh dl pr ho : Int) (fg : Bool) (id of : Int) (mo : Bool) (xa : Option Addr) (xn xc : Nat) (da : Option Addr) (dc : Nat) (l : List Int) (a : Option Addr) (c : Nat) (m : List Int) (w : World) (h : Row w a m) (hs : Ad.ok ⟨sf, sh, sl⟩) (hd : Ad.ok ⟨df, dh, dl⟩) :
    Calls Try.prog 67 #[.agg (sRa f sf sh sl df dh dl pr ho fg id of mo xa xn xc da l.length dc), .slice a m.length c] w fun e w' => e = .returned (.bool (sumsB ⟨sf, sh, sl⟩ ⟨df, dh, dl⟩ pr m)) ∧ Below w.heap.size w w' := by
  obtain ⟨W1, hW1⟩ : ∃ W1, w.alloc (.cells (sRa f sf sh sl df dh dl pr ho fg id of mo xa xn xc da l.length dc) 64) = W1 := ⟨_, rfl⟩
  have b1 := bel_nw hW1
  have B1 := blk_nw hW1
  have r1 := h.below b1
  obtain ⟨L, hL⟩ : ∃ L, ahead ⟨sf, sh, sl⟩ ⟨df, dh, dl⟩ pr m.length = L := ⟨_, rfl⟩
  have K1 : Hid _ := ends_any f sf sh sl df dh dl pr ho fg id of mo xa xn xc da dc l W1
  have K2 : Hid (∀ W, Calls Try.prog 43 #[.agg (sRb f pr sf sh sl df dh dl 0 0), .int .i64 (m.length : Int)] W fun e w' => ∃ a c, e = .returned (.slice a L.length c) ∧ Fresh W w' a c L) := fun W => by
    have := summed_any f pr sf sh sl df dh dl 0 0 (m.length : Int) W hs hd
    rw [hL] at this
    exact this
  have K3 : Hid (∀ W a' c', Row W a' L → Row W a m → Calls Try.prog 65 #[.slice (some ⟨W.heap.size, 0, none⟩) 2 2] (W.alloc (.cells #[.slice a' L.length c', .slice a m.length c] 28)) fun e w' => e = .returned (.int .i64 (M.sumOf [L, m])) ∧ w' = W.alloc (.cells #[.slice a' L.length c', .slice a m.length c] 28)) := fun W a' c' h1 h2 =>
    sum_any _ 2 [L, m] _ (rowss_two W 28 W.heap.size rfl a' a c' c L m h1 h2)
  have e : sumsB ⟨sf, sh, sl⟩ ⟨df, dh, dl⟩ pr m = (M.sumOf [L, m] == 65535) := by unfold sumsB; rw [hL]
  rw [e]
  generalize M.sumOf [L, m] = SU at *
  clear hL e h
  go_enter Try.func67, Try.ntmps67
  go_wp2_with (refine wpList_load_row rfl _ _ rfl w.heap.size (by rfl) _ _ _ _ B1 Try.underlying64 rfl (by kernel_rfl) ?_)
  refine Calls.mono K1.out ?_
  rintro e W2 ⟨rfl, bb⟩
  have b2 := bel_tr b1 bb
  have r2 := r1.below bb
  clear K1 bb b1 B1 r1 hW1
  go_wp2_with fail
  refine Calls.mono (K2.out _) ?_
  rintro e W3 ⟨a3, c3, rfl, f3⟩
  have b3 := bel_tr b2 f3.below
  have r3 := r2.below f3.below
  have q3 := f3.row
  clear K2 f3 r2 b2
  go_wp2_with fail
  refine Calls.mono (K3.out _ _ _ q3 r3) ?_
  rintro e W4 ⟨rfl, hW4⟩
  have b4 : Below w.heap.size w W4 := by rw [hW4]; exact b3.alloc b3.size _
  clear K3 hW4 q3 r3
  go_wp2_with fail
  all_goals (go_ret; exact ⟨rfl, b4⟩)
set_option maxRecDepth 100000 in
set_option maxHeartbeats 4000000 in
theorem way_any (f sf sh sl df dh dl pr ho : Int) (fg : Bool) (id of : Int) (mo : Bool) (xa : Option Addr) (xn xc : Nat) (da : Option Addr) (dc : Nat) (l : List Int) (w : World) (h : Row w da l) (h8 : 8 ≤ l.length) :
    Calls Try.prog 70 #[.agg (sRa f sf sh sl df dh dl pr ho fg id of mo xa xn xc da l.length dc)] w fun e w' => e = .returned (.agg (sRb f pr sf sh sl df dh dl (portsOf f pr l).1 (portsOf f pr l).2)) ∧ Below w.heap.size w w' := by
  obtain ⟨W1, hW1⟩ : ∃ W1, w.alloc (.cells (sRa f sf sh sl df dh dl pr ho fg id of mo xa xn xc da l.length dc) 64) = W1 := ⟨_, rfl⟩
  obtain ⟨W2, hW2⟩ : ∃ W2, W1.alloc (.cells (sRb 0 0 0 0 0 0 0 0 0 0) 26) = W2 := ⟨_, rfl⟩
  have b1 := bel_nw hW1
  have b2 := bel_al b1 hW2
  have B1' := blk_nw hW1
  have B1 := B1'.al hW2
  have B2 := blk_nw hW2
  have g1 : w.heap.size < W1.heap.size := B1'.lt
  clear B1'
  have K1 : Hid (∀ W, Calls Try.prog 80 #[.agg (sRa f sf sh sl df dh dl pr ho fg id of mo xa xn xc da l.length dc)] W _) := fun W => ends_any f sf sh sl df dh dl pr ho fg id of mo xa xn xc da dc l W
  obtain ⟨V, hV⟩ : ∃ V, portsOf f pr l = V := ⟨_, rfl⟩
  have K2 : Hid (∀ W, Row W da l → Calls Try.prog 82 #[.agg (sRb f pr sf sh sl df dh dl 0 0), .slice da l.length dc] W fun e w' => e = .returned (.agg (sRb f pr sf sh sl df dh dl V.1 V.2)) ∧ Below W.heap.size W w') := fun W hW => by
    have := withPorts_any f pr sf sh sl df dh dl da dc l W hW h8
    rw [hV] at this
    exact this
  rw [hV]
  clear hV
  have g2 : W1.heap.size ≠ w.heap.size := by omega
  go_enter Try.func70, Try.ntmps70
  go_wp2_with fail
  refine wp_region_noPanic ?_
  refine wp_region_held_drew (S := fun w' => Blk w' w.heap.size 64 (sRa f sf sh sl df dh dl pr ho fg id of mo xa xn xc da l.length dc) ∧ w'.cell? ⟨w.heap.size, 14, none⟩ = some (.slice da l.length dc)) (by kernel_rfl) (by exact ⟨B1.drew, B1.drew.cell 14 _ rfl⟩) (fun hHeld => ?_)
  refine wpAnyH_take (i := 0) (oi := { dst := some 3, op := Op.load 64 (.tmp 1), type := 64, pos := "parse.go:100", after := #[], guard := none }) (v := (.agg (sRa f sf sh sl df dh dl pr ho fg id of mo xa xn xc da l.length dc))) rfl (by kernel_rfl) (by kernel_rfl) (by kernel_rfl) (fun _ _ _ h => h) (yieldsIf_blk rfl _ _ rfl w.heap.size (by rfl) _ (fun _ hSw => hSw.1) Try.underlying64 (by kernel_rfl)) hHeld ?_
  try simp only [pu]
  refine tk (i := 2) (oi := { dst := some 5, op := Op.fieldAddr 64 (.tmp 1) 10, type := 0, pos := "parse.go:100", after := #[], guard := none }) (v := (.pointer (some ⟨w.heap.size, 14, none⟩))) hHeld ?_ ?_
  · intro w9 hSw
    try dsimp only at hSw
    go_simp
  try simp only [pu]
  refine tk (i := 3) (oi := { dst := some 6, op := Op.load 28 (.tmp 5), type := 28, pos := "parse.go:100", after := #[{ on := 2, ground := Ground.data }], guard := none }) (v := (.slice da l.length dc)) hHeld ?_ ?_
  · intro w9 hSw
    try dsimp only at hSw
    go_simp
  try simp only [pu]
  refine wpAnyH_ready (rs := [1]) (by kernel_rfl) (by simp) ?_
  refine AllReadyH.cons (o := { dst := some 4, op := Op.call { callee := Callee.value (.func 80), args := #[.tmp 3], argTypes := #[64] }, type := 26, pos := "parse.go:100", after := #[{ on := 0, ground := Ground.data }], guard := none }) rfl (fun K hK => ?_) AllReadyH.nil
  go_simp
  refine Calls.mono (K1.out _) ?_
  rintro e W3 ⟨rfl, bb⟩
  have B3 := B1.drew.kept bb
  have B3' := B2.drew.kept bb
  have b3 : Below w.heap.size w W3 := b2.drew.trans (bb.mono b2.drew.size)
  refine hK.out _ _ ?_ (fun hHeld => ?_)
  · exact ⟨B3, B3.cell 14 _ rfl⟩
  clear hK K
  try simp only [pu]
  refine wpAnyH_ready (rs := [4]) (by kernel_rfl) (by simp) ?_
  refine AllReadyH.cons (o := { dst := some 7, op := Op.call { callee := Callee.value (.func 82), args := #[.tmp 4, .tmp 6], argTypes := #[26, 28] }, type := 26, pos := "parse.go:100", after := #[{ on := 1, ground := Ground.data }, { on := 3, ground := Ground.data }, { on := 1, ground := Ground.chain }], guard := none }) rfl (fun K hK => ?_) AllReadyH.nil
  go_simp
  refine Calls.mono (K2.out _ (h.below b3)) ?_
  rintro e W4 ⟨rfl, bb⟩
  have B4 := B3.kept bb
  have B4' := B3'.kept bb
  have b4 := bel_tr b3 bb
  refine hK.out _ _ ?_ (fun hHeld => ?_)
  · exact ⟨B4, B4.cell 14 _ rfl⟩
  clear hK K
  try simp only [pu]
  refine wpAnyH_ready (rs := [5]) (by kernel_rfl) (by simp) ?_
  refine AllReadyH.cons (o := { dst := none, op := Op.store 26 (.tmp 2) (.tmp 7), type := 0, pos := "parse.go:100", after := #[{ on := 4, ground := Ground.data }, { on := 4, ground := Ground.chain }, { on := 0, ground := Ground.phase }, { on := 1, ground := Ground.phase }, { on := 2, ground := Ground.phase }, { on := 3, ground := Ground.phase }, { on := 4, ground := Ground.phase }], guard := none }) rfl (fun K hK => ?_) AllReadyH.nil
  refine step_store_blk rfl _ _ _ rfl W1.heap.size (sRb f pr sf sh sl df dh dl V.1 V.2) _ (by kernel_rfl) (by kernel_rfl) B4' (by kernel_rfl) (by rfl) (by kernel_rfl) ?_
  refine hK.out _ _ ?_ (fun hHeld => ?_)
  · exact ⟨B4.other (by omega) _, (B4.other (by omega) _).cell 14 _ rfl⟩
  clear hK K
  try simp only [pu]
  refine wpAnyH_done (by kernel_rfl) ?_ _
  refine NoPanic.normal ?_
  have Bf := B4'.set (sRb f pr sf sh sl df dh dl V.1 V.2)
  have bf := below_setRow b4 (Nat.le_of_lt g1) (sRb f pr sf sh sl df dh dl V.1 V.2)
  go_wp2_with fail
  exact ret_cell (k := 2) Try.f70 (by kernel_rfl) Bf Try.underlying26 (by kernel_rfl) (by rfl) rfl ⟨rfl, bf⟩
structure Tp where
  fam : Int
  pr : Int
  s : Ad
  d : Ad
  sp : Int
  dp : Int
structure Sg where
  t : Tp
  fl : Int
  sq : Int
  ak : Int
  wn : Int
  ty : Int
  cd : Int
  er : Bool
  inn : Tp
  data : List Int
def zTp : Tp := ⟨0, 0, ⟨0, 0, 0⟩, ⟨0, 0, 0⟩, 0, 0⟩
def zSg : Sg := ⟨zTp, 0, 0, 0, 0, 0, 0, false, zTp, []⟩
abbrev tpv (t : Tp) : Array Value := (sRb t.fam t.pr t.s.fam t.s.hi t.s.lo t.d.fam t.d.hi t.d.lo t.sp t.dp)
abbrev sgv (x : Sg) (a : Option Addr) (c : Nat) : Array Value :=
  #[.int .i64 x.t.fam, .int .i64 x.t.pr, .int .i64 x.t.s.fam, .int .u64 x.t.s.hi, .int .u64 x.t.s.lo, .int .i64 x.t.d.fam, .int .u64 x.t.d.hi, .int .u64 x.t.d.lo, .int .i64 x.t.sp, .int .i64 x.t.dp,
    .int .i64 x.fl, .int .u32 x.sq, .int .u32 x.ak, .int .i64 x.wn, .int .i64 x.ty, .int .i64 x.cd, .bool x.er,
    .int .i64 x.inn.fam, .int .i64 x.inn.pr, .int .i64 x.inn.s.fam, .int .u64 x.inn.s.hi, .int .u64 x.inn.s.lo, .int .i64 x.inn.d.fam, .int .u64 x.inn.d.hi, .int .u64 x.inn.d.lo, .int .i64 x.inn.sp, .int .i64 x.inn.dp,
    .slice a x.data.length c]
/-- The answer of a reader. -/
def GotS (w : World) (E : Int) (x : Sg) (e : Ending) (w' : World) : Prop := ∃ a c, e = .returned (.tuple #[.agg (sgv x a c), .int .i64 E]) ∧ Fresh w w' a c x.data
/-- A packet's way. -/
def endT (f pr : Int) (s d : Ad) (l : List Int) : Tp := ⟨f, pr, s, d, (portsOf f pr l).1, (portsOf f pr l).2⟩
def udpE (f pr : Int) (s d : Ad) (l : List Int) : Int :=
  if l.length < 8 then 2
  else if u16v l 4 < 8 ∨ (l.length : Int) < u16v l 4 then 5
  else if u16v (l.take (u16v l 4).toNat) 6 = 0 then (if f = 6 then 6 else 0)
  else if sumsB s d pr (l.take (u16v l 4).toNat) = true then 0 else 6
def udpX (f pr : Int) (s d : Ad) (l : List Int) : Sg := ⟨endT f pr s d l, 0, 0, 0, 0, 0, 0, false, zTp, (l.take (u16v l 4).toNat).drop 8⟩
def flagsB (fl : Int) : Bool := !(bits .and .i64 fl 22 == 0) && (!(!(bits .and .i64 fl 2 == 0) && !(bits .and .i64 fl 5 == 0)) && !(!(bits .and .i64 fl 1 == 0) && (bits .and .i64 fl 16 == 0)))
def tcpH (l : List Int) : Int := l.getD 12 0 / 16 * 4
def tcpF (l : List Int) : Int := bits .and .i64 (l.getD 13 0) 63
def tcpE (f pr : Int) (s d : Ad) (l : List Int) : Int :=
  if l.length < 20 then 2
  else if tcpH l < 20 ∨ (l.length : Int) < tcpH l then 4
  else if sumsB s d pr l = false then 6
  else if flagsB (tcpF l) = false then 10 else 0
def tcpX (f pr : Int) (s d : Ad) (l : List Int) : Sg := ⟨endT f pr s d l, tcpF l, u32v l 4, u32v l 8, u16v l 14, 0, 0, false, zTp, l.drop (tcpH l).toNat⟩
def inner4 (b : List Int) : Option Tp :=
  if b.getD 0 0 % 16 * 4 < 20 ∨ (b.length : Int) - b.getD 0 0 % 16 * 4 < 8 then none
  else some ⟨4, b.getD 9 0, (fromB (partv b 12 4)).1, (fromB (partv b 16 4)).1, (portsOf 4 (b.getD 9 0) (b.drop (b.getD 0 0 % 16 * 4).toNat)).1, (portsOf 4 (b.getD 9 0) (b.drop (b.getD 0 0 % 16 * 4).toNat)).2⟩
def inner6 (b : List Int) : Option Tp :=
  if b.length < 40 then none
  else if wE (b.getD 6 0) (b.drop 40) ≠ 0 ∨ (wS (b.getD 6 0) (b.drop 40)).l.length < 8 then none
  else some ⟨6, (wS (b.getD 6 0) (b.drop 40)).next, (fromB (partv b 8 16)).1, (fromB (partv b 24 16)).1, (portsOf 6 (wS (b.getD 6 0) (b.drop 40)).next (wS (b.getD 6 0) (b.drop 40)).l).1, (portsOf 6 (wS (b.getD 6 0) (b.drop 40)).next (wS (b.getD 6 0) (b.drop 40)).l).2⟩
def inner (f : Int) (b : List Int) : Option Tp :=
  if b.length = 0 then none else if b.getD 0 0 / 16 ≠ f then none else if f = 4 then inner4 b else inner6 b
def icmpE (f pr : Int) (s d : Ad) (l : List Int) : Int :=
  if l.length < 8 then 2
  else if sumsB s d pr l = false then 6
  else if isErr f (l.getD 0 0) = false then 0
  else if (inner f (l.drop 8)).isSome = true then 0 else 4
def icmpX (f pr : Int) (s d : Ad) (l : List Int) : Sg := ⟨endT f pr s d l, 0, 0, 0, 0, l.getD 0 0, l.getD 1 0, isErr f (l.getD 0 0), if isErr f (l.getD 0 0) = true then (inner f (l.drop 8)).getD zTp else zTp, l.drop 8⟩
theorem u16v_bd {l : List Int} (hb : M.Bytes l) (x : Int) : 0 ≤ u16v l x ∧ u16v l x ≤ 65535 := by
  unfold u16v
  split
  · exact u16_bd hb x
  · omega
/-- A struct that is built, by one equation. -/
theorem wpList_build {ops : Array Oper} {rest : List Oper} {o : Oper} {ac : Act} {Q : Exit → Act → World → Prop} (w : World) (hgd : o.guard = none) (t : TypeId) (parts : Array (Nat × Operand)) (ho : o.op = Op.build t parts)
    (vs : Array (Nat × Value)) (hv : parts.map (fun p => (p.1, ac.eval p.2)) = vs) (r : Value) (hrun : (Instr.build t vs).run Try.prog w = .ok r w) (h : wpList Try.prog ops Q rest (ac.put o.dst r) w) : wpList Try.prog ops Q (o :: rest) ac w := by
  refine wpList_plain hgd fun K hK => ?_
  unfold Oper.wp
  subst hv
  simp [execOp, ho, hrun, Result.andThen]
  exact hK _ _ h
set_option maxRecDepth 100000 in
set_option maxHeartbeats 4000000 in
theorem udp_e2 (f sf sh sl df dh dl pr ho : Int) (fg : Bool) (id of : Int) (mo : Bool) (xa : Option Addr) (xn xc : Nat) (da : Option Addr) (dc : Nat) (l : List Int) (w : World) (h : Row w da l) (hnil : da = none → dc = 0) (hc : l.length ≤ dc) (hcm : dc ≤ 9223372036854775807) (hs : Ad.ok ⟨sf, sh, sl⟩) (hd : Ad.ok ⟨df, dh, dl⟩) (h8 : l.length < 8) :
    Calls Try.prog 56 #[.agg (sRa f sf sh sl df dh dl pr ho fg id of mo xa xn xc da l.length dc)] w (GotS w 2 zSg) := by
  obtain ⟨W1, hW1⟩ : ∃ W1, w.alloc (.cells (sRa f sf sh sl df dh dl pr ho fg id of mo xa xn xc da l.length dc) 64) = W1 := ⟨_, rfl⟩
  obtain ⟨W2, hW2⟩ : ∃ W2, W1.alloc (.cells (sRc 0 0 0 0 0 0 0 0 0 0 0 0 0 0 0 0 false 0 0 0 0 0 0 0 0 0 0 none 0 0) 38) = W2 := ⟨_, rfl⟩
  have b1 := bel_nw hW1
  have b2 := bel_al b1 hW2
  have B1' := blk_nw hW1
  have B1 := B1'.al hW2
  have B2 := blk_nw hW2
  have g1 : w.heap.size < W1.heap.size := B1'.lt
  clear B1'
  have d0 := B1.cell 0 (.int .i64 f) rfl
  have d14 := B1.cell 14 (.slice da l.length dc) rfl
  have h8' : (l.length : Int) < 8 := by omega
  have hbz : (Instr.build 38 #[]).run Try.prog W2 = .ok (.agg (sRc 0 0 0 0 0 0 0 0 0 0 0 0 0 0 0 0 false 0 0 0 0 0 0 0 0 0 0 none 0 0)) W2 := by kernel_rfl
  go_enter Try.func56, Try.ntmps56
  have Bf := B2.set (sRc 0 0 0 0 0 0 0 0 0 0 0 0 0 0 0 0 false 0 0 0 0 0 0 0 0 0 0 none 0 0)
  have bf := below_setRow b2 (Nat.le_of_lt g1) (sRc 0 0 0 0 0 0 0 0 0 0 0 0 0 0 0 0 false 0 0 0 0 0 0 0 0 0 0 none 0 0)
  go_wp2_with (first
    | (refine wpList_build _ rfl _ _ rfl _ (by rfl) _ hbz ?_)
    | (refine wpList_store_row rfl _ _ _ rfl W1.heap.size (sRc 0 0 0 0 0 0 0 0 0 0 0 0 0 0 0 0 false 0 0 0 0 0 0 0 0 0 0 none 0 0) (by rfl) (by rfl) _ _ B2 (by kernel_rfl) (by rfl) (by kernel_rfl) ?_))
  exact ret_cell_tmp (k := 2) (j := 3) Try.f56 (by kernel_rfl) Bf Try.underlying38 (by kernel_rfl) (by rfl) (by rfl) rfl ⟨none, 0, rfl, fresh_nil bf⟩
set_option maxRecDepth 100000 in
set_option maxHeartbeats 4000000 in
theorem udp_e5a (f sf sh sl df dh dl pr ho : Int) (fg : Bool) (id of : Int) (mo : Bool) (xa : Option Addr) (xn xc : Nat) (da : Option Addr) (dc : Nat) (l : List Int) (w : World) (h : Row w da l) (hnil : da = none → dc = 0) (hc : l.length ≤ dc) (hcm : dc ≤ 9223372036854775807) (hs : Ad.ok ⟨sf, sh, sl⟩) (hd : Ad.ok ⟨df, dh, dl⟩) (h8 : ¬ l.length < 8) (h5 : u16v l 4 < 8) :
    Calls Try.prog 56 #[.agg (sRa f sf sh sl df dh dl pr ho fg id of mo xa xn xc da l.length dc)] w (GotS w 5 zSg) := by
  obtain ⟨W1, hW1⟩ : ∃ W1, w.alloc (.cells (sRa f sf sh sl df dh dl pr ho fg id of mo xa xn xc da l.length dc) 64) = W1 := ⟨_, rfl⟩
  obtain ⟨W2, hW2⟩ : ∃ W2, W1.alloc (.cells (sRc 0 0 0 0 0 0 0 0 0 0 0 0 0 0 0 0 false 0 0 0 0 0 0 0 0 0 0 none 0 0) 38) = W2 := ⟨_, rfl⟩
  have b1 := bel_nw hW1
  have b2 := bel_al b1 hW2
  have B1' := blk_nw hW1
  have B1 := B1'.al hW2
  have B2 := blk_nw hW2
  have g1 : w.heap.size < W1.heap.size := B1'.lt
  clear B1'
  have d0 := B1.cell 0 (.int .i64 f) rfl
  have d14 := B1.cell 14 (.slice da l.length dc) rfl
  have h8' : ¬ (l.length : Int) < 8 := by omega
  have hnn := u16v_bd h.bytes 4
  obtain ⟨nn, hn⟩ := Int.eq_ofNat_of_zero_le hnn.1
  have K1 := segU16_any da dc l 4 W2 (h.below b2) (by decide)
  rw [hn] at K1
  have K1 : Hid _ := K1
  rw [hn] at h5
  go_enter Try.func56, Try.ntmps56
  go_wp2_with fail
  refine Calls.mono K1.out ?_
  rintro e W3 ⟨rfl, bb⟩
  have b3 := bel_tr b2 bb
  have B3 := B1.kept bb
  have B3' := B2.kept bb
  have d0 := B3.cell 0 (.int .i64 f) rfl
  have d14 := B3.cell 14 (.slice da l.length dc) rfl
  clear K1 bb B1 B2 b2 hW1 hW2
  have hbz : (Instr.build 38 #[]).run Try.prog W3 = .ok (.agg (sRc 0 0 0 0 0 0 0 0 0 0 0 0 0 0 0 0 false 0 0 0 0 0 0 0 0 0 0 none 0 0)) W3 := by kernel_rfl
  have Bf := B3'.set (sRc 0 0 0 0 0 0 0 0 0 0 0 0 0 0 0 0 false 0 0 0 0 0 0 0 0 0 0 none 0 0)
  have bf := below_setRow b3 (Nat.le_of_lt g1) (sRc 0 0 0 0 0 0 0 0 0 0 0 0 0 0 0 0 false 0 0 0 0 0 0 0 0 0 0 none 0 0)
  go_wp2_with (first
    | (refine wpList_build _ rfl _ _ rfl _ (by rfl) _ hbz ?_)
    | (refine wpList_store_row rfl _ _ _ rfl W1.heap.size (sRc 0 0 0 0 0 0 0 0 0 0 0 0 0 0 0 0 false 0 0 0 0 0 0 0 0 0 0 none 0 0) (by rfl) (by rfl) _ _ B3' (by kernel_rfl) (by rfl) (by kernel_rfl) ?_))
  exact ret_cell_tmp (k := 2) (j := 3) Try.f56 (by kernel_rfl) Bf Try.underlying38 (by kernel_rfl) (by rfl) (by rfl) rfl ⟨none, 0, rfl, fresh_nil bf⟩
set_option maxRecDepth 100000 in
set_option maxHeartbeats 4000000 in
theorem udp_e5b (f sf sh sl df dh dl pr ho : Int) (fg : Bool) (id of : Int) (mo : Bool) (xa : Option Addr) (xn xc : Nat) (da : Option Addr) (dc : Nat) (l : List Int) (w : World) (h : Row w da l) (hnil : da = none → dc = 0) (hc : l.length ≤ dc) (hcm : dc ≤ 9223372036854775807) (hs : Ad.ok ⟨sf, sh, sl⟩) (hd : Ad.ok ⟨df, dh, dl⟩) (h8 : ¬ l.length < 8) (h5 : ¬ u16v l 4 < 8) (h6 : u16v l 4 > (l.length : Int)) :
    Calls Try.prog 56 #[.agg (sRa f sf sh sl df dh dl pr ho fg id of mo xa xn xc da l.length dc)] w (GotS w 5 zSg) := by
  obtain ⟨W1, hW1⟩ : ∃ W1, w.alloc (.cells (sRa f sf sh sl df dh dl pr ho fg id of mo xa xn xc da l.length dc) 64) = W1 := ⟨_, rfl⟩
  obtain ⟨W2, hW2⟩ : ∃ W2, W1.alloc (.cells (sRc 0 0 0 0 0 0 0 0 0 0 0 0 0 0 0 0 false 0 0 0 0 0 0 0 0 0 0 none 0 0) 38) = W2 := ⟨_, rfl⟩
  have b1 := bel_nw hW1
  have b2 := bel_al b1 hW2
  have B1' := blk_nw hW1
  have B1 := B1'.al hW2
  have B2 := blk_nw hW2
  have g1 : w.heap.size < W1.heap.size := B1'.lt
  clear B1'
  have d0 := B1.cell 0 (.int .i64 f) rfl
  have d14 := B1.cell 14 (.slice da l.length dc) rfl
  have h8' : ¬ (l.length : Int) < 8 := by omega
  have hnn := u16v_bd h.bytes 4
  obtain ⟨nn, hn⟩ := Int.eq_ofNat_of_zero_le hnn.1
  have K1 := segU16_any da dc l 4 W2 (h.below b2) (by decide)
  rw [hn] at K1
  have K1 : Hid _ := K1
  rw [hn] at h5 h6
  go_enter Try.func56, Try.ntmps56
  go_wp2_with fail
  refine Calls.mono K1.out ?_
  rintro e W3 ⟨rfl, bb⟩
  have b3 := bel_tr b2 bb
  have B3 := B1.kept bb
  have B3' := B2.kept bb
  have d0 := B3.cell 0 (.int .i64 f) rfl
  have d14 := B3.cell 14 (.slice da l.length dc) rfl
  clear K1 bb B1 B2 b2 hW1 hW2
  have hbz : (Instr.build 38 #[]).run Try.prog W3 = .ok (.agg (sRc 0 0 0 0 0 0 0 0 0 0 0 0 0 0 0 0 false 0 0 0 0 0 0 0 0 0 0 none 0 0)) W3 := by kernel_rfl
  have Bf := B3'.set (sRc 0 0 0 0 0 0 0 0 0 0 0 0 0 0 0 0 false 0 0 0 0 0 0 0 0 0 0 none 0 0)
  have bf := below_setRow b3 (Nat.le_of_lt g1) (sRc 0 0 0 0 0 0 0 0 0 0 0 0 0 0 0 0 false 0 0 0 0 0 0 0 0 0 0 none 0 0)
  go_wp2_with (first
    | (refine wpList_build _ rfl _ _ rfl _ (by rfl) _ hbz ?_)
    | (refine wpList_store_row rfl _ _ _ rfl W1.heap.size (sRc 0 0 0 0 0 0 0 0 0 0 0 0 0 0 0 0 false 0 0 0 0 0 0 0 0 0 0 none 0 0) (by rfl) (by rfl) _ _ B3' (by kernel_rfl) (by rfl) (by kernel_rfl) ?_))
  exact ret_cell_tmp (k := 2) (j := 3) Try.f56 (by kernel_rfl) Bf Try.underlying38 (by kernel_rfl) (by rfl) (by rfl) rfl ⟨none, 0, rfl, fresh_nil bf⟩
set_option maxRecDepth 100000 in
set_option maxHeartbeats 4000000 in
theorem udp_e6a (f sf sh sl df dh dl pr ho : Int) (fg : Bool) (id of : Int) (mo : Bool) (xa : Option Addr) (xn xc : Nat) (da : Option Addr) (dc : Nat) (l : List Int) (w : World) (h : Row w da l) (hnil : da = none → dc = 0) (hc : l.length ≤ dc) (hcm : dc ≤ 9223372036854775807) (hs : Ad.ok ⟨sf, sh, sl⟩) (hd : Ad.ok ⟨df, dh, dl⟩) (h8 : ¬ l.length < 8) (h5 : ¬ u16v l 4 < 8) (h6 : ¬ u16v l 4 > (l.length : Int)) (hz : u16v (l.take (u16v l 4).toNat) 6 = 0) (h66 : f = 6) :
    Calls Try.prog 56 #[.agg (sRa f sf sh sl df dh dl pr ho fg id of mo xa xn xc da l.length dc)] w (GotS w 6 zSg) := by
  obtain ⟨W1, hW1⟩ : ∃ W1, w.alloc (.cells (sRa f sf sh sl df dh dl pr ho fg id of mo xa xn xc da l.length dc) 64) = W1 := ⟨_, rfl⟩
  obtain ⟨W2, hW2⟩ : ∃ W2, W1.alloc (.cells (sRc 0 0 0 0 0 0 0 0 0 0 0 0 0 0 0 0 false 0 0 0 0 0 0 0 0 0 0 none 0 0) 38) = W2 := ⟨_, rfl⟩
  have b1 := bel_nw hW1
  have b2 := bel_al b1 hW2
  have B1' := blk_nw hW1
  have B1 := B1'.al hW2
  have B2 := blk_nw hW2
  have g1 : w.heap.size < W1.heap.size := B1'.lt
  clear B1'
  have d0 := B1.cell 0 (.int .i64 f) rfl
  have d14 := B1.cell 14 (.slice da l.length dc) rfl
  have h8' : ¬ (l.length : Int) < 8 := by omega
  have hnn := u16v_bd h.bytes 4
  obtain ⟨nn, hn⟩ := Int.eq_ofNat_of_zero_le hnn.1
  have K1 := segU16_any da dc l 4 W2 (h.below b2) (by decide)
  rw [hn] at K1
  have K1 : Hid _ := K1
  rw [hn] at h5 h6
  have n8 : 8 ≤ nn := by omega
  have nl : nn ≤ l.length := by omega
  have j1 : (0 : Int) ≤ (nn : Int) := by omega
  have j2 : (nn : Int) ≤ (dc : Int) := by omega
  have j3 : nn ≤ dc := by omega
  obtain ⟨b, hb⟩ : ∃ b, l.take nn = b := ⟨_, rfl⟩
  have lb : b.length = nn := by rw [← hb, List.length_take]; omega
  have hnt : (u16v l 4).toNat = nn := by rw [hn]; simp
  rw [hnt, hb] at hz
  have RB : Hid (∀ W, Row W da l → Row W da b) := fun W hW => by rw [← hb]; exact hW.take nn
  obtain ⟨z, hz0⟩ : ∃ z, u16v b 6 = z := ⟨_, rfl⟩
  have K2 : Hid (∀ W, Row W da l → Calls Try.prog 71 #[.slice da nn dc, .int .i64 6] W fun e w' => e = .returned (.int .i64 z) ∧ Below W.heap.size W w') := fun W hW => by
    have := segU16_any da dc b 6 W (RB.out W hW) (by decide)
    rw [hz0, lb] at this
    exact this
  rw [hz0] at hz
  subst hz
  have HB : Hid (l.take nn = b ∧ b.length = nn ∧ (u16v l 4).toNat = nn) := ⟨hb, lb, hnt⟩
  clear hb lb hnt hnn hn
  have f6 : (f == 6) = true := by simpa using h66
  clear h66
  go_enter Try.func56, Try.ntmps56
  go_wp2_with fail
  refine Calls.mono K1.out ?_
  rintro e W3 ⟨rfl, bb⟩
  have b3 := bel_tr b2 bb
  have B3 := B1.kept bb
  have B3' := B2.kept bb
  have d0 := B3.cell 0 (.int .i64 f) rfl
  have d14 := B3.cell 14 (.slice da l.length dc) rfl
  clear K1 bb B1 B2 b2 hW1 hW2
  go_wp2_with fail
  refine Calls.mono (K2.out _ (h.below b3)) ?_
  rintro e W4 ⟨rfl, bb⟩
  have b4 := bel_tr b3 bb
  have B4 := B3.kept bb
  have B4' := B3'.kept bb
  clear d0 d14
  have d0 := B4.cell 0 (.int .i64 f) rfl
  clear K2 bb B3 B3' b3
  have hbz : (Instr.build 38 #[]).run Try.prog W4 = .ok (.agg (sRc 0 0 0 0 0 0 0 0 0 0 0 0 0 0 0 0 false 0 0 0 0 0 0 0 0 0 0 none 0 0)) W4 := by kernel_rfl
  have Bf := B4'.set (sRc 0 0 0 0 0 0 0 0 0 0 0 0 0 0 0 0 false 0 0 0 0 0 0 0 0 0 0 none 0 0)
  have bf := below_setRow b4 (Nat.le_of_lt g1) (sRc 0 0 0 0 0 0 0 0 0 0 0 0 0 0 0 0 false 0 0 0 0 0 0 0 0 0 0 none 0 0)
  go_wp2_with (first
    | (refine wpList_build _ rfl _ _ rfl _ (by rfl) _ hbz ?_)
    | (refine wpList_store_row rfl _ _ _ rfl W1.heap.size (sRc 0 0 0 0 0 0 0 0 0 0 0 0 0 0 0 0 false 0 0 0 0 0 0 0 0 0 0 none 0 0) (by rfl) (by rfl) _ _ B4' (by kernel_rfl) (by rfl) (by kernel_rfl) ?_))
  exact ret_cell_tmp (k := 2) (j := 3) Try.f56 (by kernel_rfl) Bf Try.underlying38 (by kernel_rfl) (by rfl) (by rfl) rfl ⟨none, 0, rfl, fresh_nil bf⟩
set_option maxRecDepth 100000 in
set_option maxHeartbeats 4000000 in
theorem udp_e6b (f sf sh sl df dh dl pr ho : Int) (fg : Bool) (id of : Int) (mo : Bool) (xa : Option Addr) (xn xc : Nat) (da : Option Addr) (dc : Nat) (l : List Int) (w : World) (h : Row w da l) (hnil : da = none → dc = 0) (hc : l.length ≤ dc) (hcm : dc ≤ 9223372036854775807) (hs : Ad.ok ⟨sf, sh, sl⟩) (hd : Ad.ok ⟨df, dh, dl⟩) (h8 : ¬ l.length < 8) (h5 : ¬ u16v l 4 < 8) (h6 : ¬ u16v l 4 > (l.length : Int)) (hz : ¬ u16v (l.take (u16v l 4).toNat) 6 = 0) (hsum : sumsB ⟨sf, sh, sl⟩ ⟨df, dh, dl⟩ pr (l.take (u16v l 4).toNat) = false) :
    Calls Try.prog 56 #[.agg (sRa f sf sh sl df dh dl pr ho fg id of mo xa xn xc da l.length dc)] w (GotS w 6 zSg) := by
  obtain ⟨W1, hW1⟩ : ∃ W1, w.alloc (.cells (sRa f sf sh sl df dh dl pr ho fg id of mo xa xn xc da l.length dc) 64) = W1 := ⟨_, rfl⟩
  obtain ⟨W2, hW2⟩ : ∃ W2, W1.alloc (.cells (sRc 0 0 0 0 0 0 0 0 0 0 0 0 0 0 0 0 false 0 0 0 0 0 0 0 0 0 0 none 0 0) 38) = W2 := ⟨_, rfl⟩
  have b1 := bel_nw hW1
  have b2 := bel_al b1 hW2
  have B1' := blk_nw hW1
  have B1 := B1'.al hW2
  have B2 := blk_nw hW2
  have g1 : w.heap.size < W1.heap.size := B1'.lt
  clear B1'
  have d0 := B1.cell 0 (.int .i64 f) rfl
  have d14 := B1.cell 14 (.slice da l.length dc) rfl
  have h8' : ¬ (l.length : Int) < 8 := by omega
  have hnn := u16v_bd h.bytes 4
  obtain ⟨nn, hn⟩ := Int.eq_ofNat_of_zero_le hnn.1
  have K1 := segU16_any da dc l 4 W2 (h.below b2) (by decide)
  rw [hn] at K1
  have K1 : Hid _ := K1
  rw [hn] at h5 h6
  have n8 : 8 ≤ nn := by omega
  have nl : nn ≤ l.length := by omega
  have j1 : (0 : Int) ≤ (nn : Int) := by omega
  have j2 : (nn : Int) ≤ (dc : Int) := by omega
  have j3 : nn ≤ dc := by omega
  obtain ⟨b, hb⟩ : ∃ b, l.take nn = b := ⟨_, rfl⟩
  have lb : b.length = nn := by rw [← hb, List.length_take]; omega
  have hnt : (u16v l 4).toNat = nn := by rw [hn]; simp
  rw [hnt, hb] at hz
  have RB : Hid (∀ W, Row W da l → Row W da b) := fun W hW => by rw [← hb]; exact hW.take nn
  obtain ⟨z, hz0⟩ : ∃ z, u16v b 6 = z := ⟨_, rfl⟩
  have K2 : Hid (∀ W, Row W da l → Calls Try.prog 71 #[.slice da nn dc, .int .i64 6] W fun e w' => e = .returned (.int .i64 z) ∧ Below W.heap.size W w') := fun W hW => by
    have := segU16_any da dc b 6 W (RB.out W hW) (by decide)
    rw [hz0, lb] at this
    exact this
  rw [hz0] at hz
  rw [hnt, hb] at hsum
  have KS : Hid (∀ W, Row W da l → Calls Try.prog 67 #[.agg (sRa f sf sh sl df dh dl pr ho fg id of mo xa xn xc da l.length dc), .slice da nn dc] W fun e w' => e = .returned (.bool false) ∧ Below W.heap.size W w') := fun W hW => by
    have := sumsUp_any f sf sh sl df dh dl pr ho fg id of mo xa xn xc da dc l da dc b W (RB.out W hW) hs hd
    rw [lb, hsum] at this
    exact this
  have hz' : (z == 0) = false := by simpa using hz
  clear hz hsum
  have HB : Hid (l.take nn = b ∧ b.length = nn ∧ (u16v l 4).toNat = nn) := ⟨hb, lb, hnt⟩
  clear hb lb hnt hnn hn
  go_enter Try.func56, Try.ntmps56
  go_wp2_with fail
  refine Calls.mono K1.out ?_
  rintro e W3 ⟨rfl, bb⟩
  have b3 := bel_tr b2 bb
  have B3 := B1.kept bb
  have B3' := B2.kept bb
  have d0 := B3.cell 0 (.int .i64 f) rfl
  have d14 := B3.cell 14 (.slice da l.length dc) rfl
  clear K1 bb B1 B2 b2 hW1 hW2
  go_wp2_with fail
  refine Calls.mono (K2.out _ (h.below b3)) ?_
  rintro e W4 ⟨rfl, bb⟩
  have b4 := bel_tr b3 bb
  have B4 := B3.kept bb
  have B4' := B3'.kept bb
  clear d0 d14
  have d0 := B4.cell 0 (.int .i64 f) rfl
  clear K2 bb B3 B3' b3
  clear d0
  have d0 := B4.cell 0 (.int .i64 f) rfl
  have d1 := B4.cell 1 (.int .i64 sf) rfl
  have d2 := B4.cell 2 (.int .u64 sh) rfl
  have d3 := B4.cell 3 (.int .u64 sl) rfl
  have d4 := B4.cell 4 (.int .i64 df) rfl
  have d5 := B4.cell 5 (.int .u64 dh) rfl
  have d6 := B4.cell 6 (.int .u64 dl) rfl
  have d7 := B4.cell 7 (.int .i64 pr) rfl
  have d8 := B4.cell 8 (.int .i64 ho) rfl
  have d9 := B4.cell 9 (.bool fg) rfl
  have d10 := B4.cell 10 (.int .u32 id) rfl
  have d11 := B4.cell 11 (.int .i64 of) rfl
  have d12 := B4.cell 12 (.bool mo) rfl
  have d13 := B4.cell 13 (.slice xa xn xc) rfl
  have d14 := B4.cell 14 (.slice da l.length dc) rfl
  go_wp2_with fail
  refine Calls.mono (KS.out _ (h.below b4)) ?_
  rintro e W5 ⟨rfl, bb⟩
  have b5 := bel_tr b4 bb
  have B5 := B4.kept bb
  have B5' := B4'.kept bb
  clear d0 d1 d2 d3 d4 d5 d6 d7 d8 d9 d10 d11 d12 d13 d14 KS bb B4 B4' b4
  have hbz : (Instr.build 38 #[]).run Try.prog W5 = .ok (.agg (sRc 0 0 0 0 0 0 0 0 0 0 0 0 0 0 0 0 false 0 0 0 0 0 0 0 0 0 0 none 0 0)) W5 := by kernel_rfl
  have Bf := B5'.set (sRc 0 0 0 0 0 0 0 0 0 0 0 0 0 0 0 0 false 0 0 0 0 0 0 0 0 0 0 none 0 0)
  have bf := below_setRow b5 (Nat.le_of_lt g1) (sRc 0 0 0 0 0 0 0 0 0 0 0 0 0 0 0 0 false 0 0 0 0 0 0 0 0 0 0 none 0 0)
  go_wp2_with (first
    | (refine wpList_build _ rfl _ _ rfl _ (by rfl) _ hbz ?_)
    | (refine wpList_store_row rfl _ _ _ rfl W1.heap.size (sRc 0 0 0 0 0 0 0 0 0 0 0 0 0 0 0 0 false 0 0 0 0 0 0 0 0 0 0 none 0 0) (by rfl) (by rfl) _ _ B5' (by kernel_rfl) (by rfl) (by kernel_rfl) ?_))
  exact ret_cell_tmp (k := 2) (j := 3) Try.f56 (by kernel_rfl) Bf Try.underlying38 (by kernel_rfl) (by rfl) (by rfl) rfl ⟨none, 0, rfl, fresh_nil bf⟩
end Go.Proofs.Ytpjjkdgmfjhfiaa
