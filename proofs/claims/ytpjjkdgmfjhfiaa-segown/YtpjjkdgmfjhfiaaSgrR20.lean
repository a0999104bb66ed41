/- Texts joined: SgP -/
import Derived.Test.YtpjjkdgmfjhfiaaSgrR18
import Derived.Test.YtpjjkdgmfjhfiaaSgrR19
namespace Go.Proofs.Ytpjjkdgmfjhfiaa
abbrev sgrR20o0 : Oper := { dst := some 2, op := Op.assign (.tmp 6), type := 62, pos := "parse.go:29", after := #[{ on := 6, ground := Ground.data }, { on := 4, ground := Ground.chain }, { on := 0, ground := Ground.phase }, { on := 1, ground := Ground.phase }, { on := 2, ground := Ground.phase }, { on := 3, ground := Ground.phase }, { on := 4, ground := Ground.phase }, { on := 5, ground := Ground.phase }, { on := 6, ground := Ground.phase }], guard := none }
abbrev sgrR20o1 : Oper := { dst := some 6, op := Op.move (.tmp 3), type := 62, pos := "parse.go:29", after := #[{ on := 0, ground := Ground.data }, { on := 1, ground := Ground.data }, { on := 2, ground := Ground.data }, { on := 3, ground := Ground.data }, { on := 4, ground := Ground.data }, { on := 5, ground := Ground.data }], guard := none }
abbrev sgrR20o2 : Oper := { dst := none, op := Op.insert 62 (.tmp 3) (.tmp 5) (.func 58), type := 0, pos := "parse.go:29", after := #[{ on := 0, ground := Ground.data }, { on := 4, ground := Ground.data }], guard := none }
abbrev sgrR20o3 : Oper := { dst := none, op := Op.insert 62 (.tmp 3) (.const (.int .i64 17)) (.func 56), type := 0, pos := "parse.go:29", after := #[{ on := 0, ground := Ground.data }], guard := none }
abbrev sgrR20o4 : Oper := { dst := none, op := Op.insert 62 (.tmp 3) (.const (.int .i64 6)) (.func 55), type := 0, pos := "parse.go:29", after := #[{ on := 0, ground := Ground.data }], guard := none }
abbrev sgrR20o5 : Oper := { dst := some 5, op := Op.call { callee := Callee.value (.func 57), args := #[.tmp 4], argTypes := #[3] }, type := 3, pos := "parse.go:32", after := #[{ on := 3, ground := Ground.data }], guard := none }
abbrev sgrR20o6 : Oper := { dst := some 3, op := Op.makeMap 62 none, type := 62, pos := "parse.go:29", after := #[], guard := none }
abbrev sgrR20o7 : Oper := { dst := some 4, op := Op.move (.tmp 0), type := 3, pos := "parse.go:29", after := #[], guard := none }
end Go.Proofs.Ytpjjkdgmfjhfiaa
namespace Go.Proofs.Ytpjjkdgmfjhfiaa
open Go.RowKit Go.Maps
set_option linter.unusedVariables false
set_option linter.unusedSimpArgs false
abbrev ftcp : Value := .func (.func 55) #[] #[]
abbrev fudp : Value := .func (.func 56) #[] #[]
abbrev ficmp : Value := .func (.func 58) #[] #[]
theorem seg_insert {w : World} {b ck : Nat} {es : Array MapEntry} {x : Int} (v : Value) (hb : w.heap[b]? = some (.map es ck)) (hn : Instr.findNow (.int .i64) (.int .i64 x) es.toList 0 = some none) :
    (Instr.mapUpdate 62 (.map (some b)) (.int .i64 x) v).run Try.prog w = .ok () (ChangeMaps.setBlock w b (.map (es.push ⟨.int .i64 x, v, ck⟩) (ck + 1))) := by
  simp [Instr.mapUpdate, check_int, Instr.findKey, run_underlying Try.underlying62, run_underlying Try.underlying3, MapKept.run_getObj_map hb, hn, MapKept.run_setObj_map _ hb, Result.andThen, ChangeMaps.setBlock]
def lookS (I n : Int) : Value := if n = 6 then ftcp else if n = 17 then fudp else if n = I then ficmp else .nilFunc
def knownS (I n : Int) : Bool := n == 6 || (n == 17 || n == I)
/-- What is found in a table. -/
def Tab (I : Int) (es : Array MapEntry) : Prop := ∀ (w : World) (b ck : Nat) (n : Int), w.heap[b]? = some (.map es ck) → (Instr.lookup 62 (.map (some b)) (.int .i64 n) true).run Try.prog w = .ok (.tuple #[lookS I n, .bool (knownS I n)]) w
theorem look3 (k1 k2 k3 : Int) (v1 v2 v3 : Value) (n : Int) {w : World} {b ck : Nat} (hb : w.heap[b]? = some (.map #[⟨.int .i64 k1, v1, 0⟩, ⟨.int .i64 k2, v2, 1⟩, ⟨.int .i64 k3, v3, 2⟩] ck)) (d12 : k2 ≠ k1) (d13 : k3 ≠ k1) (d23 : k3 ≠ k2) :
    (Instr.lookup 62 (.map (some b)) (.int .i64 n) true).run Try.prog w = .ok (.tuple #[if n = k1 then v1 else if n = k2 then v2 else if n = k3 then v3 else .nilFunc, .bool (decide (n = k1) || (decide (n = k2) || decide (n = k3)))]) w := by
  have hz : (zeroValue 60).run Try.prog w = .ok .nilFunc w := by kernel_rfl
  by_cases h1 : n = k1
  · subst h1
    simp [Instr.lookup, check_int, Instr.findKey, run_underlying Try.underlying62, run_underlying Try.underlying3, MapKept.run_getObj_map hb, Instr.findNow, Instr.sameNow, hz, Result.andThen]
  have e1 : (k1 == n) = false := by simpa using (fun e => h1 e.symm)
  have e1' : (n == k1) = false := by simpa using h1
  by_cases h2 : n = k2
  · subst h2
    simp [Instr.lookup, check_int, Instr.findKey, run_underlying Try.underlying62, run_underlying Try.underlying3, MapKept.run_getObj_map hb, Instr.findNow, Instr.sameNow, hz, Result.andThen, e1, e1', h1]
  have e2 : (k2 == n) = false := by simpa using (fun e => h2 e.symm)
  have e2' : (n == k2) = false := by simpa using h2
  by_cases h3 : n = k3
  · subst h3
    simp [Instr.lookup, check_int, Instr.findKey, run_underlying Try.underlying62, run_underlying Try.underlying3, MapKept.run_getObj_map hb, Instr.findNow, Instr.sameNow, hz, Result.andThen, e1, e1', h1, e2, e2', h2]
  have e3 : (k3 == n) = false := by simpa using (fun e => h3 e.symm)
  have e3' : (n == k3) = false := by simpa using h3
  simp [Instr.lookup, check_int, Instr.findKey, run_underlying Try.underlying62, run_underlying Try.underlying3, MapKept.run_getObj_map hb, Instr.findNow, Instr.sameNow, hz, Result.andThen, e1, e1', h1, e2, e2', h2, e3, e3', h3]
theorem tab_of (I k1 k2 k3 : Int) (v1 v2 v3 : Value) (d12 : k2 ≠ k1) (d13 : k3 ≠ k1) (d23 : k3 ≠ k2) (h : ∀ n : Int, (if n = k1 then v1 else if n = k2 then v2 else if n = k3 then v3 else Value.nilFunc) = lookS I n ∧ (decide (n = k1) || (decide (n = k2) || decide (n = k3))) = knownS I n) :
    Tab I #[⟨.int .i64 k1, v1, 0⟩, ⟨.int .i64 k2, v2, 1⟩, ⟨.int .i64 k3, v3, 2⟩] := by
  intro w b ck n hb
  rw [look3 k1 k2 k3 v1 v2 v3 n hb d12 d13 d23, (h n).1, (h n).2]
theorem step_mk {ops : Array Oper} {o : Oper} {ac : Act} {K : Act → World → Prop} {Q : Exit → Act → World → Prop} {Z : Prop} {w : World} (hgd : o.guard = none) (t : TypeId) (ho : o.op = Op.makeMap t none) (h : K (ac.put o.dst (.map (some w.heap.size))) (w.alloc (.map #[] 0))) :
    if Region.wanted o (yielded ops ac.tmps) = true then Oper.wp Try.prog o ac w K Q else Z := by
  have hw : Region.wanted o (yielded ops ac.tmps) = true := by simp [Region.wanted, hgd]
  rw [if_pos hw]
  simp [Oper.wp, Oper.upon, execOp, ho, Instr.makeMap, Result.andThen]
  exact h
theorem step_ins {ops : Array Oper} {o : Oper} {ac : Act} {K : Act → World → Prop} {Q : Exit → Act → World → Prop} {Z : Prop} {w : World} (hgd : o.guard = none) (m k x : Operand) (ho : o.op = Op.insert 62 m k x) (b : Nat) (n : Int) (v : Value) (es : Array MapEntry) (ck : Nat)
    (hm : ac.eval m = .map (some b)) (hk : ac.eval k = .int .i64 n) (hx : ac.eval x = v) (hb : w.heap[b]? = some (.map es ck)) (hn : Instr.findNow (.int .i64) (.int .i64 n) es.toList 0 = some none) (h : ∀ w', w'.heap[b]? = some (.map (es.push ⟨.int .i64 n, v, ck⟩) (ck + 1)) → w.grownBy w' (some b) → w'.heap.size = w.heap.size → K (ac.put o.dst undef) w') :
    if Region.wanted o (yielded ops ac.tmps) = true then Oper.wp Try.prog o ac w K Q else Z := by
  have hw : Region.wanted o (yielded ops ac.tmps) = true := by simp [Region.wanted, hgd]
  rw [if_pos hw]
  have hr := seg_insert v hb hn
  simp [Oper.wp, Oper.upon, execOp, ho, hm, hk, hx, hr, Result.andThen]
  exact h _ (ChangeMaps.heap_setBlock_same hb _) (grownBy_setBlock hb _) (by simp [ChangeMaps.setBlock])
theorem tab_4_ABI (n : Int) : (if n = 6 then ftcp else if n = 17 then fudp else if n = 1 then ficmp else Value.nilFunc) = lookS 1 n ∧ (decide (n = 6) || (decide (n = 17) || decide (n = 1))) = knownS 1 n := by
  unfold lookS knownS
  by_cases h1 : n = 6
  · subst h1; simp
  by_cases h2 : n = 17
  · subst h2; simp
  by_cases h3 : n = 1
  · subst h3; simp
  · simp [h1, h2, h3]
theorem tab_4_AIB (n : Int) : (if n = 6 then ftcp else if n = 1 then ficmp else if n = 17 then fudp else Value.nilFunc) = lookS 1 n ∧ (decide (n = 6) || (decide (n = 1) || decide (n = 17))) = knownS 1 n := by
  unfold lookS knownS
  by_cases h1 : n = 6
  · subst h1; simp
  by_cases h2 : n = 17
  · subst h2; simp
  by_cases h3 : n = 1
  · subst h3; simp
  · simp [h1, h2, h3]
theorem tab_4_BAI (n : Int) : (if n = 17 then fudp else if n = 6 then ftcp else if n = 1 then ficmp else Value.nilFunc) = lookS 1 n ∧ (decide (n = 17) || (decide (n = 6) || decide (n = 1))) = knownS 1 n := by
  unfold lookS knownS
  by_cases h1 : n = 6
  · subst h1; simp
  by_cases h2 : n = 17
  · subst h2; simp
  by_cases h3 : n = 1
  · subst h3; simp
  · simp [h1, h2, h3]
theorem tab_4_BIA (n : Int) : (if n = 17 then fudp else if n = 1 then ficmp else if n = 6 then ftcp else Value.nilFunc) = lookS 1 n ∧ (decide (n = 17) || (decide (n = 1) || decide (n = 6))) = knownS 1 n := by
  unfold lookS knownS
  by_cases h1 : n = 6
  · subst h1; simp
  by_cases h2 : n = 17
  · subst h2; simp
  by_cases h3 : n = 1
  · subst h3; simp
  · simp [h1, h2, h3]
theorem tab_4_IAB (n : Int) : (if n = 1 then ficmp else if n = 6 then ftcp else if n = 17 then fudp else Value.nilFunc) = lookS 1 n ∧ (decide (n = 1) || (decide (n = 6) || decide (n = 17))) = knownS 1 n := by
  unfold lookS knownS
  by_cases h1 : n = 6
  · subst h1; simp
  by_cases h2 : n = 17
  · subst h2; simp
  by_cases h3 : n = 1
  · subst h3; simp
  · simp [h1, h2, h3]
theorem tab_4_IBA (n : Int) : (if n = 1 then ficmp else if n = 17 then fudp else if n = 6 then ftcp else Value.nilFunc) = lookS 1 n ∧ (decide (n = 1) || (decide (n = 17) || decide (n = 6))) = knownS 1 n := by
  unfold lookS knownS
  by_cases h1 : n = 6
  · subst h1; simp
  by_cases h2 : n = 17
  · subst h2; simp
  by_cases h3 : n = 1
  · subst h3; simp
  · simp [h1, h2, h3]
set_option maxRecDepth 100000 in
set_option maxHeartbeats 4000000 in
theorem readers_4 (f : Int) (w : World) (hf : f = 4) : Calls Try.prog 33 #[.int .i64 f] w fun e w' => ∃ es G, e = .returned (.map (some G)) ∧ w'.heap[G]? = some (.map es 3) ∧ Tab 1 es ∧ Below w.heap.size w w' := by
  have KI : Hid (∀ W, Calls Try.prog 57 #[.int .i64 f] W fun e w' => e = .returned (.int .i64 1) ∧ w' = W) := fun W => by
    have := icmpOf_any f W
    unfold icmpOf at this
    rw [if_pos hf] at this
    exact this
  clear hf
  go_enter Try.func33, Try.ntmps33
  go_wp2_with fail
  refine wp_region_noPanic ?_
  refine wp_region_held_drew (S := fun _ => True) (by kernel_rfl) trivial (fun hHeld => ?_)
  refine tk (i := 3) (oi := sgrR20o7) (v := (.int .i64 f)) hHeld ?_ ?_
  · intro w9 hSw
    try dsimp only at hSw
    go_simp
  try simp only [pu]
  have c0 : Below w.heap.size w w.drew := (Below.refl _ _).drew
  obtain ⟨W0, hW0⟩ : ∃ W, w.drew = W := ⟨_, rfl⟩
  rw [hW0] at c0 ⊢
  clear hW0
  refine wpAnyH_ready (rs := [0, 4]) (by kernel_rfl) (by simp) ?_
  refine (AllReadyH.cons (o := sgrR20o6) rfl (fun K hK => ?_) (AllReadyH.cons (o := sgrR20o5) rfl (fun K hK => ?_) AllReadyH.nil))
  · refine step_mk rfl _ rfl ?_
    have hb := World.heap_new W0 (.map #[] 0)
    have c1 := c0.alloc c0.size (.map #[] 0)
    have hG : w.heap.size ≤ W0.heap.size := c0.size
    have hL : W0.heap.size < (W0.alloc (.map #[] 0)).heap.size := by simp
    refine hK.out _ _ trivial (fun hHeld => ?_)
    clear hK K
    generalize W0.alloc (.map #[] 0) = W1 at *
    generalize W0.heap.size = G at *
    try simp only [pu]
    refine wpAnyH_ready (rs := [1, 2, 4]) (by kernel_rfl) (by simp) ?_
    refine (AllReadyH.cons (o := sgrR20o4) rfl (fun K hK => ?_) (AllReadyH.cons (o := sgrR20o3) rfl (fun K hK => ?_) (AllReadyH.cons (o := sgrR20o5) rfl (fun K hK => ?_) AllReadyH.nil)))
    · refine step_ins rfl _ _ _ rfl G 6 ftcp (#[] : Array MapEntry) 0 (by kernel_rfl) (by kernel_rfl) (by kernel_rfl) hb rfl ?_
      intro W2 hb' gr sz
      have c2 : Below w.heap.size w W2 := c1.grown gr c1.size (fun k hk => by cases hk; exact hG)
      have hL' : G < W2.heap.size := by rw [sz]; exact hL
      clear hb hL sz gr c1
      have hL := hL'
      have hb : W2.heap[G]? = some (.map #[⟨.int .i64 6, ftcp, 0⟩] 1) := hb'
      clear hb' hL'
      refine hK.out _ _ trivial (fun hHeld => ?_)
      clear hK K
      try simp only [pu]
      refine wpAnyH_ready (rs := [2, 4]) (by kernel_rfl) (by simp) ?_
      refine (AllReadyH.cons (o := sgrR20o3) rfl (fun K hK => ?_) (AllReadyH.cons (o := sgrR20o5) rfl (fun K hK => ?_) AllReadyH.nil))
      · refine step_ins rfl _ _ _ rfl G 17 fudp (#[⟨.int .i64 6, ftcp, 0⟩] : Array MapEntry) 1 (by kernel_rfl) (by kernel_rfl) (by kernel_rfl) hb rfl ?_
        intro W3 hb' gr sz
        have c3 : Below w.heap.size w W3 := c2.grown gr c2.size (fun k hk => by cases hk; exact hG)
        have hL' : G < W3.heap.size := by rw [sz]; exact hL
        clear hb hL sz gr c2
        have hL := hL'
        have hb : W3.heap[G]? = some (.map #[⟨.int .i64 6, ftcp, 0⟩, ⟨.int .i64 17, fudp, 1⟩] 2) := hb'
        clear hb' hL'
        refine hK.out _ _ trivial (fun hHeld => ?_)
        clear hK K
        try simp only [pu]
        refine wpAnyH_ready (rs := [4]) (by kernel_rfl) (by simp) ?_
        refine (AllReadyH.cons (o := sgrR20o5) rfl (fun K hK => ?_) AllReadyH.nil)
        · go_simp
          refine Calls.mono (KI.out _) ?_
          rintro e W4 ⟨rfl, hW4⟩
          rw [hW4]
          clear hW4 W4
          refine hK.out _ _ trivial (fun hHeld => ?_)
          clear hK K
          try simp only [pu]
          refine wpAnyH_ready (rs := [5]) (by kernel_rfl) (by simp) ?_
          refine (AllReadyH.cons (o := sgrR20o2) rfl (fun K hK => ?_) AllReadyH.nil)
          · refine step_ins rfl _ _ _ rfl G 1 ficmp (#[⟨.int .i64 6, ftcp, 0⟩, ⟨.int .i64 17, fudp, 1⟩] : Array MapEntry) 2 (by kernel_rfl) (by kernel_rfl) (by kernel_rfl) hb rfl ?_
            intro W5 hb' gr sz
            have c5 : Below w.heap.size w W5 := c3.grown gr c3.size (fun k hk => by cases hk; exact hG)
            have hL' : G < W5.heap.size := by rw [sz]; exact hL
            clear hb hL sz gr c3
            have hL := hL'
            have hb : W5.heap[G]? = some (.map #[⟨.int .i64 6, ftcp, 0⟩, ⟨.int .i64 17, fudp, 1⟩, ⟨.int .i64 1, ficmp, 2⟩] 3) := hb'
            clear hb' hL'
            refine hK.out _ _ trivial (fun hHeld => ?_)
            clear hK K
            try simp only [pu]
            refine tk (i := 6) (oi := sgrR20o1) (v := (.map (some G))) hHeld ?_ ?_
            · intro w9 hSw
              try dsimp only at hSw
              go_simp
            try simp only [pu]
            refine tk (i := 7) (oi := sgrR20o0) (v := (.map (some G))) hHeld ?_ ?_
            · intro w9 hSw
              try dsimp only at hSw
              go_simp
            try simp only [pu]
            refine wpAnyH_done (by kernel_rfl) ?_ _
            refine NoPanic.normal ?_
            go_wp2
            go_ret
            exact ⟨_, G, rfl, hb, tab_of 1 6 17 1 ftcp fudp ficmp (by decide) (by decide) (by decide) (fun n => tab_4_ABI n), c5⟩
      · go_simp
        refine Calls.mono (KI.out _) ?_
        rintro e W6 ⟨rfl, hW6⟩
        rw [hW6]
        clear hW6 W6
        refine hK.out _ _ trivial (fun hHeld => ?_)
        clear hK K
        try simp only [pu]
        refine wpAnyH_ready (rs := [2, 5]) (by kernel_rfl) (by simp) ?_
        refine (AllReadyH.cons (o := sgrR20o3) rfl (fun K hK => ?_) (AllReadyH.cons (o := sgrR20o2) rfl (fun K hK => ?_) AllReadyH.nil))
        · refine step_ins rfl _ _ _ rfl G 17 fudp (#[⟨.int .i64 6, ftcp, 0⟩] : Array MapEntry) 1 (by kernel_rfl) (by kernel_rfl) (by kernel_rfl) hb rfl ?_
          intro W7 hb' gr sz
          have c7 : Below w.heap.size w W7 := c2.grown gr c2.size (fun k hk => by cases hk; exact hG)
          have hL' : G < W7.heap.size := by rw [sz]; exact hL
          clear hb hL sz gr c2
          have hL := hL'
          have hb : W7.heap[G]? = some (.map #[⟨.int .i64 6, ftcp, 0⟩, ⟨.int .i64 17, fudp, 1⟩] 2) := hb'
          clear hb' hL'
          refine hK.out _ _ trivial (fun hHeld => ?_)
          clear hK K
          try simp only [pu]
          refine wpAnyH_ready (rs := [5]) (by kernel_rfl) (by simp) ?_
          refine (AllReadyH.cons (o := sgrR20o2) rfl (fun K hK => ?_) AllReadyH.nil)
          · refine step_ins rfl _ _ _ rfl G 1 ficmp (#[⟨.int .i64 6, ftcp, 0⟩, ⟨.int .i64 17, fudp, 1⟩] : Array MapEntry) 2 (by kernel_rfl) (by kernel_rfl) (by kernel_rfl) hb rfl ?_
            intro W8 hb' gr sz
            have c8 : Below w.heap.size w W8 := c7.grown gr c7.size (fun k hk => by cases hk; exact hG)
            have hL' : G < W8.heap.size := by rw [sz]; exact hL
            clear hb hL sz gr c7
            have hL := hL'
            have hb : W8.heap[G]? = some (.map #[⟨.int .i64 6, ftcp, 0⟩, ⟨.int .i64 17, fudp, 1⟩, ⟨.int .i64 1, ficmp, 2⟩] 3) := hb'
            clear hb' hL'
            refine hK.out _ _ trivial (fun hHeld => ?_)
            clear hK K
            try simp only [pu]
            refine tk (i := 6) (oi := sgrR20o1) (v := (.map (some G))) hHeld ?_ ?_
            · intro w9 hSw
              try dsimp only at hSw
              go_simp
            try simp only [pu]
            refine tk (i := 7) (oi := sgrR20o0) (v := (.map (some G))) hHeld ?_ ?_
            · intro w9 hSw
              try dsimp only at hSw
              go_simp
            try simp only [pu]
            refine wpAnyH_done (by kernel_rfl) ?_ _
            refine NoPanic.normal ?_
            go_wp2
            go_ret
            exact ⟨_, G, rfl, hb, tab_of 1 6 17 1 ftcp fudp ficmp (by decide) (by decide) (by decide) (fun n => tab_4_ABI n), c8⟩
        · refine step_ins rfl _ _ _ rfl G 1 ficmp (#[⟨.int .i64 6, ftcp, 0⟩] : Array MapEntry) 1 (by kernel_rfl) (by kernel_rfl) (by kernel_rfl) hb rfl ?_
          intro W9 hb' gr sz
          have c9 : Below w.heap.size w W9 := c2.grown gr c2.size (fun k hk => by cases hk; exact hG)
          have hL' : G < W9.heap.size := by rw [sz]; exact hL
          clear hb hL sz gr c2
          have hL := hL'
          have hb : W9.heap[G]? = some (.map #[⟨.int .i64 6, ftcp, 0⟩, ⟨.int .i64 1, ficmp, 1⟩] 2) := hb'
          clear hb' hL'
          refine hK.out _ _ trivial (fun hHeld => ?_)
          clear hK K
          try simp only [pu]
          refine wpAnyH_ready (rs := [2]) (by kernel_rfl) (by simp) ?_
          refine (AllReadyH.cons (o := sgrR20o3) rfl (fun K hK => ?_) AllReadyH.nil)
          · refine step_ins rfl _ _ _ rfl G 17 fudp (#[⟨.int .i64 6, ftcp, 0⟩, ⟨.int .i64 1, ficmp, 1⟩] : Array MapEntry) 2 (by kernel_rfl) (by kernel_rfl) (by kernel_rfl) hb rfl ?_
            intro W10 hb' gr sz
            have c10 : Below w.heap.size w W10 := c9.grown gr c9.size (fun k hk => by cases hk; exact hG)
            have hL' : G < W10.heap.size := by rw [sz]; exact hL
            clear hb hL sz gr c9
            have hL := hL'
            have hb : W10.heap[G]? = some (.map #[⟨.int .i64 6, ftcp, 0⟩, ⟨.int .i64 1, ficmp, 1⟩, ⟨.int .i64 17, fudp, 2⟩] 3) := hb'
            clear hb' hL'
            refine hK.out _ _ trivial (fun hHeld => ?_)
            clear hK K
            try simp only [pu]
            refine tk (i := 6) (oi := sgrR20o1) (v := (.map (some G))) hHeld ?_ ?_
            · intro w9 hSw
              try dsimp only at hSw
              go_simp
            try simp only [pu]
            refine tk (i := 7) (oi := sgrR20o0) (v := (.map (some G))) hHeld ?_ ?_
            · intro w9 hSw
              try dsimp only at hSw
              go_simp
            try simp only [pu]
            refine wpAnyH_done (by kernel_rfl) ?_ _
            refine NoPanic.normal ?_
            go_wp2
            go_ret
            exact ⟨_, G, rfl, hb, tab_of 1 6 1 17 ftcp ficmp fudp (by decide) (by decide) (by decide) (fun n => tab_4_AIB n), c10⟩
    · refine step_ins rfl _ _ _ rfl G 17 fudp (#[] : Array MapEntry) 0 (by kernel_rfl) (by kernel_rfl) (by kernel_rfl) hb rfl ?_
      intro W11 hb' gr sz
      have c11 : Below w.heap.size w W11 := c1.grown gr c1.size (fun k hk => by cases hk; exact hG)
      have hL' : G < W11.heap.size := by rw [sz]; exact hL
      clear hb hL sz gr c1
      have hL := hL'
      have hb : W11.heap[G]? = some (.map #[⟨.int .i64 17, fudp, 0⟩] 1) := hb'
      clear hb' hL'
      refine hK.out _ _ trivial (fun hHeld => ?_)
      clear hK K
      try simp only [pu]
      refine wpAnyH_ready (rs := [1, 4]) (by kernel_rfl) (by simp) ?_
      refine (AllReadyH.cons (o := sgrR20o4) rfl (fun K hK => ?_) (AllReadyH.cons (o := sgrR20o5) rfl (fun K hK => ?_) AllReadyH.nil))
      · refine step_ins rfl _ _ _ rfl G 6 ftcp (#[⟨.int .i64 17, fudp, 0⟩] : Array MapEntry) 1 (by kernel_rfl) (by kernel_rfl) (by kernel_rfl) hb rfl ?_
        intro W12 hb' gr sz
        have c12 : Below w.heap.size w W12 := c11.grown gr c11.size (fun k hk => by cases hk; exact hG)
        have hL' : G < W12.heap.size := by rw [sz]; exact hL
        clear hb hL sz gr c11
        have hL := hL'
        have hb : W12.heap[G]? = some (.map #[⟨.int .i64 17, fudp, 0⟩, ⟨.int .i64 6, ftcp, 1⟩] 2) := hb'
        clear hb' hL'
        refine hK.out _ _ trivial (fun hHeld => ?_)
        clear hK K
        try simp only [pu]
        refine wpAnyH_ready (rs := [4]) (by kernel_rfl) (by simp) ?_
        refine (AllReadyH.cons (o := sgrR20o5) rfl (fun K hK => ?_) AllReadyH.nil)
        · go_simp
          refine Calls.mono (KI.out _) ?_
          rintro e W13 ⟨rfl, hW13⟩
          rw [hW13]
          clear hW13 W13
          refine hK.out _ _ trivial (fun hHeld => ?_)
          clear hK K
          try simp only [pu]
          refine wpAnyH_ready (rs := [5]) (by kernel_rfl) (by simp) ?_
          refine (AllReadyH.cons (o := sgrR20o2) rfl (fun K hK => ?_) AllReadyH.nil)
          · refine step_ins rfl _ _ _ rfl G 1 ficmp (#[⟨.int .i64 17, fudp, 0⟩, ⟨.int .i64 6, ftcp, 1⟩] : Array MapEntry) 2 (by kernel_rfl) (by kernel_rfl) (by kernel_rfl) hb rfl ?_
            intro W14 hb' gr sz
            have c14 : Below w.heap.size w W14 := c12.grown gr c12.size (fun k hk => by cases hk; exact hG)
            have hL' : G < W14.heap.size := by rw [sz]; exact hL
            clear hb hL sz gr c12
            have hL := hL'
            have hb : W14.heap[G]? = some (.map #[⟨.int .i64 17, fudp, 0⟩, ⟨.int .i64 6, ftcp, 1⟩, ⟨.int .i64 1, ficmp, 2⟩] 3) := hb'
            clear hb' hL'
            refine hK.out _ _ trivial (fun hHeld => ?_)
            clear hK K
            try simp only [pu]
            refine tk (i := 6) (oi := sgrR20o1) (v := (.map (some G))) hHeld ?_ ?_
            · intro w9 hSw
              try dsimp only at hSw
              go_simp
            try simp only [pu]
            refine tk (i := 7) (oi := sgrR20o0) (v := (.map (some G))) hHeld ?_ ?_
            · intro w9 hSw
              try dsimp only at hSw
              go_simp
            try simp only [pu]
            refine wpAnyH_done (by kernel_rfl) ?_ _
            refine NoPanic.normal ?_
            go_wp2
            go_ret
            exact ⟨_, G, rfl, hb, tab_of 1 17 6 1 fudp ftcp ficmp (by decide) (by decide) (by decide) (fun n => tab_4_BAI n), c14⟩
      · go_simp
        refine Calls.mono (KI.out _) ?_
        rintro e W15 ⟨rfl, hW15⟩
        rw [hW15]
        clear hW15 W15
        refine hK.out _ _ trivial (fun hHeld => ?_)
        clear hK K
        try simp only [pu]
        refine wpAnyH_ready (rs := [1, 5]) (by kernel_rfl) (by simp) ?_
        refine (AllReadyH.cons (o := sgrR20o4) rfl (fun K hK => ?_) (AllReadyH.cons (o := sgrR20o2) rfl (fun K hK => ?_) AllReadyH.nil))
        · refine step_ins rfl _ _ _ rfl G 6 ftcp (#[⟨.int .i64 17, fudp, 0⟩] : Array MapEntry) 1 (by kernel_rfl) (by kernel_rfl) (by kernel_rfl) hb rfl ?_
          intro W16 hb' gr sz
          have c16 : Below w.heap.size w W16 := c11.grown gr c11.size (fun k hk => by cases hk; exact hG)
          have hL' : G < W16.heap.size := by rw [sz]; exact hL
          clear hb hL sz gr c11
          have hL := hL'
          have hb : W16.heap[G]? = some (.map #[⟨.int .i64 17, fudp, 0⟩, ⟨.int .i64 6, ftcp, 1⟩] 2) := hb'
          clear hb' hL'
          refine hK.out _ _ trivial (fun hHeld => ?_)
          clear hK K
          try simp only [pu]
          refine wpAnyH_ready (rs := [5]) (by kernel_rfl) (by simp) ?_
          refine (AllReadyH.cons (o := sgrR20o2) rfl (fun K hK => ?_) AllReadyH.nil)
          · refine step_ins rfl _ _ _ rfl G 1 ficmp (#[⟨.int .i64 17, fudp, 0⟩, ⟨.int .i64 6, ftcp, 1⟩] : Array MapEntry) 2 (by kernel_rfl) (by kernel_rfl) (by kernel_rfl) hb rfl ?_
            intro W17 hb' gr sz
            have c17 : Below w.heap.size w W17 := c16.grown gr c16.size (fun k hk => by cases hk; exact hG)
            have hL' : G < W17.heap.size := by rw [sz]; exact hL
            clear hb hL sz gr c16
            have hL := hL'
            have hb : W17.heap[G]? = some (.map #[⟨.int .i64 17, fudp, 0⟩, ⟨.int .i64 6, ftcp, 1⟩, ⟨.int .i64 1, ficmp, 2⟩] 3) := hb'
            clear hb' hL'
            refine hK.out _ _ trivial (fun hHeld => ?_)
            clear hK K
            try simp only [pu]
            refine tk (i := 6) (oi := sgrR20o1) (v := (.map (some G))) hHeld ?_ ?_
            · intro w9 hSw
              try dsimp only at hSw
              go_simp
            try simp only [pu]
            refine tk (i := 7) (oi := sgrR20o0) (v := (.map (some G))) hHeld ?_ ?_
            · intro w9 hSw
              try dsimp only at hSw
              go_simp
            try simp only [pu]
            refine wpAnyH_done (by kernel_rfl) ?_ _
            refine NoPanic.normal ?_
            go_wp2
            go_ret
            exact ⟨_, G, rfl, hb, tab_of 1 17 6 1 fudp ftcp ficmp (by decide) (by decide) (by decide) (fun n => tab_4_BAI n), c17⟩
        · refine step_ins rfl _ _ _ rfl G 1 ficmp (#[⟨.int .i64 17, fudp, 0⟩] : Array MapEntry) 1 (by kernel_rfl) (by kernel_rfl) (by kernel_rfl) hb rfl ?_
          intro W18 hb' gr sz
          have c18 : Below w.heap.size w W18 := c11.grown gr c11.size (fun k hk => by cases hk; exact hG)
          have hL' : G < W18.heap.size := by rw [sz]; exact hL
          clear hb hL sz gr c11
          have hL := hL'
          have hb : W18.heap[G]? = some (.map #[⟨.int .i64 17, fudp, 0⟩, ⟨.int .i64 1, ficmp, 1⟩] 2) := hb'
          clear hb' hL'
          refine hK.out _ _ trivial (fun hHeld => ?_)
          clear hK K
          try simp only [pu]
          refine wpAnyH_ready (rs := [1]) (by kernel_rfl) (by simp) ?_
          refine (AllReadyH.cons (o := sgrR20o4) rfl (fun K hK => ?_) AllReadyH.nil)
          · refine step_ins rfl _ _ _ rfl G 6 ftcp (#[⟨.int .i64 17, fudp, 0⟩, ⟨.int .i64 1, ficmp, 1⟩] : Array MapEntry) 2 (by kernel_rfl) (by kernel_rfl) (by kernel_rfl) hb rfl ?_
            intro W19 hb' gr sz
            have c19 : Below w.heap.size w W19 := c18.grown gr c18.size (fun k hk => by cases hk; exact hG)
            have hL' : G < W19.heap.size := by rw [sz]; exact hL
            clear hb hL sz gr c18
            have hL := hL'
            have hb : W19.heap[G]? = some (.map #[⟨.int .i64 17, fudp, 0⟩, ⟨.int .i64 1, ficmp, 1⟩, ⟨.int .i64 6, ftcp, 2⟩] 3) := hb'
            clear hb' hL'
            refine hK.out _ _ trivial (fun hHeld => ?_)
            clear hK K
            try simp only [pu]
            refine tk (i := 6) (oi := sgrR20o1) (v := (.map (some G))) hHeld ?_ ?_
            · intro w9 hSw
              try dsimp only at hSw
              go_simp
            try simp only [pu]
            refine tk (i := 7) (oi := sgrR20o0) (v := (.map (some G))) hHeld ?_ ?_
            · intro w9 hSw
              try dsimp only at hSw
              go_simp
            try simp only [pu]
            refine wpAnyH_done (by kernel_rfl) ?_ _
            refine NoPanic.normal ?_
            go_wp2
            go_ret
            exact ⟨_, G, rfl, hb, tab_of 1 17 1 6 fudp ficmp ftcp (by decide) (by decide) (by decide) (fun n => tab_4_BIA n), c19⟩
    · go_simp
      refine Calls.mono (KI.out _) ?_
      rintro e W20 ⟨rfl, hW20⟩
      rw [hW20]
      clear hW20 W20
      refine hK.out _ _ trivial (fun hHeld => ?_)
      clear hK K
      try simp only [pu]
      refine wpAnyH_ready (rs := [1, 2, 5]) (by kernel_rfl) (by simp) ?_
      refine (AllReadyH.cons (o := sgrR20o4) rfl (fun K hK => ?_) (AllReadyH.cons (o := sgrR20o3) rfl (fun K hK => ?_) (AllReadyH.cons (o := sgrR20o2) rfl (fun K hK => ?_) AllReadyH.nil)))
      · refine step_ins rfl _ _ _ rfl G 6 ftcp (#[] : Array MapEntry) 0 (by kernel_rfl) (by kernel_rfl) (by kernel_rfl) hb rfl ?_
        intro W21 hb' gr sz
        have c21 : Below w.heap.size w W21 := c1.grown gr c1.size (fun k hk => by cases hk; exact hG)
        have hL' : G < W21.heap.size := by rw [sz]; exact hL
        clear hb hL sz gr c1
        have hL := hL'
        have hb : W21.heap[G]? = some (.map #[⟨.int .i64 6, ftcp, 0⟩] 1) := hb'
        clear hb' hL'
        refine hK.out _ _ trivial (fun hHeld => ?_)
        clear hK K
        try simp only [pu]
        refine wpAnyH_ready (rs := [2, 5]) (by kernel_rfl) (by simp) ?_
        refine (AllReadyH.cons (o := sgrR20o3) rfl (fun K hK => ?_) (AllReadyH.cons (o := sgrR20o2) rfl (fun K hK => ?_) AllReadyH.nil))
        · refine step_ins rfl _ _ _ rfl G 17 fudp (#[⟨.int .i64 6, ftcp, 0⟩] : Array MapEntry) 1 (by kernel_rfl) (by kernel_rfl) (by kernel_rfl) hb rfl ?_
          intro W22 hb' gr sz
          have c22 : Below w.heap.size w W22 := c21.grown gr c21.size (fun k hk => by cases hk; exact hG)
          have hL' : G < W22.heap.size := by rw [sz]; exact hL
          clear hb hL sz gr c21
          have hL := hL'
          have hb : W22.heap[G]? = some (.map #[⟨.int .i64 6, ftcp, 0⟩, ⟨.int .i64 17, fudp, 1⟩] 2) := hb'
          clear hb' hL'
          refine hK.out _ _ trivial (fun hHeld => ?_)
          clear hK K
          try simp only [pu]
          refine wpAnyH_ready (rs := [5]) (by kernel_rfl) (by simp) ?_
          refine (AllReadyH.cons (o := sgrR20o2) rfl (fun K hK => ?_) AllReadyH.nil)
          · refine step_ins rfl _ _ _ rfl G 1 ficmp (#[⟨.int .i64 6, ftcp, 0⟩, ⟨.int .i64 17, fudp, 1⟩] : Array MapEntry) 2 (by kernel_rfl) (by kernel_rfl) (by kernel_rfl) hb rfl ?_
            intro W23 hb' gr sz
            have c23 : Below w.heap.size w W23 := c22.grown gr c22.size (fun k hk => by cases hk; exact hG)
            have hL' : G < W23.heap.size := by rw [sz]; exact hL
            clear hb hL sz gr c22
            have hL := hL'
            have hb : W23.heap[G]? = some (.map #[⟨.int .i64 6, ftcp, 0⟩, ⟨.int .i64 17, fudp, 1⟩, ⟨.int .i64 1, ficmp, 2⟩] 3) := hb'
            clear hb' hL'
            refine hK.out _ _ trivial (fun hHeld => ?_)
            clear hK K
            try simp only [pu]
            refine tk (i := 6) (oi := sgrR20o1) (v := (.map (some G))) hHeld ?_ ?_
            · intro w9 hSw
              try dsimp only at hSw
              go_simp
            try simp only [pu]
            refine tk (i := 7) (oi := sgrR20o0) (v := (.map (some G))) hHeld ?_ ?_
            · intro w9 hSw
              try dsimp only at hSw
              go_simp
            try simp only [pu]
            refine wpAnyH_done (by kernel_rfl) ?_ _
            refine NoPanic.normal ?_
            go_wp2
            go_ret
            exact ⟨_, G, rfl, hb, tab_of 1 6 17 1 ftcp fudp ficmp (by decide) (by decide) (by decide) (fun n => tab_4_ABI n), c23⟩
        · refine step_ins rfl _ _ _ rfl G 1 ficmp (#[⟨.int .i64 6, ftcp, 0⟩] : Array MapEntry) 1 (by kernel_rfl) (by kernel_rfl) (by kernel_rfl) hb rfl ?_
          intro W24 hb' gr sz
          have c24 : Below w.heap.size w W24 := c21.grown gr c21.size (fun k hk => by cases hk; exact hG)
          have hL' : G < W24.heap.size := by rw [sz]; exact hL
          clear hb hL sz gr c21
          have hL := hL'
          have hb : W24.heap[G]? = some (.map #[⟨.int .i64 6, ftcp, 0⟩, ⟨.int .i64 1, ficmp, 1⟩] 2) := hb'
          clear hb' hL'
          refine hK.out _ _ trivial (fun hHeld => ?_)
          clear hK K
          try simp only [pu]
          refine wpAnyH_ready (rs := [2]) (by kernel_rfl) (by simp) ?_
          refine (AllReadyH.cons (o := sgrR20o3) rfl (fun K hK => ?_) AllReadyH.nil)
          · refine step_ins rfl _ _ _ rfl G 17 fudp (#[⟨.int .i64 6, ftcp, 0⟩, ⟨.int .i64 1, ficmp, 1⟩] : Array MapEntry) 2 (by kernel_rfl) (by kernel_rfl) (by kernel_rfl) hb rfl ?_
            intro W25 hb' gr sz
            have c25 : Below w.heap.size w W25 := c24.grown gr c24.size (fun k hk => by cases hk; exact hG)
            have hL' : G < W25.heap.size := by rw [sz]; exact hL
            clear hb hL sz gr c24
            have hL := hL'
            have hb : W25.heap[G]? = some (.map #[⟨.int .i64 6, ftcp, 0⟩, ⟨.int .i64 1, ficmp, 1⟩, ⟨.int .i64 17, fudp, 2⟩] 3) := hb'
            clear hb' hL'
            refine hK.out _ _ trivial (fun hHeld => ?_)
            clear hK K
            try simp only [pu]
            refine tk (i := 6) (oi := sgrR20o1) (v := (.map (some G))) hHeld ?_ ?_
            · intro w9 hSw
              try dsimp only at hSw
              go_simp
            try simp only [pu]
            refine tk (i := 7) (oi := sgrR20o0) (v := (.map (some G))) hHeld ?_ ?_
            · intro w9 hSw
              try dsimp only at hSw
              go_simp
            try simp only [pu]
            refine wpAnyH_done (by kernel_rfl) ?_ _
            refine NoPanic.normal ?_
            go_wp2
            go_ret
            exact ⟨_, G, rfl, hb, tab_of 1 6 1 17 ftcp ficmp fudp (by decide) (by decide) (by decide) (fun n => tab_4_AIB n), c25⟩
      · refine step_ins rfl _ _ _ rfl G 17 fudp (#[] : Array MapEntry) 0 (by kernel_rfl) (by kernel_rfl) (by kernel_rfl) hb rfl ?_
        intro W26 hb' gr sz
        have c26 : Below w.heap.size w W26 := c1.grown gr c1.size (fun k hk => by cases hk; exact hG)
        have hL' : G < W26.heap.size := by rw [sz]; exact hL
        clear hb hL sz gr c1
        have hL := hL'
        have hb : W26.heap[G]? = some (.map #[⟨.int .i64 17, fudp, 0⟩] 1) := hb'
        clear hb' hL'
        refine hK.out _ _ trivial (fun hHeld => ?_)
        clear hK K
        try simp only [pu]
        refine wpAnyH_ready (rs := [1, 5]) (by kernel_rfl) (by simp) ?_
        refine (AllReadyH.cons (o := sgrR20o4) rfl (fun K hK => ?_) (AllReadyH.cons (o := sgrR20o2) rfl (fun K hK => ?_) AllReadyH.nil))
        · refine step_ins rfl _ _ _ rfl G 6 ftcp (#[⟨.int .i64 17, fudp, 0⟩] : Array MapEntry) 1 (by kernel_rfl) (by kernel_rfl) (by kernel_rfl) hb rfl ?_
          intro W27 hb' gr sz
          have c27 : Below w.heap.size w W27 := c26.grown gr c26.size (fun k hk => by cases hk; exact hG)
          have hL' : G < W27.heap.size := by rw [sz]; exact hL
          clear hb hL sz gr c26
          have hL := hL'
          have hb : W27.heap[G]? = some (.map #[⟨.int .i64 17, fudp, 0⟩, ⟨.int .i64 6, ftcp, 1⟩] 2) := hb'
          clear hb' hL'
          refine hK.out _ _ trivial (fun hHeld => ?_)
          clear hK K
          try simp only [pu]
          refine wpAnyH_ready (rs := [5]) (by kernel_rfl) (by simp) ?_
          refine (AllReadyH.cons (o := sgrR20o2) rfl (fun K hK => ?_) AllReadyH.nil)
          · refine step_ins rfl _ _ _ rfl G 1 ficmp (#[⟨.int .i64 17, fudp, 0⟩, ⟨.int .i64 6, ftcp, 1⟩] : Array MapEntry) 2 (by kernel_rfl) (by kernel_rfl) (by kernel_rfl) hb rfl ?_
            intro W28 hb' gr sz
            have c28 : Below w.heap.size w W28 := c27.grown gr c27.size (fun k hk => by cases hk; exact hG)
            have hL' : G < W28.heap.size := by rw [sz]; exact hL
            clear hb hL sz gr c27
            have hL := hL'
            have hb : W28.heap[G]? = some (.map #[⟨.int .i64 17, fudp, 0⟩, ⟨.int .i64 6, ftcp, 1⟩, ⟨.int .i64 1, ficmp, 2⟩] 3) := hb'
            clear hb' hL'
            refine hK.out _ _ trivial (fun hHeld => ?_)
            clear hK K
            try simp only [pu]
            refine tk (i := 6) (oi := sgrR20o1) (v := (.map (some G))) hHeld ?_ ?_
            · intro w9 hSw
              try dsimp only at hSw
              go_simp
            try simp only [pu]
            refine tk (i := 7) (oi := sgrR20o0) (v := (.map (some G))) hHeld ?_ ?_
            · intro w9 hSw
              try dsimp only at hSw
              go_simp
            try simp only [pu]
            refine wpAnyH_done (by kernel_rfl) ?_ _
            refine NoPanic.normal ?_
            go_wp2
            go_ret
            exact ⟨_, G, rfl, hb, tab_of 1 17 6 1 fudp ftcp ficmp (by decide) (by decide) (by decide) (fun n => tab_4_BAI n), c28⟩
        · refine step_ins rfl _ _ _ rfl G 1 ficmp (#[⟨.int .i64 17, fudp, 0⟩] : Array MapEntry) 1 (by kernel_rfl) (by kernel_rfl) (by kernel_rfl) hb rfl ?_
          intro W29 hb' gr sz
          have c29 : Below w.heap.size w W29 := c26.grown gr c26.size (fun k hk => by cases hk; exact hG)
          have hL' : G < W29.heap.size := by rw [sz]; exact hL
          clear hb hL sz gr c26
          have hL := hL'
          have hb : W29.heap[G]? = some (.map #[⟨.int .i64 17, fudp, 0⟩, ⟨.int .i64 1, ficmp, 1⟩] 2) := hb'
          clear hb' hL'
          refine hK.out _ _ trivial (fun hHeld => ?_)
          clear hK K
          try simp only [pu]
          refine wpAnyH_ready (rs := [1]) (by kernel_rfl) (by simp) ?_
          refine (AllReadyH.cons (o := sgrR20o4) rfl (fun K hK => ?_) AllReadyH.nil)
          · refine step_ins rfl _ _ _ rfl G 6 ftcp (#[⟨.int .i64 17, fudp, 0⟩, ⟨.int .i64 1, ficmp, 1⟩] : Array MapEntry) 2 (by kernel_rfl) (by kernel_rfl) (by kernel_rfl) hb rfl ?_
            intro W30 hb' gr sz
            have c30 : Below w.heap.size w W30 := c29.grown gr c29.size (fun k hk => by cases hk; exact hG)
            have hL' : G < W30.heap.size := by rw [sz]; exact hL
            clear hb hL sz gr c29
            have hL := hL'
            have hb : W30.heap[G]? = some (.map #[⟨.int .i64 17, fudp, 0⟩, ⟨.int .i64 1, ficmp, 1⟩, ⟨.int .i64 6, ftcp, 2⟩] 3) := hb'
            clear hb' hL'
            refine hK.out _ _ trivial (fun hHeld => ?_)
            clear hK K
            try simp only [pu]
            refine tk (i := 6) (oi := sgrR20o1) (v := (.map (some G))) hHeld ?_ ?_
            · intro w9 hSw
              try dsimp only at hSw
              go_simp
            try simp only [pu]
            refine tk (i := 7) (oi := sgrR20o0) (v := (.map (some G))) hHeld ?_ ?_
            · intro w9 hSw
              try dsimp only at hSw
              go_simp
            try simp only [pu]
            refine wpAnyH_done (by kernel_rfl) ?_ _
            refine NoPanic.normal ?_
            go_wp2
            go_ret
            exact ⟨_, G, rfl, hb, tab_of 1 17 1 6 fudp ficmp ftcp (by decide) (by decide) (by decide) (fun n => tab_4_BIA n), c30⟩
      · refine step_ins rfl _ _ _ rfl G 1 ficmp (#[] : Array MapEntry) 0 (by kernel_rfl) (by kernel_rfl) (by kernel_rfl) hb rfl ?_
        intro W31 hb' gr sz
        have c31 : Below w.heap.size w W31 := c1.grown gr c1.size (fun k hk => by cases hk; exact hG)
        have hL' : G < W31.heap.size := by rw [sz]; exact hL
        clear hb hL sz gr c1
        have hL := hL'
        have hb : W31.heap[G]? = some (.map #[⟨.int .i64 1, ficmp, 0⟩] 1) := hb'
        clear hb' hL'
        refine hK.out _ _ trivial (fun hHeld => ?_)
        clear hK K
        try simp only [pu]
        refine wpAnyH_ready (rs := [1, 2]) (by kernel_rfl) (by simp) ?_
        refine (AllReadyH.cons (o := sgrR20o4) rfl (fun K hK => ?_) (AllReadyH.cons (o := sgrR20o3) rfl (fun K hK => ?_) AllReadyH.nil))
        · refine step_ins rfl _ _ _ rfl G 6 ftcp (#[⟨.int .i64 1, ficmp, 0⟩] : Array MapEntry) 1 (by kernel_rfl) (by kernel_rfl) (by kernel_rfl) hb rfl ?_
          intro W32 hb' gr sz
          have c32 : Below w.heap.size w W32 := c31.grown gr c31.size (fun k hk => by cases hk; exact hG)
          have hL' : G < W32.heap.size := by rw [sz]; exact hL
          clear hb hL sz gr c31
          have hL := hL'
          have hb : W32.heap[G]? = some (.map #[⟨.int .i64 1, ficmp, 0⟩, ⟨.int .i64 6, ftcp, 1⟩] 2) := hb'
          clear hb' hL'
          refine hK.out _ _ trivial (fun hHeld => ?_)
          clear hK K
          try simp only [pu]
          refine wpAnyH_ready (rs := [2]) (by kernel_rfl) (by simp) ?_
          refine (AllReadyH.cons (o := sgrR20o3) rfl (fun K hK => ?_) AllReadyH.nil)
          · refine step_ins rfl _ _ _ rfl G 17 fudp (#[⟨.int .i64 1, ficmp, 0⟩, ⟨.int .i64 6, ftcp, 1⟩] : Array MapEntry) 2 (by kernel_rfl) (by kernel_rfl) (by kernel_rfl) hb rfl ?_
            intro W33 hb' gr sz
            have c33 : Below w.heap.size w W33 := c32.grown gr c32.size (fun k hk => by cases hk; exact hG)
            have hL' : G < W33.heap.size := by rw [sz]; exact hL
            clear hb hL sz gr c32
            have hL := hL'
            have hb : W33.heap[G]? = some (.map #[⟨.int .i64 1, ficmp, 0⟩, ⟨.int .i64 6, ftcp, 1⟩, ⟨.int .i64 17, fudp, 2⟩] 3) := hb'
            clear hb' hL'
            refine hK.out _ _ trivial (fun hHeld => ?_)
            clear hK K
            try simp only [pu]
            refine tk (i := 6) (oi := sgrR20o1) (v := (.map (some G))) hHeld ?_ ?_
            · intro w9 hSw
              try dsimp only at hSw
              go_simp
            try simp only [pu]
            refine tk (i := 7) (oi := sgrR20o0) (v := (.map (some G))) hHeld ?_ ?_
            · intro w9 hSw
              try dsimp only at hSw
              go_simp
            try simp only [pu]
            refine wpAnyH_done (by kernel_rfl) ?_ _
            refine NoPanic.normal ?_
            go_wp2
            go_ret
            exact ⟨_, G, rfl, hb, tab_of 1 1 6 17 ficmp ftcp fudp (by decide) (by decide) (by decide) (fun n => tab_4_IAB n), c33⟩
        · refine step_ins rfl _ _ _ rfl G 17 fudp (#[⟨.int .i64 1, ficmp, 0⟩] : Array MapEntry) 1 (by kernel_rfl) (by kernel_rfl) (by kernel_rfl) hb rfl ?_
          intro W34 hb' gr sz
          have c34 : Below w.heap.size w W34 := c31.grown gr c31.size (fun k hk => by cases hk; exact hG)
          have hL' : G < W34.heap.size := by rw [sz]; exact hL
          clear hb hL sz gr c31
          have hL := hL'
          have hb : W34.heap[G]? = some (.map #[⟨.int .i64 1, ficmp, 0⟩, ⟨.int .i64 17, fudp, 1⟩] 2) := hb'
          clear hb' hL'
          refine hK.out _ _ trivial (fun hHeld => ?_)
          clear hK K
          try simp only [pu]
          refine wpAnyH_ready (rs := [1]) (by kernel_rfl) (by simp) ?_
          refine (AllReadyH.cons (o := sgrR20o4) rfl (fun K hK => ?_) AllReadyH.nil)
          · refine step_ins rfl _ _ _ rfl G 6 ftcp (#[⟨.int .i64 1, ficmp, 0⟩, ⟨.int .i64 17, fudp, 1⟩] : Array MapEntry) 2 (by kernel_rfl) (by kernel_rfl) (by kernel_rfl) hb rfl ?_
            intro W35 hb' gr sz
            have c35 : Below w.heap.size w W35 := c34.grown gr c34.size (fun k hk => by cases hk; exact hG)
            have hL' : G < W35.heap.size := by rw [sz]; exact hL
            clear hb hL sz gr c34
            have hL := hL'
            have hb : W35.heap[G]? = some (.map #[⟨.int .i64 1, ficmp, 0⟩, ⟨.int .i64 17, fudp, 1⟩, ⟨.int .i64 6, ftcp, 2⟩] 3) := hb'
            clear hb' hL'
            refine hK.out _ _ trivial (fun hHeld => ?_)
            clear hK K
            try simp only [pu]
            refine tk (i := 6) (oi := sgrR20o1) (v := (.map (some G))) hHeld ?_ ?_
            · intro w9 hSw
              try dsimp only at hSw
              go_simp
            try simp only [pu]
            refine tk (i := 7) (oi := sgrR20o0) (v := (.map (some G))) hHeld ?_ ?_
            · intro w9 hSw
              try dsimp only at hSw
              go_simp
            try simp only [pu]
            refine wpAnyH_done (by kernel_rfl) ?_ _
            refine NoPanic.normal ?_
            go_wp2
            go_ret
            exact ⟨_, G, rfl, hb, tab_of 1 1 17 6 ficmp fudp ftcp (by decide) (by decide) (by decide) (fun n => tab_4_IBA n), c35⟩
  · go_simp
    refine Calls.mono (KI.out _) ?_
    rintro e W36 ⟨rfl, hW36⟩
    rw [hW36]
    clear hW36 W36
    refine hK.out _ _ trivial (fun hHeld => ?_)
    clear hK K
    try simp only [pu]
    refine wpAnyH_ready (rs := [0]) (by kernel_rfl) (by simp) ?_
    refine (AllReadyH.cons (o := sgrR20o6) rfl (fun K hK => ?_) AllReadyH.nil)
    · refine step_mk rfl _ rfl ?_
      have hb := World.heap_new W0 (.map #[] 0)
      have c37 := c0.alloc c0.size (.map #[] 0)
      have hG : w.heap.size ≤ W0.heap.size := c0.size
      have hL : W0.heap.size < (W0.alloc (.map #[] 0)).heap.size := by simp
      refine hK.out _ _ trivial (fun hHeld => ?_)
      clear hK K
      generalize W0.alloc (.map #[] 0) = W37 at *
      generalize W0.heap.size = G at *
      try simp only [pu]
      refine wpAnyH_ready (rs := [1, 2, 5]) (by kernel_rfl) (by simp) ?_
      refine (AllReadyH.cons (o := sgrR20o4) rfl (fun K hK => ?_) (AllReadyH.cons (o := sgrR20o3) rfl (fun K hK => ?_) (AllReadyH.cons (o := sgrR20o2) rfl (fun K hK => ?_) AllReadyH.nil)))
      · refine step_ins rfl _ _ _ rfl G 6 ftcp (#[] : Array MapEntry) 0 (by kernel_rfl) (by kernel_rfl) (by kernel_rfl) hb rfl ?_
        intro W38 hb' gr sz
        have c38 : Below w.heap.size w W38 := c37.grown gr c37.size (fun k hk => by cases hk; exact hG)
        have hL' : G < W38.heap.size := by rw [sz]; exact hL
        clear hb hL sz gr c37
        have hL := hL'
        have hb : W38.heap[G]? = some (.map #[⟨.int .i64 6, ftcp, 0⟩] 1) := hb'
        clear hb' hL'
        refine hK.out _ _ trivial (fun hHeld => ?_)
        clear hK K
        try simp only [pu]
        refine wpAnyH_ready (rs := [2, 5]) (by kernel_rfl) (by simp) ?_
        refine (AllReadyH.cons (o := sgrR20o3) rfl (fun K hK => ?_) (AllReadyH.cons (o := sgrR20o2) rfl (fun K hK => ?_) AllReadyH.nil))
        · refine step_ins rfl _ _ _ rfl G 17 fudp (#[⟨.int .i64 6, ftcp, 0⟩] : Array MapEntry) 1 (by kernel_rfl) (by kernel_rfl) (by kernel_rfl) hb rfl ?_
          intro W39 hb' gr sz
          have c39 : Below w.heap.size w W39 := c38.grown gr c38.size (fun k hk => by cases hk; exact hG)
          have hL' : G < W39.heap.size := by rw [sz]; exact hL
          clear hb hL sz gr c38
          have hL := hL'
          have hb : W39.heap[G]? = some (.map #[⟨.int .i64 6, ftcp, 0⟩, ⟨.int .i64 17, fudp, 1⟩] 2) := hb'
          clear hb' hL'
          refine hK.out _ _ trivial (fun hHeld => ?_)
          clear hK K
          try simp only [pu]
          refine wpAnyH_ready (rs := [5]) (by kernel_rfl) (by simp) ?_
          refine (AllReadyH.cons (o := sgrR20o2) rfl (fun K hK => ?_) AllReadyH.nil)
          · refine step_ins rfl _ _ _ rfl G 1 ficmp (#[⟨.int .i64 6, ftcp, 0⟩, ⟨.int .i64 17, fudp, 1⟩] : Array MapEntry) 2 (by kernel_rfl) (by kernel_rfl) (by kernel_rfl) hb rfl ?_
            intro W40 hb' gr sz
            have c40 : Below w.heap.size w W40 := c39.grown gr c39.size (fun k hk => by cases hk; exact hG)
            have hL' : G < W40.heap.size := by rw [sz]; exact hL
            clear hb hL sz gr c39
            have hL := hL'
            have hb : W40.heap[G]? = some (.map #[⟨.int .i64 6, ftcp, 0⟩, ⟨.int .i64 17, fudp, 1⟩, ⟨.int .i64 1, ficmp, 2⟩] 3) := hb'
            clear hb' hL'
            refine hK.out _ _ trivial (fun hHeld => ?_)
            clear hK K
            try simp only [pu]
            refine tk (i := 6) (oi := sgrR20o1) (v := (.map (some G))) hHeld ?_ ?_
            · intro w9 hSw
              try dsimp only at hSw
              go_simp
            try simp only [pu]
            refine tk (i := 7) (oi := sgrR20o0) (v := (.map (some G))) hHeld ?_ ?_
            · intro w9 hSw
              try dsimp only at hSw
              go_simp
            try simp only [pu]
            refine wpAnyH_done (by kernel_rfl) ?_ _
            refine NoPanic.normal ?_
            go_wp2
            go_ret
            exact ⟨_, G, rfl, hb, tab_of 1 6 17 1 ftcp fudp ficmp (by decide) (by decide) (by decide) (fun n => tab_4_ABI n), c40⟩
        · refine step_ins rfl _ _ _ rfl G 1 ficmp (#[⟨.int .i64 6, ftcp, 0⟩] : Array MapEntry) 1 (by kernel_rfl) (by kernel_rfl) (by kernel_rfl) hb rfl ?_
          intro W41 hb' gr sz
          have c41 : Below w.heap.size w W41 := c38.grown gr c38.size (fun k hk => by cases hk; exact hG)
          have hL' : G < W41.heap.size := by rw [sz]; exact hL
          clear hb hL sz gr c38
          have hL := hL'
          have hb : W41.heap[G]? = some (.map #[⟨.int .i64 6, ftcp, 0⟩, ⟨.int .i64 1, ficmp, 1⟩] 2) := hb'
          clear hb' hL'
          refine hK.out _ _ trivial (fun hHeld => ?_)
          clear hK K
          try simp only [pu]
          refine wpAnyH_ready (rs := [2]) (by kernel_rfl) (by simp) ?_
          refine (AllReadyH.cons (o := sgrR20o3) rfl (fun K hK => ?_) AllReadyH.nil)
          · refine step_ins rfl _ _ _ rfl G 17 fudp (#[⟨.int .i64 6, ftcp, 0⟩, ⟨.int .i64 1, ficmp, 1⟩] : Array MapEntry) 2 (by kernel_rfl) (by kernel_rfl) (by kernel_rfl) hb rfl ?_
            intro W42 hb' gr sz
            have c42 : Below w.heap.size w W42 := c41.grown gr c41.size (fun k hk => by cases hk; exact hG)
            have hL' : G < W42.heap.size := by rw [sz]; exact hL
            clear hb hL sz gr c41
            have hL := hL'
            have hb : W42.heap[G]? = some (.map #[⟨.int .i64 6, ftcp, 0⟩, ⟨.int .i64 1, ficmp, 1⟩, ⟨.int .i64 17, fudp, 2⟩] 3) := hb'
            clear hb' hL'
            refine hK.out _ _ trivial (fun hHeld => ?_)
            clear hK K
            try simp only [pu]
            refine tk (i := 6) (oi := sgrR20o1) (v := (.map (some G))) hHeld ?_ ?_
            · intro w9 hSw
              try dsimp only at hSw
              go_simp
            try simp only [pu]
            refine tk (i := 7) (oi := sgrR20o0) (v := (.map (some G))) hHeld ?_ ?_
            · intro w9 hSw
              try dsimp only at hSw
              go_simp
            try simp only [pu]
            refine wpAnyH_done (by kernel_rfl) ?_ _
            refine NoPanic.normal ?_
            go_wp2
            go_ret
            exact ⟨_, G, rfl, hb, tab_of 1 6 1 17 ftcp ficmp fudp (by decide) (by decide) (by decide) (fun n => tab_4_AIB n), c42⟩
      · refine step_ins rfl _ _ _ rfl G 17 fudp (#[] : Array MapEntry) 0 (by kernel_rfl) (by kernel_rfl) (by kernel_rfl) hb rfl ?_
        intro W43 hb' gr sz
        have c43 : Below w.heap.size w W43 := c37.grown gr c37.size (fun k hk => by cases hk; exact hG)
        have hL' : G < W43.heap.size := by rw [sz]; exact hL
        clear hb hL sz gr c37
        have hL := hL'
        have hb : W43.heap[G]? = some (.map #[⟨.int .i64 17, fudp, 0⟩] 1) := hb'
        clear hb' hL'
        refine hK.out _ _ trivial (fun hHeld => ?_)
        clear hK K
        try simp only [pu]
        refine wpAnyH_ready (rs := [1, 5]) (by kernel_rfl) (by simp) ?_
        refine (AllReadyH.cons (o := sgrR20o4) rfl (fun K hK => ?_) (AllReadyH.cons (o := sgrR20o2) rfl (fun K hK => ?_) AllReadyH.nil))
        · refine step_ins rfl _ _ _ rfl G 6 ftcp (#[⟨.int .i64 17, fudp, 0⟩] : Array MapEntry) 1 (by kernel_rfl) (by kernel_rfl) (by kernel_rfl) hb rfl ?_
          intro W44 hb' gr sz
          have c44 : Below w.heap.size w W44 := c43.grown gr c43.size (fun k hk => by cases hk; exact hG)
          have hL' : G < W44.heap.size := by rw [sz]; exact hL
          clear hb hL sz gr c43
          have hL := hL'
          have hb : W44.heap[G]? = some (.map #[⟨.int .i64 17, fudp, 0⟩, ⟨.int .i64 6, ftcp, 1⟩] 2) := hb'
          clear hb' hL'
          refine hK.out _ _ trivial (fun hHeld => ?_)
          clear hK K
          try simp only [pu]
          refine wpAnyH_ready (rs := [5]) (by kernel_rfl) (by simp) ?_
          refine (AllReadyH.cons (o := sgrR20o2) rfl (fun K hK => ?_) AllReadyH.nil)
          · refine step_ins rfl _ _ _ rfl G 1 ficmp (#[⟨.int .i64 17, fudp, 0⟩, ⟨.int .i64 6, ftcp, 1⟩] : Array MapEntry) 2 (by kernel_rfl) (by kernel_rfl) (by kernel_rfl) hb rfl ?_
            intro W45 hb' gr sz
            have c45 : Below w.heap.size w W45 := c44.grown gr c44.size (fun k hk => by cases hk; exact hG)
            have hL' : G < W45.heap.size := by rw [sz]; exact hL
            clear hb hL sz gr c44
            have hL := hL'
            have hb : W45.heap[G]? = some (.map #[⟨.int .i64 17, fudp, 0⟩, ⟨.int .i64 6, ftcp, 1⟩, ⟨.int .i64 1, ficmp, 2⟩] 3) := hb'
            clear hb' hL'
            refine hK.out _ _ trivial (fun hHeld => ?_)
            clear hK K
            try simp only [pu]
            refine tk (i := 6) (oi := sgrR20o1) (v := (.map (some G))) hHeld ?_ ?_
            · intro w9 hSw
              try dsimp only at hSw
              go_simp
            try simp only [pu]
            refine tk (i := 7) (oi := sgrR20o0) (v := (.map (some G))) hHeld ?_ ?_
            · intro w9 hSw
              try dsimp only at hSw
              go_simp
            try simp only [pu]
            refine wpAnyH_done (by kernel_rfl) ?_ _
            refine NoPanic.normal ?_
            go_wp2
            go_ret
            exact ⟨_, G, rfl, hb, tab_of 1 17 6 1 fudp ftcp ficmp (by decide) (by decide) (by decide) (fun n => tab_4_BAI n), c45⟩
        · refine step_ins rfl _ _ _ rfl G 1 ficmp (#[⟨.int .i64 17, fudp, 0⟩] : Array MapEntry) 1 (by kernel_rfl) (by kernel_rfl) (by kernel_rfl) hb rfl ?_
          intro W46 hb' gr sz
          have c46 : Below w.heap.size w W46 := c43.grown gr c43.size (fun k hk => by cases hk; exact hG)
          have hL' : G < W46.heap.size := by rw [sz]; exact hL
          clear hb hL sz gr c43
          have hL := hL'
          have hb : W46.heap[G]? = some (.map #[⟨.int .i64 17, fudp, 0⟩, ⟨.int .i64 1, ficmp, 1⟩] 2) := hb'
          clear hb' hL'
          refine hK.out _ _ trivial (fun hHeld => ?_)
          clear hK K
          try simp only [pu]
          refine wpAnyH_ready (rs := [1]) (by kernel_rfl) (by simp) ?_
          refine (AllReadyH.cons (o := sgrR20o4) rfl (fun K hK => ?_) AllReadyH.nil)
          · refine step_ins rfl _ _ _ rfl G 6 ftcp (#[⟨.int .i64 17, fudp, 0⟩, ⟨.int .i64 1, ficmp, 1⟩] : Array MapEntry) 2 (by kernel_rfl) (by kernel_rfl) (by kernel_rfl) hb rfl ?_
            intro W47 hb' gr sz
            have c47 : Below w.heap.size w W47 := c46.grown gr c46.size (fun k hk => by cases hk; exact hG)
            have hL' : G < W47.heap.size := by rw [sz]; exact hL
            clear hb hL sz gr c46
            have hL := hL'
            have hb : W47.heap[G]? = some (.map #[⟨.int .i64 17, fudp, 0⟩, ⟨.int .i64 1, ficmp, 1⟩, ⟨.int .i64 6, ftcp, 2⟩] 3) := hb'
            clear hb' hL'
            refine hK.out _ _ trivial (fun hHeld => ?_)
            clear hK K
            try simp only [pu]
            refine tk (i := 6) (oi := sgrR20o1) (v := (.map (some G))) hHeld ?_ ?_
            · intro w9 hSw
              try dsimp only at hSw
              go_simp
            try simp only [pu]
            refine tk (i := 7) (oi := sgrR20o0) (v := (.map (some G))) hHeld ?_ ?_
            · intro w9 hSw
              try dsimp only at hSw
              go_simp
            try simp only [pu]
            refine wpAnyH_done (by kernel_rfl) ?_ _
            refine NoPanic.normal ?_
            go_wp2
            go_ret
            exact ⟨_, G, rfl, hb, tab_of 1 17 1 6 fudp ficmp ftcp (by decide) (by decide) (by decide) (fun n => tab_4_BIA n), c47⟩
      · refine step_ins rfl _ _ _ rfl G 1 ficmp (#[] : Array MapEntry) 0 (by kernel_rfl) (by kernel_rfl) (by kernel_rfl) hb rfl ?_
        intro W48 hb' gr sz
        have c48 : Below w.heap.size w W48 := c37.grown gr c37.size (fun k hk => by cases hk; exact hG)
        have hL' : G < W48.heap.size := by rw [sz]; exact hL
        clear hb hL sz gr c37
        have hL := hL'
        have hb : W48.heap[G]? = some (.map #[⟨.int .i64 1, ficmp, 0⟩] 1) := hb'
        clear hb' hL'
        refine hK.out _ _ trivial (fun hHeld => ?_)
        clear hK K
        try simp only [pu]
        refine wpAnyH_ready (rs := [1, 2]) (by kernel_rfl) (by simp) ?_
        refine (AllReadyH.cons (o := sgrR20o4) rfl (fun K hK => ?_) (AllReadyH.cons (o := sgrR20o3) rfl (fun K hK => ?_) AllReadyH.nil))
        · refine step_ins rfl _ _ _ rfl G 6 ftcp (#[⟨.int .i64 1, ficmp, 0⟩] : Array MapEntry) 1 (by kernel_rfl) (by kernel_rfl) (by kernel_rfl) hb rfl ?_
          intro W49 hb' gr sz
          have c49 : Below w.heap.size w W49 := c48.grown gr c48.size (fun k hk => by cases hk; exact hG)
          have hL' : G < W49.heap.size := by rw [sz]; exact hL
          clear hb hL sz gr c48
          have hL := hL'
          have hb : W49.heap[G]? = some (.map #[⟨.int .i64 1, ficmp, 0⟩, ⟨.int .i64 6, ftcp, 1⟩] 2) := hb'
          clear hb' hL'
          refine hK.out _ _ trivial (fun hHeld => ?_)
          clear hK K
          try simp only [pu]
          refine wpAnyH_ready (rs := [2]) (by kernel_rfl) (by simp) ?_
          refine (AllReadyH.cons (o := sgrR20o3) rfl (fun K hK => ?_) AllReadyH.nil)
          · refine step_ins rfl _ _ _ rfl G 17 fudp (#[⟨.int .i64 1, ficmp, 0⟩, ⟨.int .i64 6, ftcp, 1⟩] : Array MapEntry) 2 (by kernel_rfl) (by kernel_rfl) (by kernel_rfl) hb rfl ?_
            intro W50 hb' gr sz
            have c50 : Below w.heap.size w W50 := c49.grown gr c49.size (fun k hk => by cases hk; exact hG)
            have hL' : G < W50.heap.size := by rw [sz]; exact hL
            clear hb hL sz gr c49
            have hL := hL'
            have hb : W50.heap[G]? = some (.map #[⟨.int .i64 1, ficmp, 0⟩, ⟨.int .i64 6, ftcp, 1⟩, ⟨.int .i64 17, fudp, 2⟩] 3) := hb'
            clear hb' hL'
            refine hK.out _ _ trivial (fun hHeld => ?_)
            clear hK K
            try simp only [pu]
            refine tk (i := 6) (oi := sgrR20o1) (v := (.map (some G))) hHeld ?_ ?_
            · intro w9 hSw
              try dsimp only at hSw
              go_simp
            try simp only [pu]
            refine tk (i := 7) (oi := sgrR20o0) (v := (.map (some G))) hHeld ?_ ?_
            · intro w9 hSw
              try dsimp only at hSw
              go_simp
            try simp only [pu]
            refine wpAnyH_done (by kernel_rfl) ?_ _
            refine NoPanic.normal ?_
            go_wp2
            go_ret
            exact ⟨_, G, rfl, hb, tab_of 1 1 6 17 ficmp ftcp fudp (by decide) (by decide) (by decide) (fun n => tab_4_IAB n), c50⟩
        · refine step_ins rfl _ _ _ rfl G 17 fudp (#[⟨.int .i64 1, ficmp, 0⟩] : Array MapEntry) 1 (by kernel_rfl) (by kernel_rfl) (by kernel_rfl) hb rfl ?_
          intro W51 hb' gr sz
          have c51 : Below w.heap.size w W51 := c48.grown gr c48.size (fun k hk => by cases hk; exact hG)
          have hL' : G < W51.heap.size := by rw [sz]; exact hL
          clear hb hL sz gr c48
          have hL := hL'
          have hb : W51.heap[G]? = some (.map #[⟨.int .i64 1, ficmp, 0⟩, ⟨.int .i64 17, fudp, 1⟩] 2) := hb'
          clear hb' hL'
          refine hK.out _ _ trivial (fun hHeld => ?_)
          clear hK K
          try simp only [pu]
          refine wpAnyH_ready (rs := [1]) (by kernel_rfl) (by simp) ?_
          refine (AllReadyH.cons (o := sgrR20o4) rfl (fun K hK => ?_) AllReadyH.nil)
          · refine step_ins rfl _ _ _ rfl G 6 ftcp (#[⟨.int .i64 1, ficmp, 0⟩, ⟨.int .i64 17, fudp, 1⟩] : Array MapEntry) 2 (by kernel_rfl) (by kernel_rfl) (by kernel_rfl) hb rfl ?_
            intro W52 hb' gr sz
            have c52 : Below w.heap.size w W52 := c51.grown gr c51.size (fun k hk => by cases hk; exact hG)
            have hL' : G < W52.heap.size := by rw [sz]; exact hL
            clear hb hL sz gr c51
            have hL := hL'
            have hb : W52.heap[G]? = some (.map #[⟨.int .i64 1, ficmp, 0⟩, ⟨.int .i64 17, fudp, 1⟩, ⟨.int .i64 6, ftcp, 2⟩] 3) := hb'
            clear hb' hL'
            refine hK.out _ _ trivial (fun hHeld => ?_)
            clear hK K
            try simp only [pu]
            refine tk (i := 6) (oi := sgrR20o1) (v := (.map (some G))) hHeld ?_ ?_
            · intro w9 hSw
              try dsimp only at hSw
              go_simp
            try simp only [pu]
            refine tk (i := 7) (oi := sgrR20o0) (v := (.map (some G))) hHeld ?_ ?_
            · intro w9 hSw
              try dsimp only at hSw
              go_simp
            try simp only [pu]
            refine wpAnyH_done (by kernel_rfl) ?_ _
            refine NoPanic.normal ?_
            go_wp2
            go_ret
            exact ⟨_, G, rfl, hb, tab_of 1 1 17 6 ficmp fudp ftcp (by decide) (by decide) (by decide) (fun n => tab_4_IBA n), c52⟩
theorem tab_n_ABI (n : Int) : (if n = 6 then ftcp else if n = 17 then fudp else if n = 58 then ficmp else Value.nilFunc) = lookS 58 n ∧ (decide (n = 6) || (decide (n = 17) || decide (n = 58))) = knownS 58 n := by
  unfold lookS knownS
  by_cases h1 : n = 6
  · subst h1; simp
  by_cases h2 : n = 17
  · subst h2; simp
  by_cases h3 : n = 58
  · subst h3; simp
  · simp [h1, h2, h3]
theorem tab_n_AIB (n : Int) : (if n = 6 then ftcp else if n = 58 then ficmp else if n = 17 then fudp else Value.nilFunc) = lookS 58 n ∧ (decide (n = 6) || (decide (n = 58) || decide (n = 17))) = knownS 58 n := by
  unfold lookS knownS
  by_cases h1 : n = 6
  · subst h1; simp
  by_cases h2 : n = 17
  · subst h2; simp
  by_cases h3 : n = 58
  · subst h3; simp
  · simp [h1, h2, h3]
theorem tab_n_BAI (n : Int) : (if n = 17 then fudp else if n = 6 then ftcp else if n = 58 then ficmp else Value.nilFunc) = lookS 58 n ∧ (decide (n = 17) || (decide (n = 6) || decide (n = 58))) = knownS 58 n := by
  unfold lookS knownS
  by_cases h1 : n = 6
  · subst h1; simp
  by_cases h2 : n = 17
  · subst h2; simp
  by_cases h3 : n = 58
  · subst h3; simp
  · simp [h1, h2, h3]
theorem tab_n_BIA (n : Int) : (if n = 17 then fudp else if n = 58 then ficmp else if n = 6 then ftcp else Value.nilFunc) = lookS 58 n ∧ (decide (n = 17) || (decide (n = 58) || decide (n = 6))) = knownS 58 n := by
  unfold lookS knownS
  by_cases h1 : n = 6
  · subst h1; simp
  by_cases h2 : n = 17
  · subst h2; simp
  by_cases h3 : n = 58
  · subst h3; simp
  · simp [h1, h2, h3]
theorem tab_n_IAB (n : Int) : (if n = 58 then ficmp else if n = 6 then ftcp else if n = 17 then fudp else Value.nilFunc) = lookS 58 n ∧ (decide (n = 58) || (decide (n = 6) || decide (n = 17))) = knownS 58 n := by
  unfold lookS knownS
  by_cases h1 : n = 6
  · subst h1; simp
  by_cases h2 : n = 17
  · subst h2; simp
  by_cases h3 : n = 58
  · subst h3; simp
  · simp [h1, h2, h3]
theorem tab_n_IBA (n : Int) : (if n = 58 then ficmp else if n = 17 then fudp else if n = 6 then ftcp else Value.nilFunc) = lookS 58 n ∧ (decide (n = 58) || (decide (n = 17) || decide (n = 6))) = knownS 58 n := by
  unfold lookS knownS
  by_cases h1 : n = 6
  · subst h1; simp
  by_cases h2 : n = 17
  · subst h2; simp
  by_cases h3 : n = 58
  · subst h3; simp
  · simp [h1, h2, h3]
set_option maxRecDepth 100000 in
set_option maxHeartbeats 4000000 in
theorem readers_n (f : Int) (w : World) (hf : ¬ f = 4) : Calls Try.prog 33 #[.int .i64 f] w fun e w' => ∃ es G, e = .returned (.map (some G)) ∧ w'.heap[G]? = some (.map es 3) ∧ Tab 58 es ∧ Below w.heap.size w w' := by
  have KI : Hid (∀ W, Calls Try.prog 57 #[.int .i64 f] W fun e w' => e = .returned (.int .i64 58) ∧ w' = W) := fun W => by
    have := icmpOf_any f W
    unfold icmpOf at this
    rw [if_neg hf] at this
    exact this
  clear hf
  go_enter Try.func33, Try.ntmps33
  go_wp2_with fail
  refine wp_region_noPanic ?_
  refine wp_region_held_drew (S := fun _ => True) (by kernel_rfl) trivial (fun hHeld => ?_)
  refine tk (i := 3) (oi := sgrR20o7) (v := (.int .i64 f)) hHeld ?_ ?_
  · intro w9 hSw
    try dsimp only at hSw
    go_simp
  try simp only [pu]
  have c0 : Below w.heap.size w w.drew := (Below.refl _ _).drew
  obtain ⟨W0, hW0⟩ : ∃ W, w.drew = W := ⟨_, rfl⟩
  rw [hW0] at c0 ⊢
  clear hW0
  refine wpAnyH_ready (rs := [0, 4]) (by kernel_rfl) (by simp) ?_
  refine (AllReadyH.cons (o := sgrR20o6) rfl (fun K hK => ?_) (AllReadyH.cons (o := sgrR20o5) rfl (fun K hK => ?_) AllReadyH.nil))
  · refine step_mk rfl _ rfl ?_
    have hb := World.heap_new W0 (.map #[] 0)
    have c1 := c0.alloc c0.size (.map #[] 0)
    have hG : w.heap.size ≤ W0.heap.size := c0.size
    have hL : W0.heap.size < (W0.alloc (.map #[] 0)).heap.size := by simp
    refine hK.out _ _ trivial (fun hHeld => ?_)
    clear hK K
    generalize W0.alloc (.map #[] 0) = W1 at *
    generalize W0.heap.size = G at *
    try simp only [pu]
    refine wpAnyH_ready (rs := [1, 2, 4]) (by kernel_rfl) (by simp) ?_
    refine (AllReadyH.cons (o := sgrR20o4) rfl (fun K hK => ?_) (AllReadyH.cons (o := sgrR20o3) rfl (fun K hK => ?_) (AllReadyH.cons (o := sgrR20o5) rfl (fun K hK => ?_) AllReadyH.nil)))
    · refine step_ins rfl _ _ _ rfl G 6 ftcp (#[] : Array MapEntry) 0 (by kernel_rfl) (by kernel_rfl) (by kernel_rfl) hb rfl ?_
      intro W2 hb' gr sz
      have c2 : Below w.heap.size w W2 := c1.grown gr c1.size (fun k hk => by cases hk; exact hG)
      have hL' : G < W2.heap.size := by rw [sz]; exact hL
      clear hb hL sz gr c1
      have hL := hL'
      have hb : W2.heap[G]? = some (.map #[⟨.int .i64 6, ftcp, 0⟩] 1) := hb'
      clear hb' hL'
      refine hK.out _ _ trivial (fun hHeld => ?_)
      clear hK K
      try simp only [pu]
      refine wpAnyH_ready (rs := [2, 4]) (by kernel_rfl) (by simp) ?_
      refine (AllReadyH.cons (o := sgrR20o3) rfl (fun K hK => ?_) (AllReadyH.cons (o := sgrR20o5) rfl (fun K hK => ?_) AllReadyH.nil))
      · refine step_ins rfl _ _ _ rfl G 17 fudp (#[⟨.int .i64 6, ftcp, 0⟩] : Array MapEntry) 1 (by kernel_rfl) (by kernel_rfl) (by kernel_rfl) hb rfl ?_
        intro W3 hb' gr sz
        have c3 : Below w.heap.size w W3 := c2.grown gr c2.size (fun k hk => by cases hk; exact hG)
        have hL' : G < W3.heap.size := by rw [sz]; exact hL
        clear hb hL sz gr c2
        have hL := hL'
        have hb : W3.heap[G]? = some (.map #[⟨.int .i64 6, ftcp, 0⟩, ⟨.int .i64 17, fudp, 1⟩] 2) := hb'
        clear hb' hL'
        refine hK.out _ _ trivial (fun hHeld => ?_)
        clear hK K
        try simp only [pu]
        refine wpAnyH_ready (rs := [4]) (by kernel_rfl) (by simp) ?_
        refine (AllReadyH.cons (o := sgrR20o5) rfl (fun K hK => ?_) AllReadyH.nil)
        · go_simp
          refine Calls.mono (KI.out _) ?_
          rintro e W4 ⟨rfl, hW4⟩
          rw [hW4]
          clear hW4 W4
          refine hK.out _ _ trivial (fun hHeld => ?_)
          clear hK K
          try simp only [pu]
          refine wpAnyH_ready (rs := [5]) (by kernel_rfl) (by simp) ?_
          refine (AllReadyH.cons (o := sgrR20o2) rfl (fun K hK => ?_) AllReadyH.nil)
          · refine step_ins rfl _ _ _ rfl G 58 ficmp (#[⟨.int .i64 6, ftcp, 0⟩, ⟨.int .i64 17, fudp, 1⟩] : Array MapEntry) 2 (by kernel_rfl) (by kernel_rfl) (by kernel_rfl) hb rfl ?_
            intro W5 hb' gr sz
            have c5 : Below w.heap.size w W5 := c3.grown gr c3.size (fun k hk => by cases hk; exact hG)
            have hL' : G < W5.heap.size := by rw [sz]; exact hL
            clear hb hL sz gr c3
            have hL := hL'
            have hb : W5.heap[G]? = some (.map #[⟨.int .i64 6, ftcp, 0⟩, ⟨.int .i64 17, fudp, 1⟩, ⟨.int .i64 58, ficmp, 2⟩] 3) := hb'
            clear hb' hL'
            refine hK.out _ _ trivial (fun hHeld => ?_)
            clear hK K
            try simp only [pu]
            refine tk (i := 6) (oi := sgrR20o1) (v := (.map (some G))) hHeld ?_ ?_
            · intro w9 hSw
              try dsimp only at hSw
              go_simp
            try simp only [pu]
            refine tk (i := 7) (oi := sgrR20o0) (v := (.map (some G))) hHeld ?_ ?_
            · intro w9 hSw
              try dsimp only at hSw
              go_simp
            try simp only [pu]
            refine wpAnyH_done (by kernel_rfl) ?_ _
            refine NoPanic.normal ?_
            go_wp2
            go_ret
            exact ⟨_, G, rfl, hb, tab_of 58 6 17 58 ftcp fudp ficmp (by decide) (by decide) (by decide) (fun n => tab_n_ABI n), c5⟩
      · go_simp
        refine Calls.mono (KI.out _) ?_
        rintro e W6 ⟨rfl, hW6⟩
        rw [hW6]
        clear hW6 W6
        refine hK.out _ _ trivial (fun hHeld => ?_)
        clear hK K
        try simp only [pu]
        refine wpAnyH_ready (rs := [2, 5]) (by kernel_rfl) (by simp) ?_
        refine (AllReadyH.cons (o := sgrR20o3) rfl (fun K hK => ?_) (AllReadyH.cons (o := sgrR20o2) rfl (fun K hK => ?_) AllReadyH.nil))
        · refine step_ins rfl _ _ _ rfl G 17 fudp (#[⟨.int .i64 6, ftcp, 0⟩] : Array MapEntry) 1 (by kernel_rfl) (by kernel_rfl) (by kernel_rfl) hb rfl ?_
          intro W7 hb' gr sz
          have c7 : Below w.heap.size w W7 := c2.grown gr c2.size (fun k hk => by cases hk; exact hG)
          have hL' : G < W7.heap.size := by rw [sz]; exact hL
          clear hb hL sz gr c2
          have hL := hL'
          have hb : W7.heap[G]? = some (.map #[⟨.int .i64 6, ftcp, 0⟩, ⟨.int .i64 17, fudp, 1⟩] 2) := hb'
          clear hb' hL'
          refine hK.out _ _ trivial (fun hHeld => ?_)
          clear hK K
          try simp only [pu]
          refine wpAnyH_ready (rs := [5]) (by kernel_rfl) (by simp) ?_
          refine (AllReadyH.cons (o := sgrR20o2) rfl (fun K hK => ?_) AllReadyH.nil)
          · refine step_ins rfl _ _ _ rfl G 58 ficmp (#[⟨.int .i64 6, ftcp, 0⟩, ⟨.int .i64 17, fudp, 1⟩] : Array MapEntry) 2 (by kernel_rfl) (by kernel_rfl) (by kernel_rfl) hb rfl ?_
            intro W8 hb' gr sz
            have c8 : Below w.heap.size w W8 := c7.grown gr c7.size (fun k hk => by cases hk; exact hG)
            have hL' : G < W8.heap.size := by rw [sz]; exact hL
            clear hb hL sz gr c7
            have hL := hL'
            have hb : W8.heap[G]? = some (.map #[⟨.int .i64 6, ftcp, 0⟩, ⟨.int .i64 17, fudp, 1⟩, ⟨.int .i64 58, ficmp, 2⟩] 3) := hb'
            clear hb' hL'
            refine hK.out _ _ trivial (fun hHeld => ?_)
            clear hK K
            try simp only [pu]
            refine tk (i := 6) (oi := sgrR20o1) (v := (.map (some G))) hHeld ?_ ?_
            · intro w9 hSw
              try dsimp only at hSw
              go_simp
            try simp only [pu]
            refine tk (i := 7) (oi := sgrR20o0) (v := (.map (some G))) hHeld ?_ ?_
            · intro w9 hSw
              try dsimp only at hSw
              go_simp
            try simp only [pu]
            refine wpAnyH_done (by kernel_rfl) ?_ _
            refine NoPanic.normal ?_
            go_wp2
            go_ret
            exact ⟨_, G, rfl, hb, tab_of 58 6 17 58 ftcp fudp ficmp (by decide) (by decide) (by decide) (fun n => tab_n_ABI n), c8⟩
        · refine step_ins rfl _ _ _ rfl G 58 ficmp (#[⟨.int .i64 6, ftcp, 0⟩] : Array MapEntry) 1 (by kernel_rfl) (by kernel_rfl) (by kernel_rfl) hb rfl ?_
          intro W9 hb' gr sz
          have c9 : Below w.heap.size w W9 := c2.grown gr c2.size (fun k hk => by cases hk; exact hG)
          have hL' : G < W9.heap.size := by rw [sz]; exact hL
          clear hb hL sz gr c2
          have hL := hL'
          have hb : W9.heap[G]? = some (.map #[⟨.int .i64 6, ftcp, 0⟩, ⟨.int .i64 58, ficmp, 1⟩] 2) := hb'
          clear hb' hL'
          refine hK.out _ _ trivial (fun hHeld => ?_)
          clear hK K
          try simp only [pu]
          refine wpAnyH_ready (rs := [2]) (by kernel_rfl) (by simp) ?_
          refine (AllReadyH.cons (o := sgrR20o3) rfl (fun K hK => ?_) AllReadyH.nil)
          · refine step_ins rfl _ _ _ rfl G 17 fudp (#[⟨.int .i64 6, ftcp, 0⟩, ⟨.int .i64 58, ficmp, 1⟩] : Array MapEntry) 2 (by kernel_rfl) (by kernel_rfl) (by kernel_rfl) hb rfl ?_
            intro W10 hb' gr sz
            have c10 : Below w.heap.size w W10 := c9.grown gr c9.size (fun k hk => by cases hk; exact hG)
            have hL' : G < W10.heap.size := by rw [sz]; exact hL
            clear hb hL sz gr c9
            have hL := hL'
            have hb : W10.heap[G]? = some (.map #[⟨.int .i64 6, ftcp, 0⟩, ⟨.int .i64 58, ficmp, 1⟩, ⟨.int .i64 17, fudp, 2⟩] 3) := hb'
            clear hb' hL'
            refine hK.out _ _ trivial (fun hHeld => ?_)
            clear hK K
            try simp only [pu]
            refine tk (i := 6) (oi := sgrR20o1) (v := (.map (some G))) hHeld ?_ ?_
            · intro w9 hSw
              try dsimp only at hSw
              go_simp
            try simp only [pu]
            refine tk (i := 7) (oi := sgrR20o0) (v := (.map (some G))) hHeld ?_ ?_
            · intro w9 hSw
              try dsimp only at hSw
              go_simp
            try simp only [pu]
            refine wpAnyH_done (by kernel_rfl) ?_ _
            refine NoPanic.normal ?_
            go_wp2
            go_ret
            exact ⟨_, G, rfl, hb, tab_of 58 6 58 17 ftcp ficmp fudp (by decide) (by decide) (by decide) (fun n => tab_n_AIB n), c10⟩
    · refine step_ins rfl _ _ _ rfl G 17 fudp (#[] : Array MapEntry) 0 (by kernel_rfl) (by kernel_rfl) (by kernel_rfl) hb rfl ?_
      intro W11 hb' gr sz
      have c11 : Below w.heap.size w W11 := c1.grown gr c1.size (fun k hk => by cases hk; exact hG)
      have hL' : G < W11.heap.size := by rw [sz]; exact hL
      clear hb hL sz gr c1
      have hL := hL'
      have hb : W11.heap[G]? = some (.map #[⟨.int .i64 17, fudp, 0⟩] 1) := hb'
      clear hb' hL'
      refine hK.out _ _ trivial (fun hHeld => ?_)
      clear hK K
      try simp only [pu]
      refine wpAnyH_ready (rs := [1, 4]) (by kernel_rfl) (by simp) ?_
      refine (AllReadyH.cons (o := sgrR20o4) rfl (fun K hK => ?_) (AllReadyH.cons (o := sgrR20o5) rfl (fun K hK => ?_) AllReadyH.nil))
      · refine step_ins rfl _ _ _ rfl G 6 ftcp (#[⟨.int .i64 17, fudp, 0⟩] : Array MapEntry) 1 (by kernel_rfl) (by kernel_rfl) (by kernel_rfl) hb rfl ?_
        intro W12 hb' gr sz
        have c12 : Below w.heap.size w W12 := c11.grown gr c11.size (fun k hk => by cases hk; exact hG)
        have hL' : G < W12.heap.size := by rw [sz]; exact hL
        clear hb hL sz gr c11
        have hL := hL'
        have hb : W12.heap[G]? = some (.map #[⟨.int .i64 17, fudp, 0⟩, ⟨.int .i64 6, ftcp, 1⟩] 2) := hb'
        clear hb' hL'
        refine hK.out _ _ trivial (fun hHeld => ?_)
        clear hK K
        try simp only [pu]
        refine wpAnyH_ready (rs := [4]) (by kernel_rfl) (by simp) ?_
        refine (AllReadyH.cons (o := sgrR20o5) rfl (fun K hK => ?_) AllReadyH.nil)
        · go_simp
          refine Calls.mono (KI.out _) ?_
          rintro e W13 ⟨rfl, hW13⟩
          rw [hW13]
          clear hW13 W13
          refine hK.out _ _ trivial (fun hHeld => ?_)
          clear hK K
          try simp only [pu]
          refine wpAnyH_ready (rs := [5]) (by kernel_rfl) (by simp) ?_
          refine (AllReadyH.cons (o := sgrR20o2) rfl (fun K hK => ?_) AllReadyH.nil)
          · refine step_ins rfl _ _ _ rfl G 58 ficmp (#[⟨.int .i64 17, fudp, 0⟩, ⟨.int .i64 6, ftcp, 1⟩] : Array MapEntry) 2 (by kernel_rfl) (by kernel_rfl) (by kernel_rfl) hb rfl ?_
            intro W14 hb' gr sz
            have c14 : Below w.heap.size w W14 := c12.grown gr c12.size (fun k hk => by cases hk; exact hG)
            have hL' : G < W14.heap.size := by rw [sz]; exact hL
            clear hb hL sz gr c12
            have hL := hL'
            have hb : W14.heap[G]? = some (.map #[⟨.int .i64 17, fudp, 0⟩, ⟨.int .i64 6, ftcp, 1⟩, ⟨.int .i64 58, ficmp, 2⟩] 3) := hb'
            clear hb' hL'
            refine hK.out _ _ trivial (fun hHeld => ?_)
            clear hK K
            try simp only [pu]
            refine tk (i := 6) (oi := sgrR20o1) (v := (.map (some G))) hHeld ?_ ?_
            · intro w9 hSw
              try dsimp only at hSw
              go_simp
            try simp only [pu]
            refine tk (i := 7) (oi := sgrR20o0) (v := (.map (some G))) hHeld ?_ ?_
            · intro w9 hSw
              try dsimp only at hSw
              go_simp
            try simp only [pu]
            refine wpAnyH_done (by kernel_rfl) ?_ _
            refine NoPanic.normal ?_
            go_wp2
            go_ret
            exact ⟨_, G, rfl, hb, tab_of 58 17 6 58 fudp ftcp ficmp (by decide) (by decide) (by decide) (fun n => tab_n_BAI n), c14⟩
      · go_simp
        refine Calls.mono (KI.out _) ?_
        rintro e W15 ⟨rfl, hW15⟩
        rw [hW15]
        clear hW15 W15
        refine hK.out _ _ trivial (fun hHeld => ?_)
        clear hK K
        try simp only [pu]
        refine wpAnyH_ready (rs := [1, 5]) (by kernel_rfl) (by simp) ?_
        refine (AllReadyH.cons (o := sgrR20o4) rfl (fun K hK => ?_) (AllReadyH.cons (o := sgrR20o2) rfl (fun K hK => ?_) AllReadyH.nil))
        · refine step_ins rfl _ _ _ rfl G 6 ftcp (#[⟨.int .i64 17, fudp, 0⟩] : Array MapEntry) 1 (by kernel_rfl) (by kernel_rfl) (by kernel_rfl) hb rfl ?_
          intro W16 hb' gr sz
          have c16 : Below w.heap.size w W16 := c11.grown gr c11.size (fun k hk => by cases hk; exact hG)
          have hL' : G < W16.heap.size := by rw [sz]; exact hL
          clear hb hL sz gr c11
          have hL := hL'
          have hb : W16.heap[G]? = some (.map #[⟨.int .i64 17, fudp, 0⟩, ⟨.int .i64 6, ftcp, 1⟩] 2) := hb'
          clear hb' hL'
          refine hK.out _ _ trivial (fun hHeld => ?_)
          clear hK K
          try simp only [pu]
          refine wpAnyH_ready (rs := [5]) (by kernel_rfl) (by simp) ?_
          refine (AllReadyH.cons (o := sgrR20o2) rfl (fun K hK => ?_) AllReadyH.nil)
          · refine step_ins rfl _ _ _ rfl G 58 ficmp (#[⟨.int .i64 17, fudp, 0⟩, ⟨.int .i64 6, ftcp, 1⟩] : Array MapEntry) 2 (by kernel_rfl) (by kernel_rfl) (by kernel_rfl) hb rfl ?_
            intro W17 hb' gr sz
            have c17 : Below w.heap.size w W17 := c16.grown gr c16.size (fun k hk => by cases hk; exact hG)
            have hL' : G < W17.heap.size := by rw [sz]; exact hL
            clear hb hL sz gr c16
            have hL := hL'
            have hb : W17.heap[G]? = some (.map #[⟨.int .i64 17, fudp, 0⟩, ⟨.int .i64 6, ftcp, 1⟩, ⟨.int .i64 58, ficmp, 2⟩] 3) := hb'
            clear hb' hL'
            refine hK.out _ _ trivial (fun hHeld => ?_)
            clear hK K
            try simp only [pu]
            refine tk (i := 6) (oi := sgrR20o1) (v := (.map (some G))) hHeld ?_ ?_
            · intro w9 hSw
              try dsimp only at hSw
              go_simp
            try simp only [pu]
            refine tk (i := 7) (oi := sgrR20o0) (v := (.map (some G))) hHeld ?_ ?_
            · intro w9 hSw
              try dsimp only at hSw
              go_simp
            try simp only [pu]
            refine wpAnyH_done (by kernel_rfl) ?_ _
            refine NoPanic.normal ?_
            go_wp2
            go_ret
            exact ⟨_, G, rfl, hb, tab_of 58 17 6 58 fudp ftcp ficmp (by decide) (by decide) (by decide) (fun n => tab_n_BAI n), c17⟩
        · refine step_ins rfl _ _ _ rfl G 58 ficmp (#[⟨.int .i64 17, fudp, 0⟩] : Array MapEntry) 1 (by kernel_rfl) (by kernel_rfl) (by kernel_rfl) hb rfl ?_
          intro W18 hb' gr sz
          have c18 : Below w.heap.size w W18 := c11.grown gr c11.size (fun k hk => by cases hk; exact hG)
          have hL' : G < W18.heap.size := by rw [sz]; exact hL
          clear hb hL sz gr c11
          have hL := hL'
          have hb : W18.heap[G]? = some (.map #[⟨.int .i64 17, fudp, 0⟩, ⟨.int .i64 58, ficmp, 1⟩] 2) := hb'
          clear hb' hL'
          refine hK.out _ _ trivial (fun hHeld => ?_)
          clear hK K
          try simp only [pu]
          refine wpAnyH_ready (rs := [1]) (by kernel_rfl) (by simp) ?_
          refine (AllReadyH.cons (o := sgrR20o4) rfl (fun K hK => ?_) AllReadyH.nil)
          · refine step_ins rfl _ _ _ rfl G 6 ftcp (#[⟨.int .i64 17, fudp, 0⟩, ⟨.int .i64 58, ficmp, 1⟩] : Array MapEntry) 2 (by kernel_rfl) (by kernel_rfl) (by kernel_rfl) hb rfl ?_
            intro W19 hb' gr sz
            have c19 : Below w.heap.size w W19 := c18.grown gr c18.size (fun k hk => by cases hk; exact hG)
            have hL' : G < W19.heap.size := by rw [sz]; exact hL
            clear hb hL sz gr c18
            have hL := hL'
            have hb : W19.heap[G]? = some (.map #[⟨.int .i64 17, fudp, 0⟩, ⟨.int .i64 58, ficmp, 1⟩, ⟨.int .i64 6, ftcp, 2⟩] 3) := hb'
            clear hb' hL'
            refine hK.out _ _ trivial (fun hHeld => ?_)
            clear hK K
            try simp only [pu]
            refine tk (i := 6) (oi := sgrR20o1) (v := (.map (some G))) hHeld ?_ ?_
            · intro w9 hSw
              try dsimp only at hSw
              go_simp
            try simp only [pu]
            refine tk (i := 7) (oi := sgrR20o0) (v := (.map (some G))) hHeld ?_ ?_
            · intro w9 hSw
              try dsimp only at hSw
              go_simp
            try simp only [pu]
            refine wpAnyH_done (by kernel_rfl) ?_ _
            refine NoPanic.normal ?_
            go_wp2
            go_ret
            exact ⟨_, G, rfl, hb, tab_of 58 17 58 6 fudp ficmp ftcp (by decide) (by decide) (by decide) (fun n => tab_n_BIA n), c19⟩
    · go_simp
      refine Calls.mono (KI.out _) ?_
      rintro e W20 ⟨rfl, hW20⟩
      rw [hW20]
      clear hW20 W20
      refine hK.out _ _ trivial (fun hHeld => ?_)
      clear hK K
      try simp only [pu]
      refine wpAnyH_ready (rs := [1, 2, 5]) (by kernel_rfl) (by simp) ?_
      refine (AllReadyH.cons (o := sgrR20o4) rfl (fun K hK => ?_) (AllReadyH.cons (o := sgrR20o3) rfl (fun K hK => ?_) (AllReadyH.cons (o := sgrR20o2) rfl (fun K hK => ?_) AllReadyH.nil)))
      · refine step_ins rfl _ _ _ rfl G 6 ftcp (#[] : Array MapEntry) 0 (by kernel_rfl) (by kernel_rfl) (by kernel_rfl) hb rfl ?_
        intro W21 hb' gr sz
        have c21 : Below w.heap.size w W21 := c1.grown gr c1.size (fun k hk => by cases hk; exact hG)
        have hL' : G < W21.heap.size := by rw [sz]; exact hL
        clear hb hL sz gr c1
        have hL := hL'
        have hb : W21.heap[G]? = some (.map #[⟨.int .i64 6, ftcp, 0⟩] 1) := hb'
        clear hb' hL'
        refine hK.out _ _ trivial (fun hHeld => ?_)
        clear hK K
        try simp only [pu]
        refine wpAnyH_ready (rs := [2, 5]) (by kernel_rfl) (by simp) ?_
        refine (AllReadyH.cons (o := sgrR20o3) rfl (fun K hK => ?_) (AllReadyH.cons (o := sgrR20o2) rfl (fun K hK => ?_) AllReadyH.nil))
        · refine step_ins rfl _ _ _ rfl G 17 fudp (#[⟨.int .i64 6, ftcp, 0⟩] : Array MapEntry) 1 (by kernel_rfl) (by kernel_rfl) (by kernel_rfl) hb rfl ?_
          intro W22 hb' gr sz
          have c22 : Below w.heap.size w W22 := c21.grown gr c21.size (fun k hk => by cases hk; exact hG)
          have hL' : G < W22.heap.size := by rw [sz]; exact hL
          clear hb hL sz gr c21
          have hL := hL'
          have hb : W22.heap[G]? = some (.map #[⟨.int .i64 6, ftcp, 0⟩, ⟨.int .i64 17, fudp, 1⟩] 2) := hb'
          clear hb' hL'
          refine hK.out _ _ trivial (fun hHeld => ?_)
          clear hK K
          try simp only [pu]
          refine wpAnyH_ready (rs := [5]) (by kernel_rfl) (by simp) ?_
          refine (AllReadyH.cons (o := sgrR20o2) rfl (fun K hK => ?_) AllReadyH.nil)
          · refine step_ins rfl _ _ _ rfl G 58 ficmp (#[⟨.int .i64 6, ftcp, 0⟩, ⟨.int .i64 17, fudp, 1⟩] : Array MapEntry) 2 (by kernel_rfl) (by kernel_rfl) (by kernel_rfl) hb rfl ?_
            intro W23 hb' gr sz
            have c23 : Below w.heap.size w W23 := c22.grown gr c22.size (fun k hk => by cases hk; exact hG)
            have hL' : G < W23.heap.size := by rw [sz]; exact hL
            clear hb hL sz gr c22
            have hL := hL'
            have hb : W23.heap[G]? = some (.map #[⟨.int .i64 6, ftcp, 0⟩, ⟨.int .i64 17, fudp, 1⟩, ⟨.int .i64 58, ficmp, 2⟩] 3) := hb'
            clear hb' hL'
            refine hK.out _ _ trivial (fun hHeld => ?_)
            clear hK K
            try simp only [pu]
            refine tk (i := 6) (oi := sgrR20o1) (v := (.map (some G))) hHeld ?_ ?_
            · intro w9 hSw
              try dsimp only at hSw
              go_simp
            try simp only [pu]
            refine tk (i := 7) (oi := sgrR20o0) (v := (.map (some G))) hHeld ?_ ?_
            · intro w9 hSw
              try dsimp only at hSw
              go_simp
            try simp only [pu]
            refine wpAnyH_done (by kernel_rfl) ?_ _
            refine NoPanic.normal ?_
            go_wp2
            go_ret
            exact ⟨_, G, rfl, hb, tab_of 58 6 17 58 ftcp fudp ficmp (by decide) (by decide) (by decide) (fun n => tab_n_ABI n), c23⟩
        · refine step_ins rfl _ _ _ rfl G 58 ficmp (#[⟨.int .i64 6, ftcp, 0⟩] : Array MapEntry) 1 (by kernel_rfl) (by kernel_rfl) (by kernel_rfl) hb rfl ?_
          intro W24 hb' gr sz
          have c24 : Below w.heap.size w W24 := c21.grown gr c21.size (fun k hk => by cases hk; exact hG)
          have hL' : G < W24.heap.size := by rw [sz]; exact hL
          clear hb hL sz gr c21
          have hL := hL'
          have hb : W24.heap[G]? = some (.map #[⟨.int .i64 6, ftcp, 0⟩, ⟨.int .i64 58, ficmp, 1⟩] 2) := hb'
          clear hb' hL'
          refine hK.out _ _ trivial (fun hHeld => ?_)
          clear hK K
          try simp only [pu]
          refine wpAnyH_ready (rs := [2]) (by kernel_rfl) (by simp) ?_
          refine (AllReadyH.cons (o := sgrR20o3) rfl (fun K hK => ?_) AllReadyH.nil)
          · refine step_ins rfl _ _ _ rfl G 17 fudp (#[⟨.int .i64 6, ftcp, 0⟩, ⟨.int .i64 58, ficmp, 1⟩] : Array MapEntry) 2 (by kernel_rfl) (by kernel_rfl) (by kernel_rfl) hb rfl ?_
            intro W25 hb' gr sz
            have c25 : Below w.heap.size w W25 := c24.grown gr c24.size (fun k hk => by cases hk; exact hG)
            have hL' : G < W25.heap.size := by rw [sz]; exact hL
            clear hb hL sz gr c24
            have hL := hL'
            have hb : W25.heap[G]? = some (.map #[⟨.int .i64 6, ftcp, 0⟩, ⟨.int .i64 58, ficmp, 1⟩, ⟨.int .i64 17, fudp, 2⟩] 3) := hb'
            clear hb' hL'
            refine hK.out _ _ trivial (fun hHeld => ?_)
            clear hK K
            try simp only [pu]
            refine tk (i := 6) (oi := sgrR20o1) (v := (.map (some G))) hHeld ?_ ?_
            · intro w9 hSw
              try dsimp only at hSw
              go_simp
            try simp only [pu]
            refine tk (i := 7) (oi := sgrR20o0) (v := (.map (some G))) hHeld ?_ ?_
            · intro w9 hSw
              try dsimp only at hSw
              go_simp
            try simp only [pu]
            refine wpAnyH_done (by kernel_rfl) ?_ _
            refine NoPanic.normal ?_
            go_wp2
            go_ret
            exact ⟨_, G, rfl, hb, tab_of 58 6 58 17 ftcp ficmp fudp (by decide) (by decide) (by decide) (fun n => tab_n_AIB n), c25⟩
      · refine step_ins rfl _ _ _ rfl G 17 fudp (#[] : Array MapEntry) 0 (by kernel_rfl) (by kernel_rfl) (by kernel_rfl) hb rfl ?_
        intro W26 hb' gr sz
        have c26 : Below w.heap.size w W26 := c1.grown gr c1.size (fun k hk => by cases hk; exact hG)
        have hL' : G < W26.heap.size := by rw [sz]; exact hL
        clear hb hL sz gr c1
        have hL := hL'
        have hb : W26.heap[G]? = some (.map #[⟨.int .i64 17, fudp, 0⟩] 1) := hb'
        clear hb' hL'
        refine hK.out _ _ trivial (fun hHeld => ?_)
        clear hK K
        try simp only [pu]
        refine wpAnyH_ready (rs := [1, 5]) (by kernel_rfl) (by simp) ?_
        refine (AllReadyH.cons (o := sgrR20o4) rfl (fun K hK => ?_) (AllReadyH.cons (o := sgrR20o2) rfl (fun K hK => ?_) AllReadyH.nil))
        · refine step_ins rfl _ _ _ rfl G 6 ftcp (#[⟨.int .i64 17, fudp, 0⟩] : Array MapEntry) 1 (by kernel_rfl) (by kernel_rfl) (by kernel_rfl) hb rfl ?_
          intro W27 hb' gr sz
          have c27 : Below w.heap.size w W27 := c26.grown gr c26.size (fun k hk => by cases hk; exact hG)
          have hL' : G < W27.heap.size := by rw [sz]; exact hL
          clear hb hL sz gr c26
          have hL := hL'
          have hb : W27.heap[G]? = some (.map #[⟨.int .i64 17, fudp, 0⟩, ⟨.int .i64 6, ftcp, 1⟩] 2) := hb'
          clear hb' hL'
          refine hK.out _ _ trivial (fun hHeld => ?_)
          clear hK K
          try simp only [pu]
          refine wpAnyH_ready (rs := [5]) (by kernel_rfl) (by simp) ?_
          refine (AllReadyH.cons (o := sgrR20o2) rfl (fun K hK => ?_) AllReadyH.nil)
          · refine step_ins rfl _ _ _ rfl G 58 ficmp (#[⟨.int .i64 17, fudp, 0⟩, ⟨.int .i64 6, ftcp, 1⟩] : Array MapEntry) 2 (by kernel_rfl) (by kernel_rfl) (by kernel_rfl) hb rfl ?_
            intro W28 hb' gr sz
            have c28 : Below w.heap.size w W28 := c27.grown gr c27.size (fun k hk => by cases hk; exact hG)
            have hL' : G < W28.heap.size := by rw [sz]; exact hL
            clear hb hL sz gr c27
            have hL := hL'
            have hb : W28.heap[G]? = some (.map #[⟨.int .i64 17, fudp, 0⟩, ⟨.int .i64 6, ftcp, 1⟩, ⟨.int .i64 58, ficmp, 2⟩] 3) := hb'
            clear hb' hL'
            refine hK.out _ _ trivial (fun hHeld => ?_)
            clear hK K
            try simp only [pu]
            refine tk (i := 6) (oi := sgrR20o1) (v := (.map (some G))) hHeld ?_ ?_
            · intro w9 hSw
              try dsimp only at hSw
              go_simp
            try simp only [pu]
            refine tk (i := 7) (oi := sgrR20o0) (v := (.map (some G))) hHeld ?_ ?_
            · intro w9 hSw
              try dsimp only at hSw
              go_simp
            try simp only [pu]
            refine wpAnyH_done (by kernel_rfl) ?_ _
            refine NoPanic.normal ?_
            go_wp2
            go_ret
            exact ⟨_, G, rfl, hb, tab_of 58 17 6 58 fudp ftcp ficmp (by decide) (by decide) (by decide) (fun n => tab_n_BAI n), c28⟩
        · refine step_ins rfl _ _ _ rfl G 58 ficmp (#[⟨.int .i64 17, fudp, 0⟩] : Array MapEntry) 1 (by kernel_rfl) (by kernel_rfl) (by kernel_rfl) hb rfl ?_
          intro W29 hb' gr sz
          have c29 : Below w.heap.size w W29 := c26.grown gr c26.size (fun k hk => by cases hk; exact hG)
          have hL' : G < W29.heap.size := by rw [sz]; exact hL
          clear hb hL sz gr c26
          have hL := hL'
          have hb : W29.heap[G]? = some (.map #[⟨.int .i64 17, fudp, 0⟩, ⟨.int .i64 58, ficmp, 1⟩] 2) := hb'
          clear hb' hL'
          refine hK.out _ _ trivial (fun hHeld => ?_)
          clear hK K
          try simp only [pu]
          refine wpAnyH_ready (rs := [1]) (by kernel_rfl) (by simp) ?_
          refine (AllReadyH.cons (o := sgrR20o4) rfl (fun K hK => ?_) AllReadyH.nil)
          · refine step_ins rfl _ _ _ rfl G 6 ftcp (#[⟨.int .i64 17, fudp, 0⟩, ⟨.int .i64 58, ficmp, 1⟩] : Array MapEntry) 2 (by kernel_rfl) (by kernel_rfl) (by kernel_rfl) hb rfl ?_
            intro W30 hb' gr sz
            have c30 : Below w.heap.size w W30 := c29.grown gr c29.size (fun k hk => by cases hk; exact hG)
            have hL' : G < W30.heap.size := by rw [sz]; exact hL
            clear hb hL sz gr c29
            have hL := hL'
            have hb : W30.heap[G]? = some (.map #[⟨.int .i64 17, fudp, 0⟩, ⟨.int .i64 58, ficmp, 1⟩, ⟨.int .i64 6, ftcp, 2⟩] 3) := hb'
            clear hb' hL'
            refine hK.out _ _ trivial (fun hHeld => ?_)
            clear hK K
            try simp only [pu]
            refine tk (i := 6) (oi := sgrR20o1) (v := (.map (some G))) hHeld ?_ ?_
            · intro w9 hSw
              try dsimp only at hSw
              go_simp
            try simp only [pu]
            refine tk (i := 7) (oi := sgrR20o0) (v := (.map (some G))) hHeld ?_ ?_
            · intro w9 hSw
              try dsimp only at hSw
              go_simp
            try simp only [pu]
            refine wpAnyH_done (by kernel_rfl) ?_ _
            refine NoPanic.normal ?_
            go_wp2
            go_ret
            exact ⟨_, G, rfl, hb, tab_of 58 17 58 6 fudp ficmp ftcp (by decide) (by decide) (by decide) (fun n => tab_n_BIA n), c30⟩
      · refine step_ins rfl _ _ _ rfl G 58 ficmp (#[] : Array MapEntry) 0 (by kernel_rfl) (by kernel_rfl) (by kernel_rfl) hb rfl ?_
        intro W31 hb' gr sz
        have c31 : Below w.heap.size w W31 := c1.grown gr c1.size (fun k hk => by cases hk; exact hG)
        have hL' : G < W31.heap.size := by rw [sz]; exact hL
        clear hb hL sz gr c1
        have hL := hL'
        have hb : W31.heap[G]? = some (.map #[⟨.int .i64 58, ficmp, 0⟩] 1) := hb'
        clear hb' hL'
        refine hK.out _ _ trivial (fun hHeld => ?_)
        clear hK K
        try simp only [pu]
        refine wpAnyH_ready (rs := [1, 2]) (by kernel_rfl) (by simp) ?_
        refine (AllReadyH.cons (o := sgrR20o4) rfl (fun K hK => ?_) (AllReadyH.cons (o := sgrR20o3) rfl (fun K hK => ?_) AllReadyH.nil))
        · refine step_ins rfl _ _ _ rfl G 6 ftcp (#[⟨.int .i64 58, ficmp, 0⟩] : Array MapEntry) 1 (by kernel_rfl) (by kernel_rfl) (by kernel_rfl) hb rfl ?_
          intro W32 hb' gr sz
          have c32 : Below w.heap.size w W32 := c31.grown gr c31.size (fun k hk => by cases hk; exact hG)
          have hL' : G < W32.heap.size := by rw [sz]; exact hL
          clear hb hL sz gr c31
          have hL := hL'
          have hb : W32.heap[G]? = some (.map #[⟨.int .i64 58, ficmp, 0⟩, ⟨.int .i64 6, ftcp, 1⟩] 2) := hb'
          clear hb' hL'
          refine hK.out _ _ trivial (fun hHeld => ?_)
          clear hK K
          try simp only [pu]
          refine wpAnyH_ready (rs := [2]) (by kernel_rfl) (by simp) ?_
          refine (AllReadyH.cons (o := sgrR20o3) rfl (fun K hK => ?_) AllReadyH.nil)
          · refine step_ins rfl _ _ _ rfl G 17 fudp (#[⟨.int .i64 58, ficmp, 0⟩, ⟨.int .i64 6, ftcp, 1⟩] : Array MapEntry) 2 (by kernel_rfl) (by kernel_rfl) (by kernel_rfl) hb rfl ?_
            intro W33 hb' gr sz
            have c33 : Below w.heap.size w W33 := c32.grown gr c32.size (fun k hk => by cases hk; exact hG)
            have hL' : G < W33.heap.size := by rw [sz]; exact hL
            clear hb hL sz gr c32
            have hL := hL'
            have hb : W33.heap[G]? = some (.map #[⟨.int .i64 58, ficmp, 0⟩, ⟨.int .i64 6, ftcp, 1⟩, ⟨.int .i64 17, fudp, 2⟩] 3) := hb'
            clear hb' hL'
            refine hK.out _ _ trivial (fun hHeld => ?_)
            clear hK K
            try simp only [pu]
            refine tk (i := 6) (oi := sgrR20o1) (v := (.map (some G))) hHeld ?_ ?_
            · intro w9 hSw
              try dsimp only at hSw
              go_simp
            try simp only [pu]
            refine tk (i := 7) (oi := sgrR20o0) (v := (.map (some G))) hHeld ?_ ?_
            · intro w9 hSw
              try dsimp only at hSw
              go_simp
            try simp only [pu]
            refine wpAnyH_done (by kernel_rfl) ?_ _
            refine NoPanic.normal ?_
            go_wp2
            go_ret
            exact ⟨_, G, rfl, hb, tab_of 58 58 6 17 ficmp ftcp fudp (by decide) (by decide) (by decide) (fun n => tab_n_IAB n), c33⟩
        · refine step_ins rfl _ _ _ rfl G 17 fudp (#[⟨.int .i64 58, ficmp, 0⟩] : Array MapEntry) 1 (by kernel_rfl) (by kernel_rfl) (by kernel_rfl) hb rfl ?_
          intro W34 hb' gr sz
          have c34 : Below w.heap.size w W34 := c31.grown gr c31.size (fun k hk => by cases hk; exact hG)
          have hL' : G < W34.heap.size := by rw [sz]; exact hL
          clear hb hL sz gr c31
          have hL := hL'
          have hb : W34.heap[G]? = some (.map #[⟨.int .i64 58, ficmp, 0⟩, ⟨.int .i64 17, fudp, 1⟩] 2) := hb'
          clear hb' hL'
          refine hK.out _ _ trivial (fun hHeld => ?_)
          clear hK K
          try simp only [pu]
          refine wpAnyH_ready (rs := [1]) (by kernel_rfl) (by simp) ?_
          refine (AllReadyH.cons (o := sgrR20o4) rfl (fun K hK => ?_) AllReadyH.nil)
          · refine step_ins rfl _ _ _ rfl G 6 ftcp (#[⟨.int .i64 58, ficmp, 0⟩, ⟨.int .i64 17, fudp, 1⟩] : Array MapEntry) 2 (by kernel_rfl) (by kernel_rfl) (by kernel_rfl) hb rfl ?_
            intro W35 hb' gr sz
            have c35 : Below w.heap.size w W35 := c34.grown gr c34.size (fun k hk => by cases hk; exact hG)
            have hL' : G < W35.heap.size := by rw [sz]; exact hL
            clear hb hL sz gr c34
            have hL := hL'
            have hb : W35.heap[G]? = some (.map #[⟨.int .i64 58, ficmp, 0⟩, ⟨.int .i64 17, fudp, 1⟩, ⟨.int .i64 6, ftcp, 2⟩] 3) := hb'
            clear hb' hL'
            refine hK.out _ _ trivial (fun hHeld => ?_)
            clear hK K
            try simp only [pu]
            refine tk (i := 6) (oi := sgrR20o1) (v := (.map (some G))) hHeld ?_ ?_
            · intro w9 hSw
              try dsimp only at hSw
              go_simp
            try simp only [pu]
            refine tk (i := 7) (oi := sgrR20o0) (v := (.map (some G))) hHeld ?_ ?_
            · intro w9 hSw
              try dsimp only at hSw
              go_simp
            try simp only [pu]
            refine wpAnyH_done (by kernel_rfl) ?_ _
            refine NoPanic.normal ?_
            go_wp2
            go_ret
            exact ⟨_, G, rfl, hb, tab_of 58 58 17 6 ficmp fudp ftcp (by decide) (by decide) (by decide) (fun n => tab_n_IBA n), c35⟩
  · go_simp
    refine Calls.mono (KI.out _) ?_
    rintro e W36 ⟨rfl, hW36⟩
    rw [hW36]
    clear hW36 W36
    refine hK.out _ _ trivial (fun hHeld => ?_)
    clear hK K
    try simp only [pu]
    refine wpAnyH_ready (rs := [0]) (by kernel_rfl) (by simp) ?_
    refine (AllReadyH.cons (o := sgrR20o6) rfl (fun K hK => ?_) AllReadyH.nil)
    · refine step_mk rfl _ rfl ?_
      have hb := World.heap_new W0 (.map #[] 0)
      have c37 := c0.alloc c0.size (.map #[] 0)
      have hG : w.heap.size ≤ W0.heap.size := c0.size
      have hL : W0.heap.size < (W0.alloc (.map #[] 0)).heap.size := by simp
      refine hK.out _ _ trivial (fun hHeld => ?_)
      clear hK K
      generalize W0.alloc (.map #[] 0) = W37 at *
      generalize W0.heap.size = G at *
      try simp only [pu]
      refine wpAnyH_ready (rs := [1, 2, 5]) (by kernel_rfl) (by simp) ?_
      refine (AllReadyH.cons (o := sgrR20o4) rfl (fun K hK => ?_) (AllReadyH.cons (o := sgrR20o3) rfl (fun K hK => ?_) (AllReadyH.cons (o := sgrR20o2) rfl (fun K hK => ?_) AllReadyH.nil)))
      · refine step_ins rfl _ _ _ rfl G 6 ftcp (#[] : Array MapEntry) 0 (by kernel_rfl) (by kernel_rfl) (by kernel_rfl) hb rfl ?_
        intro W38 hb' gr sz
        have c38 : Below w.heap.size w W38 := c37.grown gr c37.size (fun k hk => by cases hk; exact hG)
        have hL' : G < W38.heap.size := by rw [sz]; exact hL
        clear hb hL sz gr c37
        have hL := hL'
        have hb : W38.heap[G]? = some (.map #[⟨.int .i64 6, ftcp, 0⟩] 1) := hb'
        clear hb' hL'
        refine hK.out _ _ trivial (fun hHeld => ?_)
        clear hK K
        try simp only [pu]
        refine wpAnyH_ready (rs := [2, 5]) (by kernel_rfl) (by simp) ?_
        refine (AllReadyH.cons (o := sgrR20o3) rfl (fun K hK => ?_) (AllReadyH.cons (o := sgrR20o2) rfl (fun K hK => ?_) AllReadyH.nil))
        · refine step_ins rfl _ _ _ rfl G 17 fudp (#[⟨.int .i64 6, ftcp, 0⟩] : Array MapEntry) 1 (by kernel_rfl) (by kernel_rfl) (by kernel_rfl) hb rfl ?_
          intro W39 hb' gr sz
          have c39 : Below w.heap.size w W39 := c38.grown gr c38.size (fun k hk => by cases hk; exact hG)
          have hL' : G < W39.heap.size := by rw [sz]; exact hL
          clear hb hL sz gr c38
          have hL := hL'
          have hb : W39.heap[G]? = some (.map #[⟨.int .i64 6, ftcp, 0⟩, ⟨.int .i64 17, fudp, 1⟩] 2) := hb'
          clear hb' hL'
          refine hK.out _ _ trivial (fun hHeld => ?_)
          clear hK K
          try simp only [pu]
          refine wpAnyH_ready (rs := [5]) (by kernel_rfl) (by simp) ?_
          refine (AllReadyH.cons (o := sgrR20o2) rfl (fun K hK => ?_) AllReadyH.nil)
          · refine step_ins rfl _ _ _ rfl G 58 ficmp (#[⟨.int .i64 6, ftcp, 0⟩, ⟨.int .i64 17, fudp, 1⟩] : Array MapEntry) 2 (by kernel_rfl) (by kernel_rfl) (by kernel_rfl) hb rfl ?_
            intro W40 hb' gr sz
            have c40 : Below w.heap.size w W40 := c39.grown gr c39.size (fun k hk => by cases hk; exact hG)
            have hL' : G < W40.heap.size := by rw [sz]; exact hL
            clear hb hL sz gr c39
            have hL := hL'
            have hb : W40.heap[G]? = some (.map #[⟨.int .i64 6, ftcp, 0⟩, ⟨.int .i64 17, fudp, 1⟩, ⟨.int .i64 58, ficmp, 2⟩] 3) := hb'
            clear hb' hL'
            refine hK.out _ _ trivial (fun hHeld => ?_)
            clear hK K
            try simp only [pu]
            refine tk (i := 6) (oi := sgrR20o1) (v := (.map (some G))) hHeld ?_ ?_
            · intro w9 hSw
              try dsimp only at hSw
              go_simp
            try simp only [pu]
            refine tk (i := 7) (oi := sgrR20o0) (v := (.map (some G))) hHeld ?_ ?_
            · intro w9 hSw
              try dsimp only at hSw
              go_simp
            try simp only [pu]
            refine wpAnyH_done (by kernel_rfl) ?_ _
            refine NoPanic.normal ?_
            go_wp2
            go_ret
            exact ⟨_, G, rfl, hb, tab_of 58 6 17 58 ftcp fudp ficmp (by decide) (by decide) (by decide) (fun n => tab_n_ABI n), c40⟩
        · refine step_ins rfl _ _ _ rfl G 58 ficmp (#[⟨.int .i64 6, ftcp, 0⟩] : Array MapEntry) 1 (by kernel_rfl) (by kernel_rfl) (by kernel_rfl) hb rfl ?_
          intro W41 hb' gr sz
          have c41 : Below w.heap.size w W41 := c38.grown gr c38.size (fun k hk => by cases hk; exact hG)
          have hL' : G < W41.heap.size := by rw [sz]; exact hL
          clear hb hL sz gr c38
          have hL := hL'
          have hb : W41.heap[G]? = some (.map #[⟨.int .i64 6, ftcp, 0⟩, ⟨.int .i64 58, ficmp, 1⟩] 2) := hb'
          clear hb' hL'
          refine hK.out _ _ trivial (fun hHeld => ?_)
          clear hK K
          try simp only [pu]
          refine wpAnyH_ready (rs := [2]) (by kernel_rfl) (by simp) ?_
          refine (AllReadyH.cons (o := sgrR20o3) rfl (fun K hK => ?_) AllReadyH.nil)
          · refine step_ins rfl _ _ _ rfl G 17 fudp (#[⟨.int .i64 6, ftcp, 0⟩, ⟨.int .i64 58, ficmp, 1⟩] : Array MapEntry) 2 (by kernel_rfl) (by kernel_rfl) (by kernel_rfl) hb rfl ?_
            intro W42 hb' gr sz
            have c42 : Below w.heap.size w W42 := c41.grown gr c41.size (fun k hk => by cases hk; exact hG)
            have hL' : G < W42.heap.size := by rw [sz]; exact hL
            clear hb hL sz gr c41
            have hL := hL'
            have hb : W42.heap[G]? = some (.map #[⟨.int .i64 6, ftcp, 0⟩, ⟨.int .i64 58, ficmp, 1⟩, ⟨.int .i64 17, fudp, 2⟩] 3) := hb'
            clear hb' hL'
            refine hK.out _ _ trivial (fun hHeld => ?_)
            clear hK K
            try simp only [pu]
            refine tk (i := 6) (oi := sgrR20o1) (v := (.map (some G))) hHeld ?_ ?_
            · intro w9 hSw
              try dsimp only at hSw
              go_simp
            try simp only [pu]
            refine tk (i := 7) (oi := sgrR20o0) (v := (.map (some G))) hHeld ?_ ?_
            · intro w9 hSw
              try dsimp only at hSw
              go_simp
            try simp only [pu]
            refine wpAnyH_done (by kernel_rfl) ?_ _
            refine NoPanic.normal ?_
            go_wp2
            go_ret
            exact ⟨_, G, rfl, hb, tab_of 58 6 58 17 ftcp ficmp fudp (by decide) (by decide) (by decide) (fun n => tab_n_AIB n), c42⟩
      · refine step_ins rfl _ _ _ rfl G 17 fudp (#[] : Array MapEntry) 0 (by kernel_rfl) (by kernel_rfl) (by kernel_rfl) hb rfl ?_
        intro W43 hb' gr sz
        have c43 : Below w.heap.size w W43 := c37.grown gr c37.size (fun k hk => by cases hk; exact hG)
        have hL' : G < W43.heap.size := by rw [sz]; exact hL
        clear hb hL sz gr c37
        have hL := hL'
        have hb : W43.heap[G]? = some (.map #[⟨.int .i64 17, fudp, 0⟩] 1) := hb'
        clear hb' hL'
        refine hK.out _ _ trivial (fun hHeld => ?_)
        clear hK K
        try simp only [pu]
        refine wpAnyH_ready (rs := [1, 5]) (by kernel_rfl) (by simp) ?_
        refine (AllReadyH.cons (o := sgrR20o4) rfl (fun K hK => ?_) (AllReadyH.cons (o := sgrR20o2) rfl (fun K hK => ?_) AllReadyH.nil))
        · refine step_ins rfl _ _ _ rfl G 6 ftcp (#[⟨.int .i64 17, fudp, 0⟩] : Array MapEntry) 1 (by kernel_rfl) (by kernel_rfl) (by kernel_rfl) hb rfl ?_
          intro W44 hb' gr sz
          have c44 : Below w.heap.size w W44 := c43.grown gr c43.size (fun k hk => by cases hk; exact hG)
          have hL' : G < W44.heap.size := by rw [sz]; exact hL
          clear hb hL sz gr c43
          have hL := hL'
          have hb : W44.heap[G]? = some (.map #[⟨.int .i64 17, fudp, 0⟩, ⟨.int .i64 6, ftcp, 1⟩] 2) := hb'
          clear hb' hL'
          refine hK.out _ _ trivial (fun hHeld => ?_)
          clear hK K
          try simp only [pu]
          refine wpAnyH_ready (rs := [5]) (by kernel_rfl) (by simp) ?_
          refine (AllReadyH.cons (o := sgrR20o2) rfl (fun K hK => ?_) AllReadyH.nil)
          · refine step_ins rfl _ _ _ rfl G 58 ficmp (#[⟨.int .i64 17, fudp, 0⟩, ⟨.int .i64 6, ftcp, 1⟩] : Array MapEntry) 2 (by kernel_rfl) (by kernel_rfl) (by kernel_rfl) hb rfl ?_
            intro W45 hb' gr sz
            have c45 : Below w.heap.size w W45 := c44.grown gr c44.size (fun k hk => by cases hk; exact hG)
            have hL' : G < W45.heap.size := by rw [sz]; exact hL
            clear hb hL sz gr c44
            have hL := hL'
            have hb : W45.heap[G]? = some (.map #[⟨.int .i64 17, fudp, 0⟩, ⟨.int .i64 6, ftcp, 1⟩, ⟨.int .i64 58, ficmp, 2⟩] 3) := hb'
            clear hb' hL'
            refine hK.out _ _ trivial (fun hHeld => ?_)
            clear hK K
            try simp only [pu]
            refine tk (i := 6) (oi := sgrR20o1) (v := (.map (some G))) hHeld ?_ ?_
            · intro w9 hSw
              try dsimp only at hSw
              go_simp
            try simp only [pu]
            refine tk (i := 7) (oi := sgrR20o0) (v := (.map (some G))) hHeld ?_ ?_
            · intro w9 hSw
              try dsimp only at hSw
              go_simp
            try simp only [pu]
            refine wpAnyH_done (by kernel_rfl) ?_ _
            refine NoPanic.normal ?_
            go_wp2
            go_ret
            exact ⟨_, G, rfl, hb, tab_of 58 17 6 58 fudp ftcp ficmp (by decide) (by decide) (by decide) (fun n => tab_n_BAI n), c45⟩
        · refine step_ins rfl _ _ _ rfl G 58 ficmp (#[⟨.int .i64 17, fudp, 0⟩] : Array MapEntry) 1 (by kernel_rfl) (by kernel_rfl) (by kernel_rfl) hb rfl ?_
          intro W46 hb' gr sz
          have c46 : Below w.heap.size w W46 := c43.grown gr c43.size (fun k hk => by cases hk; exact hG)
          have hL' : G < W46.heap.size := by rw [sz]; exact hL
          clear hb hL sz gr c43
          have hL := hL'
          have hb : W46.heap[G]? = some (.map #[⟨.int .i64 17, fudp, 0⟩, ⟨.int .i64 58, ficmp, 1⟩] 2) := hb'
          clear hb' hL'
          refine hK.out _ _ trivial (fun hHeld => ?_)
          clear hK K
          try simp only [pu]
          refine wpAnyH_ready (rs := [1]) (by kernel_rfl) (by simp) ?_
          refine (AllReadyH.cons (o := sgrR20o4) rfl (fun K hK => ?_) AllReadyH.nil)
          · refine step_ins rfl _ _ _ rfl G 6 ftcp (#[⟨.int .i64 17, fudp, 0⟩, ⟨.int .i64 58, ficmp, 1⟩] : Array MapEntry) 2 (by kernel_rfl) (by kernel_rfl) (by kernel_rfl) hb rfl ?_
            intro W47 hb' gr sz
            have c47 : Below w.heap.size w W47 := c46.grown gr c46.size (fun k hk => by cases hk; exact hG)
            have hL' : G < W47.heap.size := by rw [sz]; exact hL
            clear hb hL sz gr c46
            have hL := hL'
            have hb : W47.heap[G]? = some (.map #[⟨.int .i64 17, fudp, 0⟩, ⟨.int .i64 58, ficmp, 1⟩, ⟨.int .i64 6, ftcp, 2⟩] 3) := hb'
            clear hb' hL'
            refine hK.out _ _ trivial (fun hHeld => ?_)
            clear hK K
            try simp only [pu]
            refine tk (i := 6) (oi := sgrR20o1) (v := (.map (some G))) hHeld ?_ ?_
            · intro w9 hSw
              try dsimp only at hSw
              go_simp
            try simp only [pu]
            refine tk (i := 7) (oi := sgrR20o0) (v := (.map (some G))) hHeld ?_ ?_
            · intro w9 hSw
              try dsimp only at hSw
              go_simp
            try simp only [pu]
            refine wpAnyH_done (by kernel_rfl) ?_ _
            refine NoPanic.normal ?_
            go_wp2
            go_ret
            exact ⟨_, G, rfl, hb, tab_of 58 17 58 6 fudp ficmp ftcp (by decide) (by decide) (by decide) (fun n => tab_n_BIA n), c47⟩
      · refine step_ins rfl _ _ _ rfl G 58 ficmp (#[] : Array MapEntry) 0 (by kernel_rfl) (by kernel_rfl) (by kernel_rfl) hb rfl ?_
        intro W48 hb' gr sz
        have c48 : Below w.heap.size w W48 := c37.grown gr c37.size (fun k hk => by cases hk; exact hG)
        have hL' : G < W48.heap.size := by rw [sz]; exact hL
        clear hb hL sz gr c37
        have hL := hL'
        have hb : W48.heap[G]? = some (.map #[⟨.int .i64 58, ficmp, 0⟩] 1) := hb'
        clear hb' hL'
        refine hK.out _ _ trivial (fun hHeld => ?_)
        clear hK K
        try simp only [pu]
        refine wpAnyH_ready (rs := [1, 2]) (by kernel_rfl) (by simp) ?_
        refine (AllReadyH.cons (o := sgrR20o4) rfl (fun K hK => ?_) (AllReadyH.cons (o := sgrR20o3) rfl (fun K hK => ?_) AllReadyH.nil))
        · refine step_ins rfl _ _ _ rfl G 6 ftcp (#[⟨.int .i64 58, ficmp, 0⟩] : Array MapEntry) 1 (by kernel_rfl) (by kernel_rfl) (by kernel_rfl) hb rfl ?_
          intro W49 hb' gr sz
          have c49 : Below w.heap.size w W49 := c48.grown gr c48.size (fun k hk => by cases hk; exact hG)
          have hL' : G < W49.heap.size := by rw [sz]; exact hL
          clear hb hL sz gr c48
          have hL := hL'
          have hb : W49.heap[G]? = some (.map #[⟨.int .i64 58, ficmp, 0⟩, ⟨.int .i64 6, ftcp, 1⟩] 2) := hb'
          clear hb' hL'
          refine hK.out _ _ trivial (fun hHeld => ?_)
          clear hK K
          try simp only [pu]
          refine wpAnyH_ready (rs := [2]) (by kernel_rfl) (by simp) ?_
          refine (AllReadyH.cons (o := sgrR20o3) rfl (fun K hK => ?_) AllReadyH.nil)
          · refine step_ins rfl _ _ _ rfl G 17 fudp (#[⟨.int .i64 58, ficmp, 0⟩, ⟨.int .i64 6, ftcp, 1⟩] : Array MapEntry) 2 (by kernel_rfl) (by kernel_rfl) (by kernel_rfl) hb rfl ?_
            intro W50 hb' gr sz
            have c50 : Below w.heap.size w W50 := c49.grown gr c49.size (fun k hk => by cases hk; exact hG)
            have hL' : G < W50.heap.size := by rw [sz]; exact hL
            clear hb hL sz gr c49
            have hL := hL'
            have hb : W50.heap[G]? = some (.map #[⟨.int .i64 58, ficmp, 0⟩, ⟨.int .i64 6, ftcp, 1⟩, ⟨.int .i64 17, fudp, 2⟩] 3) := hb'
            clear hb' hL'
            refine hK.out _ _ trivial (fun hHeld => ?_)
            clear hK K
            try simp only [pu]
            refine tk (i := 6) (oi := sgrR20o1) (v := (.map (some G))) hHeld ?_ ?_
            · intro w9 hSw
              try dsimp only at hSw
              go_simp
            try simp only [pu]
            refine tk (i := 7) (oi := sgrR20o0) (v := (.map (some G))) hHeld ?_ ?_
            · intro w9 hSw
              try dsimp only at hSw
              go_simp
            try simp only [pu]
            refine wpAnyH_done (by kernel_rfl) ?_ _
            refine NoPanic.normal ?_
            go_wp2
            go_ret
            exact ⟨_, G, rfl, hb, tab_of 58 58 6 17 ficmp ftcp fudp (by decide) (by decide) (by decide) (fun n => tab_n_IAB n), c50⟩
        · refine step_ins rfl _ _ _ rfl G 17 fudp (#[⟨.int .i64 58, ficmp, 0⟩] : Array MapEntry) 1 (by kernel_rfl) (by kernel_rfl) (by kernel_rfl) hb rfl ?_
          intro W51 hb' gr sz
          have c51 : Below w.heap.size w W51 := c48.grown gr c48.size (fun k hk => by cases hk; exact hG)
          have hL' : G < W51.heap.size := by rw [sz]; exact hL
          clear hb hL sz gr c48
          have hL := hL'
          have hb : W51.heap[G]? = some (.map #[⟨.int .i64 58, ficmp, 0⟩, ⟨.int .i64 17, fudp, 1⟩] 2) := hb'
          clear hb' hL'
          refine hK.out _ _ trivial (fun hHeld => ?_)
          clear hK K
          try simp only [pu]
          refine wpAnyH_ready (rs := [1]) (by kernel_rfl) (by simp) ?_
          refine (AllReadyH.cons (o := sgrR20o4) rfl (fun K hK => ?_) AllReadyH.nil)
          · refine step_ins rfl _ _ _ rfl G 6 ftcp (#[⟨.int .i64 58, ficmp, 0⟩, ⟨.int .i64 17, fudp, 1⟩] : Array MapEntry) 2 (by kernel_rfl) (by kernel_rfl) (by kernel_rfl) hb rfl ?_
            intro W52 hb' gr sz
            have c52 : Below w.heap.size w W52 := c51.grown gr c51.size (fun k hk => by cases hk; exact hG)
            have hL' : G < W52.heap.size := by rw [sz]; exact hL
            clear hb hL sz gr c51
            have hL := hL'
            have hb : W52.heap[G]? = some (.map #[⟨.int .i64 58, ficmp, 0⟩, ⟨.int .i64 17, fudp, 1⟩, ⟨.int .i64 6, ftcp, 2⟩] 3) := hb'
            clear hb' hL'
            refine hK.out _ _ trivial (fun hHeld => ?_)
            clear hK K
            try simp only [pu]
            refine tk (i := 6) (oi := sgrR20o1) (v := (.map (some G))) hHeld ?_ ?_
            · intro w9 hSw
              try dsimp only at hSw
              go_simp
            try simp only [pu]
            refine tk (i := 7) (oi := sgrR20o0) (v := (.map (some G))) hHeld ?_ ?_
            · intro w9 hSw
              try dsimp only at hSw
              go_simp
            try simp only [pu]
            refine wpAnyH_done (by kernel_rfl) ?_ _
            refine NoPanic.normal ?_
            go_wp2
            go_ret
            exact ⟨_, G, rfl, hb, tab_of 58 58 17 6 ficmp fudp ftcp (by decide) (by decide) (by decide) (fun n => tab_n_IBA n), c52⟩
end Go.Proofs.Ytpjjkdgmfjhfiaa
