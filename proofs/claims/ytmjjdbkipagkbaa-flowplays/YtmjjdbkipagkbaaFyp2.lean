/- Texts joined: BlkY TcA TcQ Ord -/
import Derived.Test.YtmjjdbkipagkbaaFyp1
import Derived.Deep.RegionHeld3
namespace Go.Proofs.Ytmjjdbkipagkbaa
open Go.RowKit
set_option linter.unusedVariables false
theorem yieldsIf_blk_w {ops : Array Oper} {S : World → Prop} {o : Oper} {ac : Act} (hw : Region.wanted o (yielded ops ac.tmps) = true) (t : TypeId) (p : Operand) (ho : o.op = Op.load t p) (g : Nat) (hp : ac.eval p = .pointer (some ⟨g, 0, none⟩)) (cs : Array Value)
    (hS : ∀ w, S w → Blk w g t cs) {fs : _} (hu : Try.prog.underlying t = some (.struct fs)) (hi : (Try.prog.info? t).map (·.size) = some cs.size) : YieldsIf Try.prog ops S o (.agg cs) ac := by
  refine .inl ⟨hw, fun w hw' => ?_⟩
  have hl := load_blk (hS w hw') hu hi
  simp [execOp, ho, hp, Instr.loadAt, Instr.sureAddr, hl, Result.andThen]
end Go.Proofs.Ytmjjdbkipagkbaa
namespace Go.Proofs.Ytmjjdbkipagkbaa
open Go.RowKit
set_option linter.unusedVariables false
set_option linter.unusedSimpArgs false
/-- A stream: its state, of each side what comes next, how far it may go, whether it is known, and has ended. -/
structure Cn where
  st : Int
  n0 : Int
  n1 : Int
  e0 : Int
  e1 : Int
  k0 : Bool
  k1 : Bool
  d0 : Bool
  d1 : Bool
abbrev Cn.v (c : Cn) : Array Value := #[.int .i64 c.st, .int .u32 c.n0, .int .u32 c.n1, .int .u32 c.e0, .int .u32 c.e1, .bool c.k0, .bool c.k1, .bool c.d0, .bool c.d1]
/-- A segment. -/
structure Gt where
  fl : Int
  win : Int
  sz : Int
  sq : Int
  ak : Int
abbrev Gt.v (g : Gt) : Array Value := #[.int .i64 g.fl, .int .i64 g.win, .int .i64 g.sz, .int .u32 g.sq, .int .u32 g.ak]
def cn0 : Cn := ⟨0, 0, 0, 0, 0, false, false, false, false⟩
def flB (f k : Int) : Bool := bits .and .i64 f k != 0
def frB (a b : Int) : Bool := decide ((a - b) % 4294967296 < 2147483648)
def inB15 (n : Int) : Bool := decide (0 ≤ n) && decide (n ≤ 65535)
def bN (b : Bool) : Int := if b then 1 else 0
def Gt.e (g : Gt) : Int := (g.sq + g.sz + bN (flB g.fl 2) + bN (flB g.fl 1)) % 4294967296
def Gt.lim (g : Gt) : Int := (g.ak + g.win) % 4294967296
def wiB (n x l : Int) : Bool := frB n ((x - 65535) % 4294967296) && frB l n
def stOf (a b : Bool) : Int := if a && b then 5 else if a || b then 4 else 3
def Cn.right (c : Cn) : Bool :=
  if c.st == 1 then c.k0 && (!c.k1 && (!c.d0 && !c.d1))
  else if c.st == 2 then c.k0 && (c.k1 && (!c.d0 && !c.d1))
  else if c.st == 3 || (c.st == 4 || c.st == 5) then c.k0 && (c.k1 && c.st == stOf c.d0 c.d1)
  else if c.st == 6 then c.k0 else false
/-- Of the two sides: false the one that began. -/
def Cn.nx (c : Cn) (s : Bool) : Int := if s then c.n1 else c.n0
def Cn.ed (c : Cn) (s : Bool) : Int := if s then c.e1 else c.e0
def Cn.kn (c : Cn) (s : Bool) : Bool := if s then c.k1 else c.k0
def sdI (s : Bool) : Int := if s then 1 else 0
def Cn.win (c : Cn) (s : Bool) (g : Gt) : Bool := c.kn s && wiB g.e (c.nx s) (c.ed s)
def Cn.rst (c : Cn) (s : Bool) (g : Gt) : Option Cn :=
  if c.win s g || (s && (c.st == 1 && (flB g.fl 16 && g.ak == c.n0))) then some { c with st := 6 } else none
def Cn.ans (c : Cn) (g : Gt) : Cn := { c with st := 2, k1 := true, n1 := g.e, e0 := g.lim, e1 := (g.e + c.e1) % 4294967296 }
def Cn.syn (c : Cn) (s : Bool) (g : Gt) : Option Cn :=
  if flB g.fl 1 || g.sz != 0 then none
  else if s = false then (if c.st == 1 && (!flB g.fl 16 && g.e == c.n0) then some c else none)
  else if !flB g.fl 16 || g.ak != c.n0 then none
  else if c.st == 1 then some (c.ans g)
  else if c.st == 2 && g.e == c.n1 then some c else none
/-- Behind bytes: E the end, L how far the other side may go; P, O: do they count? F: is it the last of this side? -/
def Cn.byR (c : Cn) (s : Bool) (E L : Int) (P O F : Bool) : Cn :=
  ⟨stOf (if !s && F then true else c.d0) (if s && F then true else c.d1), if !s && P then E else c.n0, if s && P then E else c.n1, if s && O then L else c.e0, if !s && O then L else c.e1, c.k0, c.k1, if !s && F then true else c.d0, if s && F then true else c.d1⟩
def Cn.byt (c : Cn) (s : Bool) (g : Gt) : Option Cn :=
  if c.win s g && wiB g.ak (c.nx (!s)) (c.nx (!s)) then some (c.byR s g.e g.lim (frB g.e (c.nx s)) (frB g.lim (c.ed (!s))) (flB g.fl 1)) else none
def Cn.take (c : Cn) (s : Bool) (g : Gt) : Option Cn :=
  if flB g.fl 4 then c.rst s g
  else if c.st == 6 then none
  else if flB g.fl 2 then c.syn s g
  else if !flB g.fl 16 || (c.st == 1 || (s && c.st == 2)) then none
  else c.byt s g
def Cn.stp (c : Cn) (s : Bool) (g : Gt) : Cn × Int := if c.right && (inB15 g.win && inB15 g.sz) then (match c.take s g with | some d => (d, 0) | none => (cn0, 23)) else (cn0, 1)
def Cn.step (c : Cn) (i : Int) (g : Gt) : Cn × Int := if i == 0 then c.stp false g else if i == 1 then c.stp true g else (cn0, 1)
def Cn.life (c : Cn) : Int := if c.right then (if c.st == 3 then 3600 else if c.st == 4 then 60 else if c.st == 6 then 1 else 30) else 0
def beg (f sq win sz : Int) : Cn × Int :=
  if inB15 win && inB15 sz then (if bits .and .i64 f 23 == 2 && sz == 0 then (⟨1, (sq + 1) % 4294967296, 0, (sq + 1) % 4294967296, win % 4294967296, true, false, false, false⟩, 0) else (cn0, 23)) else (cn0, 1)
theorem stOf_cases (a b : Bool) : stOf a b = 3 ∨ stOf a b = 4 ∨ stOf a b = 5 := by cases a <;> cases b <;> simp [stOf]
theorem right_known {c : Cn} (h : c.right = true) : c.k0 = true := by
  unfold Cn.right at h
  repeat' split at h
  all_goals simp_all
theorem right_open {c : Cn} (h : c.right = true) (h1 : (c.st == 1) = false) (h6 : (c.st == 6) = false) : c.k0 = true ∧ c.k1 = true := by
  unfold Cn.right at h
  repeat' split at h
  all_goals simp_all
theorem right_syn {c : Cn} (h : c.right = true) (h1 : (c.st == 1) = true) : c.k0 = true ∧ c.k1 = false ∧ c.d0 = false ∧ c.d1 = false := by
  unfold Cn.right at h
  rw [h1] at h
  simpa using h
theorem take_right {c d : Cn} {s : Bool} {g : Gt} (h : c.right = true) (ht : c.take s g = some d) : d.right = true ∧ ((c.st == 6) = true → flB g.fl 4 = true ∧ d.st = 6) := by
  unfold Cn.take at ht
  cases h4 : flB g.fl 4 with
  | true =>
    rw [h4] at ht
    simp only [if_true] at ht
    unfold Cn.rst at ht
    split at ht
    · simp only [Option.some.injEq] at ht
      subst ht
      exact ⟨by simp [Cn.right, right_known h], fun _ => ⟨rfl, rfl⟩⟩
    · cases ht
  | false =>
    rw [h4] at ht
    cases h6 : (c.st == 6) with
    | true => simp [h6] at ht
    | false =>
      refine ⟨?_, fun e => by cases e⟩
      simp only [h6, Bool.false_eq_true, if_false] at ht
      cases h2 : flB g.fl 2 with
      | true =>
        simp only [h2, if_true] at ht
        unfold Cn.syn at ht
        split at ht
        · cases ht
        · split at ht
          · split at ht
            · simp only [Option.some.injEq] at ht; subst ht; exact h
            · cases ht
          · split at ht
            · cases ht
            · split at ht
              · rename_i h1
                simp only [Option.some.injEq] at ht
                subst ht
                obtain ⟨q0, q1, q2, q3⟩ := right_syn h h1
                simp [Cn.right, Cn.ans, q0, q2, q3]
              · split at ht
                · simp only [Option.some.injEq] at ht; subst ht; exact h
                · cases ht
      | false =>
        simp only [h2, Bool.false_eq_true, if_false] at ht
        split at ht
        · cases ht
        · rename_i hn
          have h1 : (c.st == 1) = false := by
            cases q : (c.st == 1) with
            | false => rfl
            | true => simp [q] at hn
          unfold Cn.byt at ht
          split at ht
          · simp only [Option.some.injEq] at ht
            subst ht
            obtain ⟨q0, q1⟩ := right_open h h1 h6
            unfold Cn.right Cn.byR
            simp only [q0, q1, Bool.true_and, beq_self_eq_true]
            rcases stOf_cases (if (!s && flB g.fl 1) = true then true else c.d0) (if (s && flB g.fl 1) = true then true else c.d1) with e | e | e <;> rw [e] <;> simp
          · cases ht
theorem stp_ok {c d : Cn} {s : Bool} {g : Gt} (h : c.stp s g = (d, 0)) : c.take s g = some d := by
  unfold Cn.stp at h
  split at h
  · cases ht : c.take s g with
    | none => rw [ht] at h; simp at h
    | some x => rw [ht] at h; simp at h; rw [h]
  · simp at h
theorem step_right {c d : Cn} {i : Int} {g : Gt} (h : c.right = true) (hs : c.step i g = (d, 0)) : d.right = true ∧ ((c.st == 6) = true → flB g.fl 4 = true ∧ d.st = 6) := by
  unfold Cn.step at hs
  split at hs
  · exact take_right h (stp_ok hs)
  · split at hs
    · exact take_right h (stp_ok hs)
    · simp at hs
/-- Numbers within 32 bits. -/
structure Cn.in32 (c : Cn) : Prop where
  n0 : 0 ≤ c.n0 ∧ c.n0 < 4294967296
  n1 : 0 ≤ c.n1 ∧ c.n1 < 4294967296
  e0 : 0 ≤ c.e0 ∧ c.e0 < 4294967296
  e1 : 0 ≤ c.e1 ∧ c.e1 < 4294967296
structure Gt.in32 (g : Gt) : Prop where
  sq : 0 ≤ g.sq ∧ g.sq < 4294967296
  ak : 0 ≤ g.ak ∧ g.ak < 4294967296
def cmp3 (x y : Int) : Int := if x < y then -1 else if y < x then 1 else 0
def Ad.order (a b : Ad) : Int := if cmp3 a.fam b.fam = 0 then (if cmp3 a.hi b.hi = 0 then cmp3 a.lo b.lo else cmp3 a.hi b.hi) else cmp3 a.fam b.fam
theorem cmpI_any (x y : Int) (w : World) : Calls Try.prog 76 #[.int .i64 x, .int .i64 y] w fun e w' => e = .returned (.int .i64 (cmp3 x y)) ∧ w' = w := by
  have nan : ∀ x w, Calls Try.prog 94 #[.int .i64 x] w fun e w' => e = .returned (.bool false) ∧ w' = w := fun x w => by
    go_enter Try.func94, Try.ntmps94
    go_wp2
    go_ret
    exact ⟨by simp, rfl⟩
  go_enter Try.func76, Try.ntmps76
  rcases Int.lt_trichotomy x y with h | h | h
  · go_wp2_with (go_at_call 94; refine (nan _ _).mono ?_; rintro e w' ⟨rfl, rfl⟩)
    go_ret
    exact ⟨ret_int (by simp [cmp3, h]), rfl⟩
  · subst h
    go_wp2_with (go_at_call 94; refine (nan _ _).mono ?_; rintro e w' ⟨rfl, rfl⟩)
    go_ret
    exact ⟨ret_int (by simp [cmp3]), rfl⟩
  · have h' : ¬ x < y := by omega
    go_wp2_with (go_at_call 94; refine (nan _ _).mono ?_; rintro e w' ⟨rfl, rfl⟩)
    go_ret
    exact ⟨ret_int (by simp [cmp3, h, h']), rfl⟩
theorem cmpU_any (x y : Int) (w : World) : Calls Try.prog 96 #[.int .u64 x, .int .u64 y] w fun e w' => e = .returned (.int .i64 (cmp3 x y)) ∧ w' = w := by
  have nan : ∀ x w, Calls Try.prog 106 #[.int .u64 x] w fun e w' => e = .returned (.bool false) ∧ w' = w := fun x w => by
    go_enter Try.func106, Try.ntmps106
    go_wp2
    go_ret
    exact ⟨by simp, rfl⟩
  go_enter Try.func96, Try.ntmps96
  rcases Int.lt_trichotomy x y with h | h | h
  · go_wp2_with (go_at_call 106; refine (nan _ _).mono ?_; rintro e w' ⟨rfl, rfl⟩)
    go_ret
    exact ⟨ret_int (by simp [cmp3, h]), rfl⟩
  · subst h
    go_wp2_with (go_at_call 106; refine (nan _ _).mono ?_; rintro e w' ⟨rfl, rfl⟩)
    go_ret
    exact ⟨ret_int (by simp [cmp3]), rfl⟩
  · have h' : ¬ x < y := by omega
    go_wp2_with (go_at_call 106; refine (nan _ _).mono ?_; rintro e w' ⟨rfl, rfl⟩)
    go_ret
    exact ⟨ret_int (by simp [cmp3, h, h']), rfl⟩
theorem rright_any (f h l : Int) (w : World) (hl : 0 ≤ l) :
    Calls Try.prog 81 #[.agg #[.int .i64 f, .int .u64 h, .int .u64 l]] w fun e w' => e = .returned (.bool (Ad.right ⟨f, h, l⟩)) ∧ w' = w.alloc (.cells #[.int .i64 f, .int .u64 h, .int .u64 l] 24) := by
  go_enter Try.func81, Try.ntmps81
  by_cases h6 : f = 6
  · subst h6
    go_wp2
    go_ret
    exact ⟨by simp [Ad.right], rfl⟩
  · by_cases h4 : f = 4
    · subst h4
      by_cases hh : h = 0
      · subst hh
        go_wp2
        go_ret
        refine ⟨?_, rfl⟩
        have e : decide (l < 4294967296) = (l / 4294967296 == 0) := by
          rw [Bool.eq_iff_iff]; simp; omega
        simp [Ad.right, e]
      · go_wp2
        go_ret
        exact ⟨by simp [Ad.right, hh], rfl⟩
    · go_wp2
      go_ret
      exact ⟨by simp [Ad.right, h4, h6], rfl⟩
theorem rorder_any (f h l f' h' l' : Int) (w : World) :
    Calls Try.prog 57 #[.agg #[.int .i64 f, .int .u64 h, .int .u64 l], .agg #[.int .i64 f', .int .u64 h', .int .u64 l']] w fun e w' => e = .returned (.int .i64 (Ad.order ⟨f, h, l⟩ ⟨f', h', l'⟩)) ∧ Below w.heap.size w w' := by
  have bb : Below w.heap.size w ((w.alloc (.cells #[.int .i64 f, .int .u64 h, .int .u64 l] 24)).alloc (.cells #[.int .i64 f', .int .u64 h', .int .u64 l'] 24)) := ((Below.refl _ _).alloc (Nat.le_refl _) _).alloc (by simp) _
  obtain ⟨T, hT⟩ : ∃ T, Ad.order ⟨f, h, l⟩ ⟨f', h', l'⟩ = T := ⟨_, rfl⟩
  rw [hT]
  have HT : Hid (Ad.order ⟨f, h, l⟩ ⟨f', h', l'⟩ = T) := hT
  clear hT
  go_enter Try.func57, Try.ntmps57
  rcases Int.lt_trichotomy f f' with h1 | h1 | h1
  · go_wp2
    go_ret
    exact ⟨ret_int (by rw [← HT.out]; simp [Ad.order, cmp3, h1]), bb⟩
  · subst h1
    rcases Int.lt_trichotomy h h' with h2 | h2 | h2
    · go_wp2
      go_ret
      exact ⟨ret_int (by rw [← HT.out]; simp [Ad.order, cmp3, h2]), bb⟩
    · subst h2
      rcases Int.lt_trichotomy l l' with h3 | h3 | h3
      · go_wp2
        go_ret
        exact ⟨ret_int (by rw [← HT.out]; simp [Ad.order, cmp3, h3]), bb⟩
      · subst h3
        go_wp2
        go_ret
        exact ⟨ret_int (by rw [← HT.out]; simp [Ad.order, cmp3]), bb⟩
      · have h3' : ¬ l < l' := by omega
        go_wp2
        go_ret
        exact ⟨ret_int (by rw [← HT.out]; simp [Ad.order, cmp3, h3, h3']), bb⟩
    · have h2' : ¬ h < h' := by omega
      go_wp2
      go_ret
      exact ⟨ret_int (by rw [← HT.out]; unfold Ad.order cmp3; simp only; (repeat' split) <;> omega), bb⟩
  · have h1' : ¬ f < f' := by omega
    go_wp2
    go_ret
    exact ⟨ret_int (by rw [← HT.out]; unfold Ad.order cmp3; simp only; (repeat' split) <;> omega), bb⟩
theorem or_any (g x y z : Int) (b : Nat) (w : World) (h0 : w.cell? ⟨b, 0, none⟩ = some (.int .i64 x)) (h1 : w.cell? ⟨b, 1, none⟩ = some (.int .i64 y)) (h2 : w.cell? ⟨b, 2, none⟩ = some (.int .i64 z)) (c : Nat) :
    Calls Try.prog 95 #[.slice (some ⟨b, 0, none⟩) 3 c] w fun e w' => e = .returned (.int .i64 (if x = 0 then (if y = 0 then z else y) else x)) ∧ w' = w := by
  obtain ⟨T, hT⟩ : ∃ T, (if x = 0 then (if y = 0 then z else y) else x) = T := ⟨_, rfl⟩
  rw [hT]
  have HT : Hid ((if x = 0 then (if y = 0 then z else y) else x) = T) := hT
  clear hT
  go_enter Try.func95, Try.ntmps95
  go_wp2
  go_loop [8] (fun i => ∃ k : Nat, k ≤ 3 ∧ i = .int .i64 k ∧ (1 ≤ k → x = 0) ∧ (2 ≤ k → y = 0) ∧ (3 ≤ k → z = 0)) (fun i => 3 - (intOf i).toNat)
  case atStart => exact ⟨0, by omega, rfl, by omega, by omega, by omega⟩
  case round =>
    obtain ⟨k, hk, rfl, k1, k2, k3⟩ := hrel
    have hk' : k = 0 ∨ k = 1 ∨ k = 2 ∨ k = 3 := by omega
    rcases hk' with rfl | rfl | rfl | rfl
    · clear k1 k2 k3
      by_cases hx : x = 0
      · go_wp2
        exact ⟨⟨1, by omega, rfl, fun _ => hx, by omega, by omega⟩, by simp [intOf]⟩
      · go_wp2
        go_ret
        exact ⟨ret_int (by rw [← HT.out, if_neg hx]), rfl⟩
    · have hx := k1 (by omega)
      clear k1 k2 k3
      by_cases hy : y = 0
      · go_wp2
        exact ⟨⟨2, by omega, rfl, fun _ => hx, fun _ => hy, by omega⟩, by simp [intOf]⟩
      · go_wp2
        go_ret
        exact ⟨ret_int (by rw [← HT.out, if_pos hx, if_neg hy]), rfl⟩
    · have hx := k1 (by omega)
      have hy := k2 (by omega)
      clear k1 k2 k3
      by_cases hz : z = 0
      · go_wp2
        exact ⟨⟨3, by omega, rfl, fun _ => hx, fun _ => hy, fun _ => hz⟩, by simp [intOf]⟩
      · go_wp2
        go_ret
        exact ⟨ret_int (by rw [← HT.out, if_pos hx, if_pos hy]), rfl⟩
    · have hx := k1 (by omega)
      have hy := k2 (by omega)
      have hz := k3 (by omega)
      clear k1 k2 k3
      go_wp2
      go_ret
      exact ⟨ret_int (by rw [← HT.out, if_pos hx, if_pos hy, hz]), rfl⟩
end Go.Proofs.Ytmjjdbkipagkbaa
