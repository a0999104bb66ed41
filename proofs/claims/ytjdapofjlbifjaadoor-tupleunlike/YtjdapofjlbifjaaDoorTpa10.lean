/- Texts joined: TuP -/
import Derived.Test.YtjdapofjlbifjaaDoorTpa5
import Derived.Test.YtjdapofjlbifjaaDoorTpa9
namespace Go.Proofs.YtjdapofjlbifjaaDoor
open Go.RowKit
set_option linter.unusedVariables false
set_option linter.unusedSimpArgs false
theorem blk_two (w : World) (X : Obj) (cs : Array Value) (t : TypeId) : Blk ((w.alloc X).alloc (.cells cs t)) (w.heap.size + 1) t cs := by
  have := blk_new (w.alloc X) cs t
  rwa [World.size_alloc] at this
theorem bel_two (w : World) (X Y : Obj) : Below w.heap.size w ((w.alloc X).alloc Y) := ((Below.refl _ _).alloc (Nat.le_refl _) _).alloc (by simp) _
theorem bel_three (w : World) (X Y Z : Obj) : Below w.heap.size w (((w.alloc X).alloc Y).alloc Z) := (bel_two w X Y).alloc (by simp <;> omega) _
/-- A way: its family, its protocol, its ends and their ports. -/
structure Wy where
  fam : Int
  pr : Int
  s : Ad
  d : Ad
  sp : Int
  dp : Int
abbrev Wy.v (t : Wy) : Array Value := #[.int .i64 t.fam, .int .i64 t.pr, .int .i64 t.s.fam, .int .u64 t.s.hi, .int .u64 t.s.lo, .int .i64 t.d.fam, .int .u64 t.d.hi, .int .u64 t.d.lo, .int .i64 t.sp, .int .i64 t.dp]
structure Wy.ok (t : Wy) : Prop where
  s : t.s.ok
  d : t.d.ok
def Wy.rev (t : Wy) : Wy := ⟨t.fam, t.pr, t.d, t.s, t.dp, t.sp⟩
def sideB (f : Int) (a : Ad) (p : Int) : Bool := a.fam == f && (a.right && (decide (0 ≤ p) && decide (p ≤ 65535)))
/-- The name of a protocol. -/
def nameB (f p : Int) : List UInt8 := if p = 6 then [116, 99, 112] else if p = 17 then [117, 100, 112] else if p = 1 ∧ f = 4 then [105, 99, 109, 112] else if p = 58 ∧ f = 6 then [105, 99, 109, 112, 54] else []
def Wy.right (t : Wy) : Bool := sideB t.fam t.s t.sp && (sideB t.fam t.d t.dp && (nameB t.fam t.pr != []))
theorem Wy.right_rev (t : Wy) : t.rev.right = t.right := by
  show (sideB t.fam t.d t.dp && (sideB t.fam t.s t.sp && _)) = (sideB t.fam t.s t.sp && (sideB t.fam t.d t.dp && _))
  rw [← Bool.and_assoc, Bool.and_comm (sideB t.fam t.d t.dp), Bool.and_assoc]
  rfl
theorem sideB_iff {f : Int} {a : Ad} {p : Int} : sideB f a p = true ↔ a.fam = f ∧ a.right = true ∧ 0 ≤ p ∧ p ≤ 65535 := by simp [sideB]
theorem Wy.right_iff {t : Wy} : t.right = true ↔ sideB t.fam t.s t.sp = true ∧ sideB t.fam t.d t.dp = true ∧ nameB t.fam t.pr ≠ [] := by simp [Wy.right]
/-- The order of two ways. -/
def Wy.order (a b : Wy) : Int :=
  if a.fam = b.fam then (if a.pr = b.pr then (if a.s.same b.s then (if a.d.same b.d then (if a.sp = b.sp then cmp3 a.dp b.dp else cmp3 a.sp b.sp) else a.d.order b.d) else a.s.order b.s) else cmp3 a.pr b.pr) else cmp3 a.fam b.fam
def lexI : List Int → List Int → Int
  | x :: xs, y :: ys => if x = y then lexI xs ys else cmp3 x y
  | _, _ => 0
theorem cmp3_self (x : Int) : cmp3 x x = 0 := by unfold cmp3; rw [if_neg (by omega), if_neg (by omega)]
theorem cmp3_neg (x y : Int) : cmp3 y x = - cmp3 x y := by unfold cmp3; (repeat' split) <;> omega
theorem cmp3_zero {x y : Int} : cmp3 x y = 0 ↔ x = y := by unfold cmp3; (repeat' split) <;> omega
theorem cmp3_le {x y : Int} : cmp3 x y ≤ 0 ↔ x ≤ y := by unfold cmp3; (repeat' split) <;> omega
theorem lexI_neg : ∀ a b : List Int, lexI b a = - lexI a b
  | [], [] => rfl
  | [], _ :: _ => rfl
  | _ :: _, [] => rfl
  | x :: xs, y :: ys => by
    unfold lexI
    by_cases h : x = y
    · rw [if_pos h, if_pos h.symm, lexI_neg xs ys]
    · rw [if_neg h, if_neg (fun e => h e.symm), cmp3_neg]
theorem lexI_zero : ∀ a b : List Int, a.length = b.length → (lexI a b = 0 ↔ a = b)
  | [], [], _ => by simp [lexI]
  | x :: xs, y :: ys, h => by
    unfold lexI
    by_cases e : x = y
    · rw [if_pos e, lexI_zero xs ys (by simpa using h), e]; simp
    · rw [if_neg e, cmp3_zero]; simp [e]
theorem lexI_tr : ∀ a b c : List Int, a.length = b.length → b.length = c.length → lexI a b ≤ 0 → lexI b c ≤ 0 → lexI a c ≤ 0
  | [], [], [], _, _, _, _ => by simp [lexI]
  | x :: xs, y :: ys, z :: zs, h, h', p, q => by
    unfold lexI at p q ⊢
    by_cases e : x = y
    · by_cases e' : y = z
      · rw [if_pos e] at p
        rw [if_pos e'] at q
        rw [if_pos (e.trans e')]
        exact lexI_tr xs ys zs (by simpa using h) (by simpa using h') p q
      · rw [if_neg e', cmp3_le] at q
        subst e
        rw [if_neg e', cmp3_le]
        exact q
    · rw [if_neg e, cmp3_le] at p
      by_cases e' : y = z
      · subst e'
        rw [if_neg e, cmp3_le]
        exact p
      · rw [if_neg e', cmp3_le] at q
        by_cases e'' : x = z
        · omega
        · rw [if_neg e'', cmp3_le]; omega
def Wy.row (t : Wy) : List Int := [t.fam, t.pr, t.s.fam, t.s.hi, t.s.lo, t.d.fam, t.d.hi, t.d.lo, t.sp, t.dp]
theorem Ad.order_lex (a b : Ad) : a.order b = lexI [a.fam, a.hi, a.lo] [b.fam, b.hi, b.lo] := by
  unfold Ad.order lexI lexI lexI lexI
  by_cases h : a.fam = b.fam
  · rw [if_pos (cmp3_zero.2 h), if_pos h]
    by_cases h' : a.hi = b.hi
    · rw [if_pos (cmp3_zero.2 h'), if_pos h']
      by_cases h'' : a.lo = b.lo
      · rw [if_pos h'', h'', cmp3_self]
      · rw [if_neg h'']
    · rw [if_neg (fun e => h' (cmp3_zero.1 e)), if_neg h']
  · rw [if_neg (fun e => h (cmp3_zero.1 e)), if_neg h]
theorem lexI_three (x y z x' y' z' : Int) (u v : List Int) : lexI (x :: y :: z :: u) (x' :: y' :: z' :: v) = if x = x' ∧ y = y' ∧ z = z' then lexI u v else lexI [x, y, z] [x', y', z'] := by
  by_cases h : x = x'
  · by_cases h' : y = y'
    · by_cases h'' : z = z'
      · simp [lexI, h, h', h'']
      · simp [lexI, h, h', h'']
    · simp [lexI, h, h']
  · simp [lexI, h]
theorem Ad.same_eq (a b : Ad) : (a.same b = true) ↔ (a.fam = b.fam ∧ a.hi = b.hi ∧ a.lo = b.lo) := by simp [Ad.same]
theorem Wy.order_lex (a b : Wy) : a.order b = lexI a.row b.row := by
  unfold Wy.order Wy.row
  by_cases h : a.fam = b.fam
  · rw [if_pos h, lexI, if_pos h]
    by_cases h2 : a.pr = b.pr
    · rw [if_pos h2, lexI, if_pos h2, lexI_three, lexI_three, Ad.order_lex, Ad.order_lex]
      by_cases h3 : a.s.same b.s = true
      · rw [if_pos h3, if_pos ((Ad.same_eq _ _).1 h3)]
        by_cases h4 : a.d.same b.d = true
        · rw [if_pos h4, if_pos ((Ad.same_eq _ _).1 h4)]
          by_cases h5 : a.sp = b.sp
          · rw [if_pos h5, lexI, if_pos h5, lexI]
            by_cases h6 : a.dp = b.dp
            · rw [if_pos h6, h6, cmp3_self]; rfl
            · rw [if_neg h6]
          · rw [if_neg h5, lexI, if_neg h5]
        · rw [if_neg h4, if_neg (fun e => h4 ((Ad.same_eq _ _).2 e))]
      · rw [if_neg h3, if_neg (fun e => h3 ((Ad.same_eq _ _).2 e))]
    · rw [if_neg h2, lexI, if_neg h2]
  · rw [if_neg h, lexI, if_neg h]
theorem Wy.row_inj {a b : Wy} (h : a.row = b.row) : a = b := by
  obtain ⟨f, p, ⟨x, y, z⟩, ⟨x', y', z'⟩, u, v⟩ := a
  obtain ⟨f2, p2, ⟨x2, y2, z2⟩, ⟨x2', y2', z2'⟩, u2, v2⟩ := b
  simp [Wy.row] at h
  simp [h]
theorem Wy.order_neg (a b : Wy) : b.order a = - a.order b := by rw [Wy.order_lex, Wy.order_lex, lexI_neg]
theorem Wy.order_zero {a b : Wy} : a.order b = 0 ↔ a = b := by
  rw [Wy.order_lex, lexI_zero _ _ (by simp [Wy.row])]
  exact ⟨Wy.row_inj, fun e => by rw [e]⟩
theorem Wy.order_tr {a b c : Wy} (h : a.order b ≤ 0) (h' : b.order c ≤ 0) : a.order c ≤ 0 := by
  rw [Wy.order_lex] at *
  exact lexI_tr _ _ _ (by simp [Wy.row]) (by simp [Wy.row]) h h'
theorem cmp3_bd (x y : Int) : -1 ≤ cmp3 x y ∧ cmp3 x y ≤ 1 := by unfold cmp3; (repeat' split) <;> omega
theorem lexI_bd : ∀ a b : List Int, -1 ≤ lexI a b ∧ lexI a b ≤ 1
  | [], [] => by simp [lexI]
  | [], _ :: _ => by simp [lexI]
  | _ :: _, [] => by simp [lexI]
  | x :: xs, y :: ys => by
    unfold lexI
    split
    · exact lexI_bd xs ys
    · exact cmp3_bd x y
theorem Wy.order_bd (a b : Wy) : -1 ≤ a.order b ∧ a.order b ≤ 1 := by rw [Wy.order_lex]; exact lexI_bd _ _
/-- The first of some numbers that is not zero. -/
def fst0 : List Int → Int
  | [] => 0
  | x :: r => if x = 0 then fst0 r else x
theorem Ad.order_zero {a b : Ad} : a.order b = 0 ↔ a.same b = true := by
  rw [Ad.order_lex, lexI_zero _ _ (by simp), Ad.same_eq]; simp
theorem Wy.order_fst (a b : Wy) : a.order b = fst0 [cmp3 a.fam b.fam, cmp3 a.pr b.pr, a.s.order b.s, a.d.order b.d, cmp3 a.sp b.sp, cmp3 a.dp b.dp] := by
  unfold Wy.order
  simp only [fst0, cmp3_zero, Ad.order_zero]
  (repeat' split) <;> first | rfl | (rw [cmp3_zero]; assumption)
end Go.Proofs.YtjdapofjlbifjaaDoor
