/- Texts joined: Pre MaskLaw Frm Ord App Parts Byt RFrm -/
import Derived.Test.YtcoldgpnkdallaaDoorRxa0
import Derived.Deep.QuietTactic
import Derived.BigQuiet
import Derived.Deep.RegionHeld3
import Derived.WalkKit
import Derived.Laws.AppendOwn
import Derived.Laws.AppendOwnNone
import Derived.Laws.OwnMore
import Derived.OwnWalk
import Derived.KernelRfl
import Derived.Laws.BytesArg
import Derived.Laws.MakeOwn
import Derived.RegionTactic
import Derived.BigRegion
namespace Go.Proofs.YtcoldgpnkdallaaDoor
open Go.RowKit
set_option linter.unusedVariables false
set_option linter.unusedSimpArgs false
theorem kept {W w1 : World} {b o : Nat} {v : Value} (hb : Below W.heap.size W w1) (h : W.cell? ⟨b, o, none⟩ = some v) : w1.cell? ⟨b, o, none⟩ = some v :=
  (hb.cell (World.block_lt_of_cell? W _ h)).trans h
theorem kept_alloc {W w1 : World} {b o : Nat} {v : Value} (hb : Below W.heap.size W w1) (X : Obj) (h : W.cell? ⟨b, o, none⟩ = some v) : (w1.alloc X).cell? ⟨b, o, none⟩ = some v :=
  kept (hb.alloc hb.size X) h
/-- Are they one address? -/
def Ad.same (a b : Ad) : Bool := a.fam == b.fam && (a.hi == b.hi && a.lo == b.lo)
theorem Ad.same_iff {a b : Ad} : a.same b = true ↔ a = b := by
  cases a; cases b; simp [Ad.same]
def Ad.has (p : Ad) (n : Int) (a : Ad) : Bool := (a.mask n).2 == 0 && (a.mask n).1.same p
def Ad.rightPrefix (p : Ad) (n : Int) : Bool := p.has n p
set_option maxHeartbeats 400000 in
theorem rightPrefix_any (f h l b : Int) (w : World) (ho : Ad.ok ⟨f, h, l⟩) :
    Calls Tryd.prog 86 #[.agg #[.int .i64 f, .int .u64 h, .int .u64 l, .int .i64 b]] w fun e w' =>
      e = .returned (.bool (Ad.rightPrefix ⟨f, h, l⟩ b)) ∧ Below w.heap.size w w' := by
  unfold Ad.rightPrefix Ad.has
  have hm := fun w => mask_any f h l b w ho
  generalize Ad.mask ⟨f, h, l⟩ b = m at *
  obtain ⟨⟨mf, mh, ml⟩, me⟩ := m
  simp only at hm
  go_enter Tryd.func86, Tryd.ntmps86
  go_wp2_with fail
  refine (hm _).mono ?_
  rintro e w1 ⟨rfl, b1⟩
  have k0 : ∀ X, (w1.alloc X).cell? ⟨w.heap.size, 0, none⟩ = some (.int .i64 f) := fun X => kept_alloc b1 X (by simp)
  have k1 : ∀ X, (w1.alloc X).cell? ⟨w.heap.size, 1, none⟩ = some (.int .u64 h) := fun X => kept_alloc b1 X (by simp)
  have k2 : ∀ X, (w1.alloc X).cell? ⟨w.heap.size, 2, none⟩ = some (.int .u64 l) := fun X => kept_alloc b1 X (by simp)
  have bz : w.heap.size ≤ w1.heap.size := by have := b1.size; simp at this; omega
  by_cases he : me = 0
  · go_wp2
    all_goals go_ret
    all_goals exact ⟨by first | simp_all [Ad.same] | simp [Ad.same, *], (((Below.refl _ _).alloc (Nat.le_refl _) _).trans (b1.mono (by simp))).alloc bz _⟩
  · go_wp2
    go_ret
    exact ⟨by simp [he], (((Below.refl _ _).alloc (Nat.le_refl _) _).trans (b1.mono (by simp))).alloc bz _⟩
end Go.Proofs.YtcoldgpnkdallaaDoor
namespace Go.Proofs.YtcoldgpnkdallaaDoor
set_option linter.unusedVariables false
theorem pow_pos' (k : Nat) : (0 : Int) < 2 ^ k := Int.pow_pos (by decide)
theorem cutLow_idem (x : Int) (k : Nat) : cutLow (cutLow x k) k = cutLow x k := by
  unfold cutLow
  rw [Int.mul_ediv_cancel _ (by have := pow_pos' k; omega)]
theorem cutLow_le (x : Int) (k : Nat) (h : 0 ≤ x) : 0 ≤ cutLow x k ∧ cutLow x k ≤ x := by
  unfold cutLow
  have hp := pow_pos' k
  exact ⟨Int.mul_nonneg (Int.ediv_nonneg h (by omega)) (by omega), Int.ediv_mul_le _ (by omega)⟩
theorem masked_width (a : Ad) (b : Int) : (a.masked b).width = a.width := rfl
theorem masked_ok {a : Ad} {b : Int} (h : a.ok) : (a.masked b).ok := by
  obtain ⟨h1, h2, h3⟩ := h
  have e1 := cutLow_le a.hi (64 - min (b + 128 - a.width) 64).toNat h2.1
  have e2 := cutLow_le a.lo (64 - max (b + 128 - a.width - 64) 0).toNat h3.1
  exact ⟨h1, ⟨e1.1, Int.le_trans e1.2 h2.2⟩, ⟨e2.1, Int.le_trans e2.2 h3.2⟩⟩
theorem masked_right {a : Ad} {b : Int} (h : a.ok) (hr : a.right = true) : (a.masked b).right = true := by
  obtain ⟨h1, h2, h3⟩ := h
  unfold Ad.right at hr ⊢
  show (if a.fam = 4 then _ else _) = true
  by_cases hf : a.fam = 4
  · rw [if_pos hf] at hr ⊢
    simp only [Bool.and_eq_true, beq_iff_eq] at hr ⊢
    have e1 := cutLow_le a.hi (64 - min (b + 128 - a.width) 64).toNat h2.1
    have e2 := cutLow_le a.lo (64 - max (b + 128 - a.width - 64) 0).toNat h3.1
    refine ⟨?_, ?_⟩
    · show cutLow _ _ = 0
      omega
    · show cutLow _ _ / 4294967296 = 0
      omega
  · rw [if_neg hf] at hr ⊢
    exact hr
theorem masked_fits {a : Ad} {b : Int} (h : a.ok) (hf : a.fits b = true) : (a.masked b).fits b = true := by
  unfold Ad.fits at hf ⊢
  rw [masked_width]
  simp only [Bool.and_eq_true] at hf ⊢
  exact ⟨masked_right h hf.1, hf.2⟩
theorem masked_idem (a : Ad) (b : Int) : (a.masked b).masked b = a.masked b := by
  show (⟨_, _, _⟩ : Ad) = ⟨_, _, _⟩
  simp only [masked_width]
  show (⟨a.fam, cutLow (cutLow _ _) _, cutLow (cutLow _ _) _⟩ : Ad) = ⟨a.fam, cutLow _ _, cutLow _ _⟩
  rw [cutLow_idem, cutLow_idem]
theorem has_iff {p a : Ad} {n : Int} : Ad.has p n a = true ↔ a.fits n = true ∧ a.masked n = p := by
  unfold Ad.has
  by_cases hf : a.fits n = true
  · rw [mask_good hf]
    simp only [Bool.and_eq_true, beq_self_eq_true, true_and, Ad.same_iff, hf]
  · have hf' : a.fits n = false := by simpa using hf
    rw [mask_bad hf']
    simp [hf']
/-- What a prefix has is of its family, may be, and the prefix may be. -/
theorem has_all {p a : Ad} {n : Int} (ha : a.ok) (h : Ad.has p n a = true) : Ad.rightPrefix p n = true ∧ a.right = true ∧ a.fam = p.fam := by
  obtain ⟨hf, rfl⟩ := has_iff.1 h
  refine ⟨?_, ?_, rfl⟩
  · unfold Ad.rightPrefix
    exact has_iff.2 ⟨masked_fits ha hf, masked_idem a n⟩
  · unfold Ad.fits at hf
    simp only [Bool.and_eq_true] at hf
    exact hf.1
theorem fits_of {p a : Ad} {n : Int} (hp : Ad.rightPrefix p n = true) (hr : a.right = true) (hf : a.fam = p.fam) : a.fits n = true := by
  obtain ⟨h1, _⟩ := has_iff.1 hp
  unfold Ad.fits at h1 ⊢
  have : a.width = p.width := by unfold Ad.width; rw [hf]
  rw [this]
  simp only [Bool.and_eq_true] at h1 ⊢
  exact ⟨hr, h1.2⟩
end Go.Proofs.YtcoldgpnkdallaaDoor
namespace Go.Proofs.YtcoldgpnkdallaaDoor
open Go.RowKit
set_option linter.unusedVariables false
set_option linter.unusedSimpArgs false
/-- Bytes taken in, the highest first. -/
def fromGo : List Int → Int → Int → Int × Int
  | [], h, l => (h, l)
  | x :: xs, h, l => fromGo xs (h * 256 % 18446744073709551616 + l / 72057594037927936) (l * 256 % 18446744073709551616 + x)
def fromB (b : List Int) : Ad × Int :=
  if b.length = 4 then (⟨4, (fromGo b 0 0).1, (fromGo b 0 0).2⟩, 0) else if b.length = 16 then (⟨6, (fromGo b 0 0).1, (fromGo b 0 0).2⟩, 0) else (⟨0, 0, 0⟩, 1)
theorem wraps_u64 (n : Int) (h₀ : 0 ≤ n) (h₁ : n < 2 ^ 64) : IntKind.u64.wrap n = n := by rw [IntKind.wrap_u64]; omega
theorem or_low (x y : Int) (hy0 : 0 ≤ y) (hy1 : y < 256) : bits .or .u64 (IntKind.u64.wrap (x * 256)) y = x * 256 % 18446744073709551616 + y := by
  rw [IntKind.wrap_u64]
  exact bits_join .u64 64 (by decide) wraps_u64 8 _ y (by omega) (by omega) (by omega) hy0 (by omega) (by omega)
def cmp3 (x y : Int) : Int := if x < y then -1 else if y < x then 1 else 0
def Ad.order (a b : Ad) : Int := if cmp3 a.fam b.fam = 0 then (if cmp3 a.hi b.hi = 0 then cmp3 a.lo b.lo else cmp3 a.hi b.hi) else cmp3 a.fam b.fam
theorem rright_any (f h l : Int) (w : World) (hl : 0 ≤ l) :
    Calls Tryd.prog 40 #[.agg #[.int .i64 f, .int .u64 h, .int .u64 l]] w fun e w' => e = .returned (.bool (Ad.right ⟨f, h, l⟩)) ∧ w' = w.alloc (.cells #[.int .i64 f, .int .u64 h, .int .u64 l] 39) := by
  go_enter Tryd.func40, Tryd.ntmps40
  by_cases h6 : f = 6
  · subst h6
    go_wp2
    go_ret
    exact ⟨by simp [Ad.right], rfl⟩
  · by_cases h4 : f = 4
    · subst h4
      by_cases hh : h = 0
      · subst hh
        go_wp2
        go_ret
        refine ⟨?_, rfl⟩
        have e : decide (l < 4294967296) = (l / 4294967296 == 0) := by
          rw [Bool.eq_iff_iff]; simp; omega
        simp [Ad.right, e]
      · go_wp2
        go_ret
        exact ⟨by simp [Ad.right, hh], rfl⟩
    · go_wp2
      go_ret
      exact ⟨by simp [Ad.right, h4, h6], rfl⟩
theorem rsize_any (f : Int) (w : World) : Calls Tryd.prog 97 #[.int .i64 f] w fun e w' => e = .returned (.int .i64 (if f = 4 then 32 else 128)) ∧ w' = w := by
  go_enter Tryd.func97, Tryd.ntmps97
  by_cases h4 : f = 4
  · subst h4
    rw [if_pos rfl]
    go_wp2
    go_ret
    exact ⟨rfl, rfl⟩
  · rw [if_neg h4]
    go_wp2
    go_ret
    exact ⟨rfl, rfl⟩
end Go.Proofs.YtcoldgpnkdallaaDoor
namespace Go.Proofs.YtcoldgpnkdallaaDoor
open Go.RowKit
set_option linter.unusedVariables false
theorem info_u8 : (Tryd.prog.info? 5).map (fun i => (i.zero, i.size, i.bytes)) = some (some (.int .u8 0), 1, 1) := by kernel_rfl
/-- The slice value v owns the bytes l, in a block of the call's own (from B on), or is nil and l empty. -/
def Owns (w : World) (B : Nat) (v : Value) (l : List Int) : Prop := w.ownsRow B 5 1 v l.length (l.map (Value.int .u8))
theorem Owns.form {w : World} {B : Nat} {v : Value} {l : List Int} (h : Owns w B v l) :
    ∃ a c, v = .slice a l.length c ∧ l.length ≤ c ∧ (a = none → c = 0) ∧ (∀ x, a = some x → B ≤ x.block ∧ x.off = 0 ∧ x.spot = none) ∧ v.ownBlock = a.map (·.block) := by
  obtain ⟨h1, h2⟩ := h
  rcases h2 with ⟨rfl, h3⟩ | ⟨g, cap, cur, rfl, h3, h4, h5, h6, h7, h8⟩
  · exact ⟨none, 0, by rw [h3], by omega, fun _ => rfl, fun _ h => (by cases h), rfl⟩
  · exact ⟨_, cap, rfl, h5, fun h => (by cases h), fun x hx => (by cases hx; exact ⟨h3, rfl, rfl⟩), rfl⟩
theorem Owns.row {w : World} {B : Nat} {a : Option Addr} {c : Nat} {l : List Int} (h : Owns w B (.slice a l.length c) l) (hs : l.length ≤ 140737488355328) (hb : M.Bytes l) : Row w a l := by
  refine ⟨hs, hb, fun hp => ?_⟩
  have h0 := h
  obtain ⟨h1, h2⟩ := h
  rcases h2 with ⟨h3, h4⟩ | ⟨g, cap, cur, h3, h4, h5, h6, h7, h8, h9⟩
  · omega
  · simp only [Value.slice.injEq] at h3
    obtain ⟨rfl, _, rfl⟩ := h3
    refine ⟨g, 0, rfl, fun i hi => ?_⟩
    have hc := World.ownsRow.cellAt (e := 5) (size := 1) h0 i (by omega)
    rw [Nat.zero_add, hc]
    simp [hi]
theorem Owns.nil (w : World) (B : Nat) : Owns w B (.slice none 0 0) [] := World.ownsRow_nil _ _ _ _
theorem Owns.alloc {w : World} {B : Nat} {v : Value} {l : List Int} (h : Owns w B v l) (o : Obj) : Owns (w.alloc o) B v l := World.ownsRow.alloc h o
theorem Owns.drewN {w : World} {B : Nat} {v : Value} {l : List Int} (h : Owns w B v l) (n : Nat) : Owns (w.drewN n) B v l := h
/-- Behind memory that only grew. -/
theorem Owns.below {w w' : World} {B : Nat} {v : Value} {l : List Int} (h : Owns w B v l) (hb : Below w.heap.size w w') : Owns w' B v l := by
  obtain ⟨h1, h2⟩ := h
  refine ⟨h1, ?_⟩
  rcases h2 with h2 | ⟨g, cap, cur, h3, h4, h5, h6⟩
  · exact .inl h2
  · refine .inr ⟨g, cap, cur, h3, h4, (hb.block g ?_).trans h5, h6⟩
    have := (Array.getElem?_eq_some_iff.1 h5).1
    exact this
theorem oneCell_u8 {l : List Int} : ∀ u ∈ l.map (Value.int .u8), u.oneCell' = true := by
  intro u hu
  obtain ⟨x, _, rfl⟩ := List.mem_map.1 hu
  rfl
/-- append(v, x...) on a slice of bytes of the call's own. -/
theorem wpList_app {ops : Array Oper} {rest : List Oper} {o : Oper} {ac : Act} {Q : Exit → Act → World → Prop} (w : World) (hgd : o.guard = none) (s x : Operand)
    (ho : o.op = .call { callee := .builtin .append, args := #[s, x], argTypes := #[141, 141] })
    (B : Nat) (v : Value) (xs : List Int) (hs : ac.eval s = v) (hown : Owns w B v xs)
    (a : Option Addr) (c : Nat) (l : List Int) (hx : ac.eval x = .slice a l.length c) (hrow : Row w a l) (hnil : a = none → c = 0)
    (hsum : xs.length + l.length ≤ 140737488355328) (hbase : B ≤ w.heap.size)
    (h : ∀ v' w', Owns w' B v' (xs ++ l) → w.grownBy w' v.ownBlock → wpList Tryd.prog ops Q rest (ac.put o.dst v') w') : wpList Tryd.prog ops Q (o :: rest) ac w := by
  obtain ⟨i0, hi, hz0, hz1, hz2⟩ := info_parts info_u8
  cases a with
  | none =>
    have hl : l = [] := by
      cases l with
      | nil => rfl
      | cons y l => obtain ⟨b, off, hh, _⟩ := hrow.cells (by simp); cases hh
    subst hl
    refine wpList_append_own_none hgd s x 141 ho B 5 i0 1 Tryd.underlying141 hi v xs.length (xs.map (Value.int .u8)) hs hown ?_ ?_
    · rw [hx, hnil rfl]; rfl
    · refine h v w (by simpa using hown) ⟨rfl, rfl, rfl, Nat.le_refl _, fun _ _ _ => rfl⟩
  | some ad =>
    refine wpList_append_own w hgd s x 141 ho B 5 i0 (.int .u8 0) 1 1 Tryd.underlying141 hi hz0 hz1 hz2 rfl (by decide) v xs.length (xs.map (Value.int .u8)) hs hown ad l.length c (l.map (Value.int .u8)) hx (by simp) ?_ oneCell_u8 (by unfold maxLen; omega) (by omega) hbase ?_
    · intro j u hj
      have hjl : j < l.length := by
        have := (List.getElem?_eq_some_iff.1 hj).1
        simpa using this
      obtain ⟨b, off, hh, hc⟩ := hrow.cells (by omega)
      cases hh
      have e1 : Addr.add ⟨b, off, none⟩ j = ⟨b, off + j, none⟩ := Go.WideShapes.add_plain ..
      rw [e1, hc j hjl]
      rw [← hj]
      simp [hjl]
    · intro v' w' h1 h2 _
      refine h v' w' ?_ h2
      show w'.ownsRow B 5 1 v' (xs ++ l).length ((xs ++ l).map (Value.int .u8))
      rw [List.length_append, List.map_append]
      exact h1
/-- The same, what is left told in one: the value's form, how it reads, and that nothing below B has turned. -/
theorem wpList_app2 {ops : Array Oper} {rest : List Oper} {o : Oper} {ac : Act} {Q : Exit → Act → World → Prop} (w : World) (hgd : o.guard = none) (s x : Operand)
    (ho : o.op = .call { callee := .builtin .append, args := #[s, x], argTypes := #[141, 141] })
    (B : Nat) (v : Value) (xs : List Int) (hs : ac.eval s = v) (hown : Owns w B v xs) (hxs : M.Bytes xs)
    (a : Option Addr) (c : Nat) (l : List Int) (hx : ac.eval x = .slice a l.length c) (hrow : Row w a l) (hnil : a = none → c = 0)
    (r : List Int) (hr : xs ++ l = r) (hsum : r.length ≤ 140737488355328) (hbase : B ≤ w.heap.size)
    (h : ∀ a' c' w', Owns w' B (.slice a' r.length c') r → r.length ≤ c' → (a' = none → c' = 0) → Row w' a' r → Below B w w' → w.grownBy w' v.ownBlock →
      wpList Tryd.prog ops Q rest (ac.put o.dst (.slice a' r.length c')) w') : wpList Tryd.prog ops Q (o :: rest) ac w := by
  subst hr
  refine wpList_app w hgd s x ho B v xs hs hown a c l hx hrow hnil (by simpa using hsum) hbase fun v' w' h1 h2 => ?_
  obtain ⟨a', c', rfl, h3, h4, h5, h6⟩ := h1.form
  refine h a' c' w' h1 h3 h4 (h1.row hsum (hxs.app hrow.bytes)) ((Below.refl _ _).grown h2 hbase fun k hk => ?_) h2
  exact (World.ownsRow.lt hown k hk).1
/-- b[k:]. -/
theorem Row.drop {w : World} {a : Option Addr} {l : List Int} (h : Row w a l) (c k : Nat) (hc : l.length ≤ c) : Row w (if c = k then a else a.map (fun x => x.add k)) (l.drop k) := by
  have hs := h.small
  refine ⟨by simp; omega, h.bytes.drop k, fun hp => ?_⟩
  have hk : k < l.length := by simp at hp; omega
  obtain ⟨b, off, rfl, hcc⟩ := h.cells (by omega)
  rw [if_neg (by omega)]
  refine ⟨b, off + k, by simp [Go.WideShapes.add_plain], fun i hi => ?_⟩
  have hi' : k + i < l.length := by simp at hi; omega
  rw [Nat.add_assoc, hcc (k + i) hi']
  simp
theorem Row.cell {w : World} {g : Nat} {l : List Int} (h : Row w (some ⟨g, 0, none⟩) l) (i : Nat) (hi : i < l.length) : w.cell? ⟨g, i, none⟩ = some (.int .u8 (l.getD i 0)) := by
  obtain ⟨b, off, hh, hcc⟩ := h.cells (by omega)
  cases hh
  have := hcc i hi
  rwa [Nat.zero_add] at this
theorem Owns.at {w : World} {B c : Nat} {a : Option Addr} {l : List Int} (h : Owns w B (.slice a l.length c) l) (hr : Row w a l) (hp : 0 < l.length) : ∃ g, a = some ⟨g, 0, none⟩ ∧ B ≤ g := by
  obtain ⟨b, off, rfl, _⟩ := hr.cells hp
  obtain ⟨a', c', h1, _, _, h3, _⟩ := h.form
  cases h1
  have := h3 _ rfl
  simp at this
  exact ⟨b, by rw [this.2], this.1⟩
/-- A byte is written over in a slice of the call's own. -/
theorem Owns.stored {w : World} {B g c : Nat} {l : List Int} (h : Owns w B (.slice (some ⟨g, 0, none⟩) l.length c) l) (i : Nat) (y : Int) :
    Owns (w.setCell ⟨g, i, none⟩ (.int .u8 y)) B (.slice (some ⟨g, 0, none⟩) l.length c) (l.set i y) := by
  have := World.ownsRow.stored (e := 5) (size := 1) h i (.int .u8 y)
  replace this := this.1
  show World.ownsRow _ B 5 1 _ (l.set i y).length ((l.set i y).map (Value.int .u8))
  rw [List.length_set, List.map_set]
  exact this
theorem Owns.frozen {w : World} {B g c : Nat} {l : List Int} (h : Owns w B (.slice (some ⟨g, 0, none⟩) l.length c) l) (i : Nat) : w.frozen? ⟨g, i, none⟩ = false :=
  World.ownsRow.frozenAt (e := 5) (size := 1) h i
/-- A value that the call made: a slice of the bytes l in memory of its own. -/
structure Fresh (w w' : World) (a : Option Addr) (c : Nat) (l : List Int) : Prop where
  owns : Owns w' w.heap.size (.slice a l.length c) l
  room : l.length ≤ c
  nil : a = none → c = 0
  row : Row w' a l
  below : Below w.heap.size w w'
end Go.Proofs.YtcoldgpnkdallaaDoor
namespace Go.Proofs.YtcoldgpnkdallaaDoor
open Go.RowKit
set_option linter.unusedVariables false
set_option linter.unusedSimpArgs false
/-- The n lowest bytes of two words, the highest first. -/
def bytesGo : Nat → Int → Int → List Int
  | 0, _, _ => []
  | n + 1, h, l => bytesGo n (h / 256) (l / 256 + h * 72057594037927936 % 18446744073709551616) ++ [l % 256]
theorem bytesGo_length : ∀ (n : Nat) (h l : Int), (bytesGo n h l).length = n
  | 0, _, _ => rfl
  | n + 1, h, l => by simp [bytesGo, bytesGo_length n]
def Ad.bytes (a : Ad) : List Int := if a.right then bytesGo (if a.fam = 4 then 4 else 16) a.hi a.lo else []
theorem put_other {w : World} {a b : Addr} {v : Value} (h : a ≠ b) : (w.setCell a v).cell? b = w.cell? b := by
  apply World.cell?_setCell_other
  exact h
theorem put_same {w : World} {a : Addr} {v u : Value} (h : w.cell? a = some u) : (w.setCell a v).cell? a = some v := by
  apply World.cell?_setCell_same
  exact h
theorem owns_le {w : World} {B B' : Nat} {v : Value} {l : List Int} (h : B' ≤ B) (o : Owns w B v l) : Owns w B' v l := by
  obtain ⟨h1, h2⟩ := o
  refine ⟨h1, ?_⟩
  rcases h2 with h2 | ⟨g, cap, cur, h3, h4, h5⟩
  · exact .inl h2
  · exact .inr ⟨g, cap, cur, h3, Nat.le_trans h h4, h5⟩
theorem list4 {b : List Int} (h : b.length = 4) : ∃ b0 b1 b2 b3, b = [b0, b1, b2, b3] := by
  match b, h with
  | [b0, b1, b2, b3], _ => exact ⟨_, _, _, _, rfl⟩
theorem from4_hi (b : List Int) (hb : M.Bytes b) (h4 : b.length = 4) : (fromGo b 0 0).1 = 0 := by
  obtain ⟨b0, b1, b2, b3, rfl⟩ := list4 h4
  have h0 := hb b0 (by simp)
  have h1 := hb b1 (by simp)
  have h2 := hb b2 (by simp)
  simp only [fromGo]
  omega
theorem and1 (q : Nat) (h : q < 18446744073709551616) : bits .and .u64 (q : Int) 1 = ((q % 2 : Nat) : Int) := by
  have h15 : (BitVec.ofInt 64 1).toNat = 2 ^ 1 - 1 := by decide
  show IntKind.u64.wrap ((BitVec.ofInt 64 (q : Int) &&& BitVec.ofInt 64 1).toNat : Int) = _
  rw [BitVec.toNat_and, ofInt_u64 q (by omega), h15, Nat.and_two_pow_sub_one_eq_mod, IntKind.wrap_u64]
  omega
/-- The two blocks of the reference's From: what it will answer, and the address at hand. -/
structure From2 (w w' : World) (f h l : Int) : Prop where
  c0 : w'.cell? ⟨w.heap.size + 1, 0, none⟩ = some (.int .i64 f)
  c1 : w'.cell? ⟨w.heap.size + 1, 1, none⟩ = some (.int .u64 h)
  c2 : w'.cell? ⟨w.heap.size + 1, 2, none⟩ = some (.int .u64 l)
  r0 : w'.cell? ⟨w.heap.size, 0, none⟩ = some (.int .i64 0)
  r1 : w'.cell? ⟨w.heap.size, 1, none⟩ = some (.int .u64 0)
  r2 : w'.cell? ⟨w.heap.size, 2, none⟩ = some (.int .u64 0)
  fc : ∀ o, w'.frozen? ⟨w.heap.size + 1, o, none⟩ = false
  fr : ∀ o, w'.frozen? ⟨w.heap.size, o, none⟩ = false
  bel : Below w.heap.size w w'
  size : w.heap.size + 1 < w'.heap.size
theorem from2_start (w : World) (f : Int) : From2 w ((w.alloc (.cells #[.int .i64 0, .int .u64 0, .int .u64 0] 39)).alloc (.cells #[.int .i64 f, .int .u64 0, .int .u64 0] 39)) f 0 0 :=
  ⟨by simp [go_sem], by simp [go_sem], by simp [go_sem], by simp [go_sem], by simp [go_sem], by simp [go_sem], fun o => by simp [go_sem], fun o => by simp [go_sem], ((Below.refl _ _).alloc (Nat.le_refl _) _).alloc (by simp) _, by simp⟩
theorem from2_step {w wr : World} {f h l h1 l1 : Int} (x : From2 w wr f h l) : From2 w ((wr.setCell ⟨w.heap.size + 1, 1, none⟩ (.int .u64 h1)).setCell ⟨w.heap.size + 1, 2, none⟩ (.int .u64 l1)).drew f h1 l1 :=
  ⟨by show ((wr.setCell _ _).setCell _ _).cell? _ = _; rw [put_other (by simp), put_other (by simp)]; exact x.c0,
   by show ((wr.setCell _ _).setCell _ _).cell? _ = _; rw [put_other (by simp)]; exact put_same x.c1,
   by show ((wr.setCell _ _).setCell _ _).cell? _ = _; exact put_same (u := .int .u64 l) (by rw [put_other (by simp)]; exact x.c2),
   by show ((wr.setCell _ _).setCell _ _).cell? _ = _; rw [put_other (by simp), put_other (by simp)]; exact x.r0,
   by show ((wr.setCell _ _).setCell _ _).cell? _ = _; rw [put_other (by simp), put_other (by simp)]; exact x.r1,
   by show ((wr.setCell _ _).setCell _ _).cell? _ = _; rw [put_other (by simp), put_other (by simp)]; exact x.r2,
   fun o => by show ((wr.setCell _ _).setCell _ _).frozen? _ = _; simp [x.fc], fun o => by show ((wr.setCell _ _).setCell _ _).frozen? _ = _; simp [x.fr],
   ((x.bel.setCell (by simp) _).setCell (by simp) _).drew, by show _ < ((wr.setCell _ _).setCell _ _).heap.size; simp; exact x.size⟩
set_option maxRecDepth 100000 in
set_option maxHeartbeats 2000000 in
theorem rfrom4 (a : Option Addr) (c : Nat) (b : List Int) (w : World) (hb : Row w a b) (h4 : b.length = 4) :
    Calls Tryd.prog 96 #[.slice a b.length c] w fun e w' =>
      e = .returned (.tuple #[(fromB b).1.v, .int .i64 (fromB b).2]) ∧ Below w.heap.size w w' := by
  have hsm := hb.small
  have h40 := from4_hi b hb.bytes h4
  have hF : fromB b = (⟨4, 0, (fromGo b 0 0).2⟩, 0) := by rw [fromB, if_pos h4, h40]
  rw [hF]
  obtain ⟨F, T, hFT⟩ : ∃ F T, (F, T) = fromGo b 0 0 := ⟨_, _, rfl⟩
  rw [← hFT]
  have HF : Hid (fromGo b 0 0 = (F, T)) := hFT.symm
  have L4 : Hid (b.length = 4) := h4
  have h4a : ((b.length : Int) == 4) = true := by simp [L4.out]
  have h16a : ((b.length : Int) == 16) = false := by simp [L4.out]
  have n4a : ((b.length : Int) != 4) = false := by rw [bne, h4a]; rfl
  have n16a : ((b.length : Int) != 16) = true := by rw [bne, h16a]; rfl
  clear h4 hF hFT h40
  go_enter Tryd.func96, Tryd.ntmps96
  go_wp2
  go_loopw [5] (fun i w' => ∃ (k : Nat) (h l : Int), k ≤ b.length ∧ i = .int .i64 k ∧ (0 ≤ h ∧ h ≤ 18446744073709551615) ∧ (0 ≤ l ∧ l ≤ 18446744073709551615) ∧ Hid (fromGo (b.drop k) h l = (F, T)) ∧ From2 w w' 4 h l) (fun i _ => b.length - (intOf i).toNat)
  case atStart => exact ⟨0, 0, 0, Nat.zero_le _, rfl, by omega, by omega, HF, from2_start w 4⟩
  case round =>
    obtain ⟨k, h, l, hk, rfl, hh, hl, hr, x2⟩ := hrel
    have X2 : Hid (From2 w wr 4 h l) := x2
    obtain ⟨c0, c1, c2, r0, r1, r2, fc, fr, bel, hz⟩ := x2
    have hz' : w.heap.size < wr.heap.size := by omega
    by_cases hlt : k < b.length
    · obtain ⟨bk, off, rfl, hc⟩ := hb.cells (by omega)
      have eg : b.getD k 0 = b[k] := by simp [hlt]
      have hcell := hc k hlt
      have hbl : bk < w.heap.size := World.block_lt_of_cell? w _ hcell
      have hcw := (bel.cell (p := ⟨bk, off + k, none⟩) hbl).trans hcell
      have hne1 : bk ≠ w.heap.size := by omega
      have hne2 : bk ≠ w.heap.size + 1 := by omega
      have hne3 : w.heap.size + 1 ≠ bk := by omega
      have hx := hb.bytes.get k
      have hr1 := hr.out
      rw [List.drop_eq_getElem_cons hlt] at hr1
      rw [eg] at hcell hx hcw
      clear eg hc hcell
      generalize b[k] = x at hcw hx hr1
      have e1 := or_low h (l / 72057594037927936) (by omega) (by omega)
      have e2 := or_low l x (by omega) (by omega)
      have wx : IntKind.u64.wrap x = x := by rw [IntKind.wrap_u64]; omega
      have ilt : (k : Int) < (b.length : Int) := by omega
      have HQ : Hid (fromGo (b.drop (k + 1)) (h * 256 % 18446744073709551616 + l / 72057594037927936) (l * 256 % 18446744073709551616 + x) = (F, T)) := hr1
      clear hr hr1
      go_wp2
      go_region
      all_goals go_wp2
      all_goals exact ⟨⟨k + 1, _, _, by omega, int_eq (by omega), by omega, by omega, HQ, from2_step X2.out⟩, by simp [intOf]; omega⟩
    · have ilt : ¬ (k : Int) < (b.length : Int) := by omega
      have e : (h, l) = (F, T) := by
        rw [← hr.out, List.drop_eq_nil_of_le (by omega)]; rfl
      injection e with e1 e2
      subst e1
      subst e2
      go_wp2
      exact bodyPost_ret (v := .tuple #[.agg #[.int .i64 4, .int .u64 0, .int .u64 l], .int .i64 0]) (by simp [results, Tryd.results96, go_sem, r0, r1, r2, hz']) rfl
        ⟨rfl, (((bel.setCell (by simp) _).setCell (by simp) _).setCell (by simp) _).setCell (by simp) _⟩
set_option maxRecDepth 100000 in
set_option maxHeartbeats 2000000 in
theorem rfrom16 (a : Option Addr) (c : Nat) (b : List Int) (w : World) (hb : Row w a b) (h16 : b.length = 16) :
    Calls Tryd.prog 96 #[.slice a b.length c] w fun e w' =>
      e = .returned (.tuple #[(fromB b).1.v, .int .i64 (fromB b).2]) ∧ Below w.heap.size w w' := by
  have hsm := hb.small
  have hF : fromB b = (⟨6, (fromGo b 0 0).1, (fromGo b 0 0).2⟩, 0) := by rw [fromB, if_neg (by omega), if_pos h16]
  rw [hF]
  obtain ⟨F, T, hFT⟩ : ∃ F T, (F, T) = fromGo b 0 0 := ⟨_, _, rfl⟩
  rw [← hFT]
  have HF : Hid (fromGo b 0 0 = (F, T)) := hFT.symm
  have L4 : Hid (b.length = 16) := h16
  have h4a : ((b.length : Int) == 4) = false := by simp [L4.out]
  have h16a : ((b.length : Int) == 16) = true := by simp [L4.out]
  have n4a : ((b.length : Int) != 4) = true := by rw [bne, h4a]; rfl
  have n16a : ((b.length : Int) != 16) = false := by rw [bne, h16a]; rfl
  clear h16 hF hFT
  go_enter Tryd.func96, Tryd.ntmps96
  go_wp2
  go_loopw [5] (fun i w' => ∃ (k : Nat) (h l : Int), k ≤ b.length ∧ i = .int .i64 k ∧ (0 ≤ h ∧ h ≤ 18446744073709551615) ∧ (0 ≤ l ∧ l ≤ 18446744073709551615) ∧ Hid (fromGo (b.drop k) h l = (F, T)) ∧ From2 w w' 6 h l) (fun i _ => b.length - (intOf i).toNat)
  case atStart => exact ⟨0, 0, 0, Nat.zero_le _, rfl, by omega, by omega, HF, from2_start w 6⟩
  case round =>
    obtain ⟨k, h, l, hk, rfl, hh, hl, hr, x2⟩ := hrel
    have X2 : Hid (From2 w wr 6 h l) := x2
    obtain ⟨c0, c1, c2, r0, r1, r2, fc, fr, bel, hz⟩ := x2
    have hz' : w.heap.size < wr.heap.size := by omega
    by_cases hlt : k < b.length
    · obtain ⟨bk, off, rfl, hc⟩ := hb.cells (by omega)
      have eg : b.getD k 0 = b[k] := by simp [hlt]
      have hcell := hc k hlt
      have hbl : bk < w.heap.size := World.block_lt_of_cell? w _ hcell
      have hcw := (bel.cell (p := ⟨bk, off + k, none⟩) hbl).trans hcell
      have hne1 : bk ≠ w.heap.size := by omega
      have hne2 : bk ≠ w.heap.size + 1 := by omega
      have hne3 : w.heap.size + 1 ≠ bk := by omega
      have hx := hb.bytes.get k
      have hr1 := hr.out
      rw [List.drop_eq_getElem_cons hlt] at hr1
      rw [eg] at hcell hx hcw
      clear eg hc hcell
      generalize b[k] = x at hcw hx hr1
      have e1 := or_low h (l / 72057594037927936) (by omega) (by omega)
      have e2 := or_low l x (by omega) (by omega)
      have wx : IntKind.u64.wrap x = x := by rw [IntKind.wrap_u64]; omega
      have ilt : (k : Int) < (b.length : Int) := by omega
      have HQ : Hid (fromGo (b.drop (k + 1)) (h * 256 % 18446744073709551616 + l / 72057594037927936) (l * 256 % 18446744073709551616 + x) = (F, T)) := hr1
      clear hr hr1
      go_wp2
      go_region
      all_goals go_wp2
      all_goals exact ⟨⟨k + 1, _, _, by omega, int_eq (by omega), by omega, by omega, HQ, from2_step X2.out⟩, by simp [intOf]; omega⟩
    · have ilt : ¬ (k : Int) < (b.length : Int) := by omega
      have e : (h, l) = (F, T) := by
        rw [← hr.out, List.drop_eq_nil_of_le (by omega)]; rfl
      injection e with e1 e2
      subst e1
      subst e2
      go_wp2
      exact bodyPost_ret (v := .tuple #[.agg #[.int .i64 6, .int .u64 h, .int .u64 l], .int .i64 0]) (by simp [results, Tryd.results96, go_sem, r0, r1, r2, hz']) rfl
        ⟨rfl, ((bel.setCell (by simp) _).setCell (by simp) _).setCell (by simp) _⟩
set_option maxHeartbeats 1000000 in
theorem rfrom_any (a : Option Addr) (c : Nat) (b : List Int) (w : World) (hb : Row w a b) :
    Calls Tryd.prog 96 #[.slice a b.length c] w fun e w' =>
      e = .returned (.tuple #[(fromB b).1.v, .int .i64 (fromB b).2]) ∧ Below w.heap.size w w' := by
  by_cases h4 : b.length = 4
  · exact rfrom4 a c b w hb h4
  · by_cases h16 : b.length = 16
    · exact rfrom16 a c b w hb h16
    · have e : fromB b = (⟨0, 0, 0⟩, 1) := by rw [fromB, if_neg h4, if_neg h16]
      rw [e]
      have h4a : ((b.length : Int) == 4) = false := by simp; omega
      have h16a : ((b.length : Int) == 16) = false := by simp; omega
      have n4a : ((b.length : Int) != 4) = true := by rw [bne, h4a]; rfl
      have n16a : ((b.length : Int) != 16) = true := by rw [bne, h16a]; rfl
      clear e h4 h16
      go_enter Tryd.func96, Tryd.ntmps96
      go_wp2
      exact bodyPost_ret (v := .tuple #[.agg #[.int .i64 0, .int .u64 0, .int .u64 0], .int .i64 1]) (by simp [results, Tryd.results96, go_sem]) rfl ⟨rfl, (Below.refl _ _).alloc (Nat.le_refl _) _⟩
end Go.Proofs.YtcoldgpnkdallaaDoor
