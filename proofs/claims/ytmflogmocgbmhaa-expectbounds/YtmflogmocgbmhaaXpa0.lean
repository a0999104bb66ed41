/- Texts joined: Math -/
namespace Go.Proofs.Ytmflogmocgbmhaa.M
/-- What folding leaves of a number that is not below 0. -/
def nf (t : Int) : Int := if t ≤ 0 then 0 else (t - 1) % 65535 + 1
theorem nf_bd (t : Int) : 0 ≤ nf t ∧ nf t ≤ 65535 := by unfold nf; split <;> omega
def Bytes (l : List Int) : Prop := ∀ x, x ∈ l → 0 ≤ x ∧ x ≤ 255
theorem Bytes.of {l : List Int} (h : l.all (fun x => decide (0 ≤ x) && decide (x ≤ 255)) = true) : Bytes l := fun x hx => by simpa using List.all_eq_true.1 h x hx
theorem Bytes.nil : Bytes [] := by intro x h; cases h
theorem Bytes.right {a b : List Int} (h : Bytes (a ++ b)) : Bytes b := fun x hx => h x (List.mem_append_right _ hx)
theorem Bytes.take {a : List Int} (h : Bytes a) (n : Nat) : Bytes (a.take n) := fun x hx => h x (List.mem_of_mem_take hx)
theorem Bytes.drop {a : List Int} (h : Bytes a) (n : Nat) : Bytes (a.drop n) := fun x hx => h x (List.mem_of_mem_drop hx)
theorem Bytes.set {a : List Int} (h : Bytes a) (i : Nat) {z : Int} (hz : 0 ≤ z ∧ z ≤ 255) : Bytes (a.set i z) := fun x hx => by
  rcases List.mem_or_eq_of_mem_set hx with hx | rfl
  · exact h x hx
  · exact hz
/-- Which half of a word the next byte is, n bytes on. -/
def par (p : Bool) (n : Nat) : Bool := if n % 2 = 0 then p else !p
theorem par_zero (p : Bool) : par p 0 = p := rfl
theorem par_succ (p : Bool) (n : Nat) : par p (n + 1) = !(par p n) := by
  unfold par; by_cases h : n % 2 = 0
  · rw [if_neg (by omega), if_pos h]
  · rw [if_pos (by omega), if_neg h]; simp
theorem par_add (p : Bool) (a b : Nat) : par (par p a) b = par p (a + b) := by
  induction b with
  | zero => rfl
  | succ b ih => rw [par_succ, ih, ← Nat.add_assoc, par_succ]
theorem par_even (p : Bool) {n : Nat} (h : n % 2 = 0) : par p n = p := by unfold par; rw [if_pos h]
/-- The sum of all bytes, each as its half of a word, not folded. -/
def raw : Bool → List Int → Int
  | _, [] => 0
  | true, x :: l => 256 * x + raw false l
  | false, x :: l => x + raw true l
theorem raw_nil (p : Bool) : raw p [] = 0 := by cases p <;> rfl
theorem raw_cons (p : Bool) (x : Int) (l : List Int) : raw p (x :: l) = (if p then 256 * x else x) + raw (!p) l := by cases p <;> rfl
theorem raw_append (p : Bool) (a b : List Int) : raw p (a ++ b) = raw p a + raw (par p a.length) b := by
  induction a generalizing p with
  | nil => rw [raw_nil]; simp [par_zero]
  | cons x a ih =>
    rw [List.cons_append, raw_cons, raw_cons, ih, List.length_cons, Int.add_assoc]
    congr 3
    have := par_add p 1 a.length
    rw [show par p 1 = !p from by cases p <;> rfl] at this
    rw [this, Nat.add_comm]
theorem raw_one (p : Bool) (x : Int) : raw p [x] = if p then 256 * x else x := by rw [raw_cons, raw_nil]; omega
theorem raw_bd (p : Bool) (l : List Int) (h : Bytes l) : 0 ≤ raw p l ∧ raw p l ≤ 65280 * l.length := by
  induction l generalizing p with
  | nil => rw [raw_nil]; simp
  | cons x l ih =>
    have hx := h x (by simp)
    have hi := ih (!p) (fun y hy => h y (by simp [hy]))
    rw [raw_cons, List.length_cons]
    cases p <;> simp at * <;> omega
def AllBytes (ls : List (List Int)) : Prop := ∀ i, i < ls.length → Bytes (ls.getD i [])
/-- The sum of parts, one behind the other. -/
def sumOf (ls : List (List Int)) : Int := nf (raw true ls.flatten)
theorem sumOf_one (l : List Int) : sumOf [l] = nf (raw true l) := by unfold sumOf; simp
/-- Bytes of even length with their check sum behind them have the sum 65535, and are found if one byte is turned. -/
theorem checked (l : List Int) (he : l.length % 2 = 0) (hb : Bytes l) :
    raw true (l ++ [(65535 - sumOf [l]) / 256, (65535 - sumOf [l]) % 256]) % 65535 = 0 ∧ 0 < raw true (l ++ [(65535 - sumOf [l]) / 256, (65535 - sumOf [l]) % 256]) := by
  have h1 := raw_bd true l hb
  have h2 : sumOf [l] = nf (raw true l) := sumOf_one l
  rw [raw_append, par_even true he, h2]
  generalize raw true l = R at *
  have h3 := nf_bd R
  have h4 : nf R % 65535 = R % 65535 := by unfold nf; split <;> omega
  have h6 : nf R ≤ R := by have := h1.1; unfold nf; split <;> omega
  generalize nf R = F at *
  have h5 : raw true [(65535 - F) / 256, (65535 - F) % 256] = 65535 - F := by
    rw [raw_cons, raw_one]; simp; omega
  rw [h5]
  omega
end Go.Proofs.Ytmflogmocgbmhaa.M
