/- Texts joined: TcQ -/
import Derived.Test.YtmmnjjcopdabcaaTcx9
namespace Go.Proofs.Ytmmnjjcopdabcaa
open Go.RowKit
set_option linter.unusedVariables false
set_option linter.unusedSimpArgs false
theorem stOf_cases (a b : Bool) : stOf a b = 3 ∨ stOf a b = 4 ∨ stOf a b = 5 := by cases a <;> cases b <;> simp [stOf]
theorem right_known {c : Cn} (h : c.right = true) : c.k0 = true := by
 unfold Cn.right at h
 repeat' split at h
 all_goals simp_all
theorem right_open {c : Cn} (h : c.right = true) (h1 : (c.st == 1) = false) (h6 : (c.st == 6) = false) : c.k0 = true ∧ c.k1 = true := by
 unfold Cn.right at h
 repeat' split at h
 all_goals simp_all
theorem right_syn {c : Cn} (h : c.right = true) (h1 : (c.st == 1) = true) : c.k0 = true ∧ c.k1 = false ∧ c.d0 = false ∧ c.d1 = false := by
 unfold Cn.right at h
 rw [h1] at h
 simpa using h
theorem take_right {c d : Cn} {s : Bool} {g : Gt} (h : c.right = true) (ht : c.take s g = some d) : d.right = true ∧ ((c.st == 6) = true → flB g.fl 4 = true ∧ d.st = 6) := by
 unfold Cn.take at ht
 cases h4 : flB g.fl 4 with
 | true =>
  rw [h4] at ht
  simp only [if_true] at ht
  unfold Cn.rst at ht
  split at ht
  ·simp only [Option.some.injEq] at ht
   subst ht
   exact ⟨by simp [Cn.right, right_known h], fun _ => ⟨rfl, rfl⟩⟩
  ·cases ht
 | false =>
  rw [h4] at ht
  cases h6 : (c.st == 6) with
  | true => simp [h6] at ht
  | false =>
   refine ⟨?_, fun e => by cases e⟩
   simp only [h6, Bool.false_eq_true, if_false] at ht
   cases h2 : flB g.fl 2 with
   | true =>
    simp only [h2, if_true] at ht
    unfold Cn.syn at ht
    split at ht
    ·cases ht
    ·split at ht
     ·split at ht
      ·simp only [Option.some.injEq] at ht; subst ht; exact h
      ·cases ht
     ·split at ht
      ·cases ht
      ·split at ht
       ·rename_i h1
        simp only [Option.some.injEq] at ht
        subst ht
        obtain ⟨q0, q1, q2, q3⟩ := right_syn h h1
        simp [Cn.right, Cn.ans, q0, q2, q3]
       ·split at ht
        ·simp only [Option.some.injEq] at ht; subst ht; exact h
        ·cases ht
   | false =>
    simp only [h2, Bool.false_eq_true, if_false] at ht
    split at ht
    ·cases ht
    ·rename_i hn
     have h1 : (c.st == 1) = false := by
      cases q : (c.st == 1) with
      | false => rfl
      | true => simp [q] at hn
     unfold Cn.byt at ht
     split at ht
     ·simp only [Option.some.injEq] at ht
      subst ht
      obtain ⟨q0, q1⟩ := right_open h h1 h6
      unfold Cn.right Cn.byR
      simp only [q0, q1, Bool.true_and, beq_self_eq_true]
      rcases stOf_cases (if (!s && flB g.fl 1) = true then true else c.d0) (if (s && flB g.fl 1) = true then true else c.d1) with e | e | e <;> rw [e] <;> simp
     ·cases ht
theorem stp_ok {c d : Cn} {s : Bool} {g : Gt} (h : c.stp s g = (d, 0)) : c.take s g = some d := by
 unfold Cn.stp at h
 split at h
 ·cases ht : c.take s g with
  | none => rw [ht] at h; simp at h
  | some x => rw [ht] at h; simp at h; rw [h]
 ·simp at h
theorem step_right {c d : Cn} {i : Int} {g : Gt} (h : c.right = true) (hs : c.step i g = (d, 0)) : d.right = true ∧ ((c.st == 6) = true → flB g.fl 4 = true ∧ d.st = 6) := by
 unfold Cn.step at hs
 split at hs
 ·exact take_right h (stp_ok hs)
 ·split at hs
  ·exact take_right h (stp_ok hs)
  ·simp at hs
/-- Where a stream may be, a segment is ErrArg just by its own numbers. -/
theorem step_arg {c : Cn} {i : Int} {g : Gt} (h : c.right = true) (h0 : (c.step i g).2 ≠ 0) (h23 : (c.step i g).2 ≠ 23) : ¬ ((i = 0 ∨ i = 1) ∧ inB15 g.win = true ∧ inB15 g.sz = true) := by
 rintro ⟨hi, hw, hz⟩
 have key : ∀ s, (c.stp s g).2 = 0 ∨ (c.stp s g).2 = 23 := by
  intro s
  unfold Cn.stp
  rw [h, hw, hz]
  cases c.take s g <;> simp
 rcases hi with rfl | rfl
 ·rcases key false with e | e
  ·exact h0 e
  ·exact h23 e
 ·rcases key true with e | e
  ·exact h0 e
  ·exact h23 e
/-- Numbers within 32 bits. -/
structure Cn.in32 (c : Cn) : Prop where
 n0 : 0 ≤ c.n0 ∧ c.n0 < 4294967296
 n1 : 0 ≤ c.n1 ∧ c.n1 < 4294967296
 e0 : 0 ≤ c.e0 ∧ c.e0 < 4294967296
 e1 : 0 ≤ c.e1 ∧ c.e1 < 4294967296
structure Gt.in32 (g : Gt) : Prop where
 sq : 0 ≤ g.sq ∧ g.sq < 4294967296
 ak : 0 ≤ g.ak ∧ g.ak < 4294967296
theorem md32 (x : Int) : 0 ≤ x % 4294967296 ∧ x % 4294967296 < 4294967296 := by omega
theorem Gt.e_in (g : Gt) : 0 ≤ g.e ∧ g.e < 4294967296 := by unfold Gt.e; omega
theorem Gt.lim_in (g : Gt) : 0 ≤ g.lim ∧ g.lim < 4294967296 := by unfold Gt.lim; omega
theorem byR_in {c : Cn} (h : c.in32) (s : Bool) (g : Gt) (P O F : Bool) : (c.byR s g.e g.lim P O F).in32 := by
 unfold Cn.byR
 refine ⟨?_, ?_, ?_, ?_⟩ <;> dsimp only <;> split <;> first | exact g.e_in | exact g.lim_in | exact h.n0 | exact h.n1 | exact h.e0 | exact h.e1
theorem take_in {c d : Cn} {s : Bool} {g : Gt} (h : c.in32) (ht : c.take s g = some d) : d.in32 := by
 unfold Cn.take at ht
 split at ht
 ·unfold Cn.rst at ht
  split at ht
  ·simp only [Option.some.injEq] at ht; subst ht; exact ⟨h.n0, h.n1, h.e0, h.e1⟩
  ·cases ht
 ·split at ht
  ·cases ht
  ·split at ht
   ·unfold Cn.syn at ht
    repeat' split at ht
    all_goals first
     | cases ht; done
     | (simp only [Option.some.injEq] at ht; subst ht; first | exact h | exact ⟨h.n0, g.e_in, g.lim_in, md32 _⟩)
   ·split at ht
    ·cases ht
    ·unfold Cn.byt at ht
     split at ht
     ·simp only [Option.some.injEq] at ht; subst ht; exact byR_in h s g _ _ _
     ·cases ht
theorem step_in {c d : Cn} {i : Int} {g : Gt} (h : c.in32) (hs : c.step i g = (d, 0)) : d.in32 := by
 unfold Cn.step at hs
 split at hs
 ·exact take_in h (stp_ok hs)
 ·split at hs
  ·exact take_in h (stp_ok hs)
  ·simp at hs
/-- Side 0's numbers moved. -/
def Cn.mv (c : Cn) (t : Int) : Cn := { c with n0 := (c.n0 + t) % 4294967296, e0 := (c.e0 + t) % 4294967296 }
def Gt.mv (g : Gt) (s : Bool) (t : Int) : Gt := if s then { g with ak := (g.ak + t) % 4294967296 } else { g with sq := (g.sq + t) % 4294967296 }
theorem frB_mv (a b t : Int) : frB ((a + t) % 4294967296) ((b + t) % 4294967296) = frB a b := by
 have : ((a + t) % 4294967296 - (b + t) % 4294967296) % 4294967296 = (a - b) % 4294967296 := by omega
 unfold frB; rw [this]
theorem frB_mvs (a b t : Int) : frB ((a + t) % 4294967296) (((b + t) % 4294967296 - 65535) % 4294967296) = frB a ((b - 65535) % 4294967296) := by
 have : ((a + t) % 4294967296 - ((b + t) % 4294967296 - 65535) % 4294967296) % 4294967296 = (a - (b - 65535) % 4294967296) % 4294967296 := by omega
 unfold frB; rw [this]
theorem wiB_mv (n x l t : Int) : wiB ((n + t) % 4294967296) ((x + t) % 4294967296) ((l + t) % 4294967296) = wiB n x l := by
 unfold wiB; rw [frB_mvs, frB_mv]
theorem beq_mv {a b t : Int} (ha : 0 ≤ a ∧ a < 4294967296) (hb : 0 ≤ b ∧ b < 4294967296) : ((a + t) % 4294967296 == (b + t) % 4294967296) = (a == b) := by
 rw [Bool.eq_iff_iff, beq_iff_eq, beq_iff_eq]
 omega
theorem e_mv0 (g : Gt) (t : Int) : (g.mv false t).e = (g.e + t) % 4294967296 := by
 show ((g.sq + t) % 4294967296 + g.sz + bN (flB g.fl 2) + bN (flB g.fl 1)) % 4294967296 = _
 unfold Gt.e; omega
theorem e_mv1 (g : Gt) (t : Int) : (g.mv true t).e = g.e := rfl
theorem lim_mv0 (g : Gt) (t : Int) : (g.mv false t).lim = g.lim := rfl
theorem lim_mv1 (g : Gt) (t : Int) : (g.mv true t).lim = (g.lim + t) % 4294967296 := by
 show ((g.ak + t) % 4294967296 + g.win) % 4294967296 = _
 unfold Gt.lim; omega
theorem right_mv (c : Cn) (t : Int) : (c.mv t).right = c.right := rfl
theorem win_mv (c : Cn) (s : Bool) (g : Gt) (t : Int) : (c.mv t).win s (g.mv s t) = c.win s g := by
 cases s with
 | false =>
  show (c.k0 && wiB (g.mv false t).e ((c.n0 + t) % 4294967296) ((c.e0 + t) % 4294967296)) = (c.k0 && wiB g.e c.n0 c.e0)
  rw [e_mv0, wiB_mv]
 | true => rfl
theorem fl_mv (g : Gt) (s : Bool) (t : Int) : (g.mv s t).fl = g.fl := by cases s <;> rfl
theorem sz_mv (g : Gt) (s : Bool) (t : Int) : (g.mv s t).sz = g.sz := by cases s <;> rfl
theorem wn_mv (g : Gt) (s : Bool) (t : Int) : (g.mv s t).win = g.win := by cases s <;> rfl
theorem ak_mv0 (g : Gt) (t : Int) : (g.mv false t).ak = g.ak := rfl
theorem ak_mv1 (g : Gt) (t : Int) : (g.mv true t).ak = (g.ak + t) % 4294967296 := rfl
theorem rst_mv {c : Cn} {g : Gt} (hc : c.in32) (hg : g.in32) (s : Bool) (t : Int) : (c.mv t).rst s (g.mv s t) = (c.rst s g).map (·.mv t) := by
 unfold Cn.rst
 rw [win_mv, fl_mv]
 have e : (s && ((c.mv t).st == 1 && (flB g.fl 16 && (g.mv s t).ak == (c.mv t).n0))) = (s && (c.st == 1 && (flB g.fl 16 && g.ak == c.n0))) := by
  cases s with
  | false => rfl
  | true =>
   rw [ak_mv1]
   show (true && (c.st == 1 && (flB g.fl 16 && (g.ak + t) % 4294967296 == (c.n0 + t) % 4294967296))) = _
   rw [beq_mv hg.ak hc.n0]
 rw [e]
 split <;> rfl
theorem syn_mv {c : Cn} {g : Gt} (hc : c.in32) (hg : g.in32) (s : Bool) (t : Int) : (c.mv t).syn s (g.mv s t) = (c.syn s g).map (·.mv t) := by
 unfold Cn.syn
 rw [fl_mv, sz_mv]
 split
 ·rfl
 ·cases s with
  | false =>
   rw [e_mv0]
   show (if (c.st == 1 && (!flB g.fl 16 && (g.e + t) % 4294967296 == (c.n0 + t) % 4294967296)) = true then some (c.mv t) else none) = Option.map _ (if (c.st == 1 && (!flB g.fl 16 && g.e == c.n0)) = true then some c else none)
   rw [beq_mv g.e_in hc.n0]
   split <;> rfl
  | true =>
   rw [e_mv1, ak_mv1]
   have e : ((g.ak + t) % 4294967296 != (c.mv t).n0) = (g.ak != c.n0) := by
    show (!((g.ak + t) % 4294967296 == (c.n0 + t) % 4294967296)) = _
    rw [beq_mv hg.ak hc.n0]; rfl
   rw [e]
   show (if (!flB g.fl 16 || g.ak != c.n0) = true then none else if (c.st == 1) = true then some ((c.mv t).ans (g.mv true t)) else if (c.st == 2 && g.e == c.n1) = true then some (c.mv t) else none) = Option.map _ (if (!flB g.fl 16 || g.ak != c.n0) = true then none else if (c.st == 1) = true then some (c.ans g) else if (c.st == 2 && g.e == c.n1) = true then some c else none)
   split
   ·rfl
   ·split
    ·show some ((c.mv t).ans (g.mv true t)) = some ((c.ans g).mv t)
     unfold Cn.ans
     rw [lim_mv1, e_mv1]
     rfl
    ·split <;> rfl
theorem byt_mv {c : Cn} {g : Gt} (s : Bool) (t : Int) : (c.mv t).byt s (g.mv s t) = (c.byt s g).map (·.mv t) := by
 unfold Cn.byt
 rw [win_mv, fl_mv]
 cases s with
 | false =>
  rw [e_mv0, lim_mv0, ak_mv0]
  show (if (c.win false g && wiB g.ak c.n1 c.n1) = true then some ((c.mv t).byR false ((g.e + t) % 4294967296) g.lim (frB ((g.e + t) % 4294967296) ((c.n0 + t) % 4294967296)) (frB g.lim c.e1) (flB g.fl 1)) else none) = Option.map _ (if (c.win false g && wiB g.ak c.n1 c.n1) = true then some (c.byR false g.e g.lim (frB g.e c.n0) (frB g.lim c.e1) (flB g.fl 1)) else none)
  rw [frB_mv]
  split
  ·cases frB g.e c.n0 <;> cases frB g.lim c.e1 <;> cases flB g.fl 1 <;> rfl
  ·rfl
 | true =>
  rw [e_mv1, lim_mv1, ak_mv1]
  show (if (c.win true g && wiB ((g.ak + t) % 4294967296) ((c.n0 + t) % 4294967296) ((c.n0 + t) % 4294967296)) = true then some ((c.mv t).byR true g.e ((g.lim + t) % 4294967296) (frB g.e c.n1) (frB ((g.lim + t) % 4294967296) ((c.e0 + t) % 4294967296)) (flB g.fl 1)) else none) = Option.map _ (if (c.win true g && wiB g.ak c.n0 c.n0) = true then some (c.byR true g.e g.lim (frB g.e c.n1) (frB g.lim c.e0) (flB g.fl 1)) else none)
  rw [wiB_mv, frB_mv]
  split
  ·cases frB g.e c.n1 <;> cases frB g.lim c.e0 <;> cases flB g.fl 1 <;> rfl
  ·rfl
theorem take_mv {c : Cn} {g : Gt} (hc : c.in32) (hg : g.in32) (s : Bool) (t : Int) : (c.mv t).take s (g.mv s t) = (c.take s g).map (·.mv t) := by
 unfold Cn.take
 rw [rst_mv hc hg, syn_mv hc hg, byt_mv, fl_mv]
 show (if flB g.fl 4 = true then _ else if (c.st == 6) = true then none else if flB g.fl 2 = true then _ else if (!flB g.fl 16 || (c.st == 1 || (s && c.st == 2))) = true then none else _) = _
 split
 ·rfl
 ·split
  ·rfl
  ·split
   ·rfl
   ·split <;> rfl
/-- A step of moved numbers is the step, moved. -/
theorem step_mv {c : Cn} {g : Gt} (hc : c.in32) (hg : g.in32) (i t : Int) : (c.mv t).step i (g.mv (!(i == 0)) t) = (if (c.step i g).2 = 0 then ((c.step i g).1.mv t, 0) else (cn0, (c.step i g).2)) := by
 have key : ∀ s, (c.mv t).stp s (g.mv s t) = (if (c.stp s g).2 = 0 then ((c.stp s g).1.mv t, 0) else (cn0, (c.stp s g).2)) := by
  intro s
  unfold Cn.stp
  rw [right_mv, wn_mv, sz_mv, take_mv hc hg]
  split
  ·cases c.take s g <;> simp
  ·simp
 unfold Cn.step
 cases h0 : (i == 0) with
 | true => simpa using key false
 | false =>
  cases h1 : (i == 1) with
  | true => simpa using key true
  | false => simp
end Go.Proofs.Ytmmnjjcopdabcaa
