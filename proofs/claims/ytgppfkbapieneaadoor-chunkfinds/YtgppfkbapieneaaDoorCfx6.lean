/- Texts joined: ChQ -/
import Derived.Test.YtgppfkbapieneaaDoorCfx0
import Derived.Test.YtgppfkbapieneaaDoorCfx5
namespace Go.Proofs.YtgppfkbapieneaaDoor
set_option linter.unusedVariables false
set_option linter.unusedSimpArgs false
/-- A point. -/
structure Pt where
  a : Int
  b : Int
  c : Int
def Pt.ok (p : Pt) : Prop := (0 ≤ p.a ∧ p.a ≤ 18446744073709551615) ∧ (0 ≤ p.b ∧ p.b ≤ 18446744073709551615) ∧ (0 ≤ p.c ∧ p.c ≤ 18446744073709551615)
abbrev Pt.v (p : Pt) : Array Value := #[.int .u64 p.a, .int .u64 p.b, .int .u64 p.c]
/-- A point as one number. -/
def Pt.n (p : Pt) : Int := (p.a * 18446744073709551616 + p.b) * 18446744073709551616 + p.c
def Pt.less (p q : Pt) : Bool := decide (p.a < q.a) || (p.a == q.a && (decide (p.b < q.b) || (p.b == q.b && decide (p.c < q.c))))
def Pt.same (p q : Pt) : Bool := p.a == q.a && (p.b == q.b && p.c == q.c)
theorem Pt.same_iff {p q : Pt} : p.same q = true ↔ p = q := by
  cases p; cases q; simp [Pt.same]
theorem Pt.less_iff {p q : Pt} (hp : p.ok) (hq : q.ok) : p.less q = true ↔ p.n < q.n := by
  obtain ⟨a1, b1, c1⟩ := hp
  obtain ⟨a2, b2, c2⟩ := hq
  simp only [Pt.less, Pt.n, Bool.or_eq_true, Bool.and_eq_true, decide_eq_true_eq, beq_iff_eq]
  omega
theorem Pt.n_inj {p q : Pt} (hp : p.ok) (hq : q.ok) (h : p.n = q.n) : p = q := by
  obtain ⟨a1, b1, c1⟩ := hp
  obtain ⟨a2, b2, c2⟩ := hq
  cases p
  cases q
  simp only [Pt.n] at *
  simp only [Pt.mk.injEq]
  omega
theorem Pt.n_low {p : Pt} (hp : p.ok) : 0 ≤ p.n := by
  obtain ⟨a1, b1, c1⟩ := hp
  unfold Pt.n
  omega
/-- The one behind a point. -/
def Pt.next (p : Pt) : Pt := if p.c < 18446744073709551615 then ⟨p.a, p.b, p.c + 1⟩ else if p.b < 18446744073709551615 then ⟨p.a, p.b + 1, 0⟩ else ⟨p.a + 1, 0, 0⟩
theorem Pt.next_n {p : Pt} (hp : p.ok) : p.next.n = p.n + 1 := by
  obtain ⟨a1, b1, c1⟩ := hp
  unfold Pt.next
  split
  · simp only [Pt.n]; omega
  · split
    · simp only [Pt.n]; omega
    · simp only [Pt.n]; omega
theorem Pt.next_ok {p : Pt} (hp : p.ok) (ha : p.a ≤ 1000) : p.next.ok := by
  obtain ⟨a1, b1, c1⟩ := hp
  unfold Pt.next
  split
  · exact ⟨by simp only; omega, by simp only; omega, by simp only; omega⟩
  · split
    · exact ⟨by simp only; omega, by simp only; omega, by simp only; omega⟩
    · exact ⟨by simp only; omega, by simp only; omega, by simp only; omega⟩
def ptNum (n : Int) : Pt := ⟨0, 0, n⟩
def ptAd (a : Ad) : Pt := ⟨a.fam, a.hi, a.lo⟩
theorem ptNum_ok {n : Int} (h : 0 ≤ n) (h' : n ≤ 65535) : (ptNum n).ok := ⟨by simp [ptNum], by simp [ptNum], by simp only [ptNum]; omega⟩
theorem ptNum_n (n : Int) : (ptNum n).n = n := by simp [ptNum, Pt.n]
theorem right_fam {a : Ad} (hr : a.right = true) : a.fam = 4 ∨ a.fam = 6 := by
  unfold Ad.right at hr
  split at hr
  · exact .inl (by assumption)
  · exact .inr (by simpa using hr)
theorem ptAd_ok {a : Ad} (ho : a.ok) (hr : a.right = true) : (ptAd a).ok := by
  obtain ⟨h1, h2, h3⟩ := ho
  have := right_fam hr
  exact ⟨by simp only [ptAd]; omega, h2, h3⟩
theorem ptAd_n (a : Ad) : (ptAd a).n = a.fam * 340282366920938463463374607431768211456 + a.val := by
  simp only [ptAd, Pt.n, Ad.val, num2]
  omega
/-- The last address of a prefix. -/
def lastAd (a : Ad) (n : Int) : Ad := ⟨a.fam, (a.val + 2 ^ (a.width - n).toNat - 1) / 18446744073709551616, (a.val + 2 ^ (a.width - n).toNat - 1) % 18446744073709551616⟩
theorem lastAd_val (a : Ad) (n : Int) : (lastAd a n).val = a.val + 2 ^ (a.width - n).toNat - 1 := by
  simp only [lastAd, Ad.val, num2]
  omega
theorem lastAd_n (a : Ad) (n : Int) : (ptAd (lastAd a n)).n = (ptAd a).n + 2 ^ (a.width - n).toNat - 1 := by
  rw [ptAd_n, ptAd_n, lastAd_val]
  show a.fam * _ + _ = _
  omega
theorem val_low {a : Ad} (ho : a.ok) (hr : a.right = true) : 0 ≤ a.val ∧ a.val < 2 ^ a.width.toNat := by
  obtain ⟨h1, h2, h3⟩ := ho
  unfold Ad.right at hr
  unfold Ad.width
  simp only [Ad.val, num2]
  split at hr
  · rename_i hf
    rw [if_pos hf]
    simp only [Bool.and_eq_true, beq_iff_eq] at hr
    show _ ∧ _ < (2 : Int) ^ 32
    omega
  · rename_i hf
    rw [if_neg hf]
    show _ ∧ _ < (2 : Int) ^ 128
    omega
/-- A rule's piece of a dimension, as points. -/
def Rl.from_ (r : Rl) (d : Nat) : Pt := match d with
  | 0 => ptNum r.fr
  | 1 => ptNum r.tz
  | 2 => ptAd r.s
  | 3 => ptAd r.d
  | 4 => ptNum r.pr
  | 5 => ptNum r.sl
  | _ => ptNum r.dl
def Rl.upto (r : Rl) (d : Nat) : Pt := match d with
  | 0 => ptNum r.fr
  | 1 => ptNum r.tz
  | 2 => ptAd (lastAd r.s r.sn)
  | 3 => ptAd (lastAd r.d r.dn)
  | 4 => ptNum r.pr
  | 5 => ptNum r.sh
  | _ => ptNum r.dh
def Rl.any_ (r : Rl) (d : Nat) : Bool := match d with
  | 0 => r.fr == -1
  | 1 => r.tz == -1
  | 2 => zeroP r.s r.sn
  | 3 => zeroP r.d r.dn
  | 4 => r.pr == 0
  | _ => false
def Rl.piece (r : Rl) (d : Nat) : Spn := ⟨(r.from_ d).n, (r.upto d).n, r.any_ d⟩
/-- A key's point. -/
def Ky.spot (k : Ky) (d : Nat) : Pt := match d with
  | 0 => ptNum k.fr
  | 1 => ptNum k.tz
  | 2 => ptAd k.s
  | 3 => ptAd k.d
  | 4 => ptNum k.pr
  | 5 => ptNum k.sp
  | _ => ptNum k.dp
theorem net_right {a : Ad} {n : Int} (h : netB a n = true) (hz : zeroP a n = false) : a.rightPrefix n = true := by
  simpa [netB, hz] using h
theorem right_of_prefix {a : Ad} {n : Int} (h : a.rightPrefix n = true) : a.right = true ∧ 0 ≤ n ∧ n ≤ a.width := by
  have := (has_iff.1 (show a.has n a = true from h)).1
  simp only [Ad.fits, Bool.and_eq_true, decide_eq_true_eq] at this
  exact this
/-- What a rule's right says, in pieces. -/
theorem Rl.right_all {r : Rl} (h : r.right = true) : (-1 ≤ r.fr ∧ r.fr ≤ 15) ∧ (-1 ≤ r.tz ∧ r.tz ≤ 15) ∧ netB r.s r.sn = true ∧ netB r.d r.dn = true ∧ (0 ≤ r.pr ∧ r.pr ≤ 255) ∧ (0 ≤ r.sl ∧ r.sl ≤ r.sh ∧ r.sh ≤ 65535) ∧ (0 ≤ r.dl ∧ r.dl ≤ r.dh ∧ r.dh ≤ 65535) := by
  simp only [Rl.right, inB, portB, Bool.and_eq_true, decide_eq_true_eq] at h
  obtain ⟨h1, h2, h3, h4, h5, h6, h7, _⟩ := h
  exact ⟨h1, h2, h3, h4, h5, h6, h7⟩
theorem Ky.right_all {k : Ky} (h : k.right = true) : (0 ≤ k.fr ∧ k.fr ≤ 15) ∧ (0 ≤ k.tz ∧ k.tz ≤ 15) ∧ k.s.right = true ∧ k.d.right = true ∧ (0 ≤ k.pr ∧ k.pr ≤ 255) ∧ (0 ≤ k.sp ∧ k.sp ≤ 65535) ∧ (0 ≤ k.dp ∧ k.dp ≤ 65535) := by
  simp only [Ky.right, inB, Bool.and_eq_true, decide_eq_true_eq] at h
  obtain ⟨h1, h2, h3, h4, _, h5, h6, h7⟩ := h
  exact ⟨h1, h2, h3, h4, h5, h6, h7⟩
/-- Pieces of rules that may be, may be. -/
theorem pieces_ok {l : List Rl} (hl : ∀ r ∈ l, r.ok ∧ r.right = true) (d : Nat) : SpnOk (l.map (·.piece d)) := by
  intro p hp ha
  obtain ⟨r, hr, rfl⟩ := List.mem_map.1 hp
  obtain ⟨ro, hrr⟩ := hl r hr
  obtain ⟨r1, r2, r3, r4, r5, r6, r7⟩ := Rl.right_all hrr
  have hn : ∀ {a : Ad} {n : Int}, a.ok → netB a n = true → zeroP a n = false → 0 ≤ (ptAd a).n ∧ (ptAd a).n ≤ (ptAd (lastAd a n)).n := fun {a n} ho h hz => by
    have hp := net_right h hz
    have h1 := right_of_prefix hp
    refine ⟨Pt.n_low (ptAd_ok ho h1.1), ?_⟩
    rw [lastAd_n]
    have : (0 : Int) < 2 ^ (a.width - n).toNat := Int.pow_pos (by decide)
    omega
  match d with
  | 0 =>
    have ha' : (r.fr == -1) = false := ha
    simp only [beq_eq_false_iff_ne, ne_eq] at ha'
    simp only [Rl.piece, Rl.from_, Rl.upto, ptNum_n]
    omega
  | 1 =>
    have ha' : (r.tz == -1) = false := ha
    simp only [beq_eq_false_iff_ne, ne_eq] at ha'
    simp only [Rl.piece, Rl.from_, Rl.upto, ptNum_n]
    omega
  | 2 => exact hn ro.s r3 ha
  | 3 => exact hn ro.d r4 ha
  | 4 =>
    simp only [Rl.piece, Rl.from_, Rl.upto, ptNum_n]
    omega
  | 5 =>
    simp only [Rl.piece, Rl.from_, Rl.upto, ptNum_n]
    omega
  | d + 6 =>
    simp only [Rl.piece, Rl.from_, Rl.upto, ptNum_n]
    omega
end Go.Proofs.YtgppfkbapieneaaDoor
