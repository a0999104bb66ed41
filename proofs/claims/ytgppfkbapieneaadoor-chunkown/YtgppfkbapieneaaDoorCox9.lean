/- Texts joined: ChQ CkP FrS -/
import Derived.Test.YtgppfkbapieneaaDoorCox8
namespace Go.Proofs.YtgppfkbapieneaaDoor
set_option linter.unusedVariables false
set_option linter.unusedSimpArgs false
/-- A point. -/
structure Pt where
  a : Int
  b : Int
  c : Int
def Pt.ok (p : Pt) : Prop := (0 ≤ p.a ∧ p.a ≤ 18446744073709551615) ∧ (0 ≤ p.b ∧ p.b ≤ 18446744073709551615) ∧ (0 ≤ p.c ∧ p.c ≤ 18446744073709551615)
abbrev Pt.v (p : Pt) : Array Value := #[.int .u64 p.a, .int .u64 p.b, .int .u64 p.c]
/-- A point as one number. -/
def Pt.n (p : Pt) : Int := (p.a * 18446744073709551616 + p.b) * 18446744073709551616 + p.c
def Pt.less (p q : Pt) : Bool := decide (p.a < q.a) || (p.a == q.a && (decide (p.b < q.b) || (p.b == q.b && decide (p.c < q.c))))
def Pt.same (p q : Pt) : Bool := p.a == q.a && (p.b == q.b && p.c == q.c)
theorem Pt.same_iff {p q : Pt} : p.same q = true ↔ p = q := by
  cases p; cases q; simp [Pt.same]
theorem Pt.less_iff {p q : Pt} (hp : p.ok) (hq : q.ok) : p.less q = true ↔ p.n < q.n := by
  obtain ⟨a1, b1, c1⟩ := hp
  obtain ⟨a2, b2, c2⟩ := hq
  simp only [Pt.less, Pt.n, Bool.or_eq_true, Bool.and_eq_true, decide_eq_true_eq, beq_iff_eq]
  omega
theorem Pt.n_inj {p q : Pt} (hp : p.ok) (hq : q.ok) (h : p.n = q.n) : p = q := by
  obtain ⟨a1, b1, c1⟩ := hp
  obtain ⟨a2, b2, c2⟩ := hq
  cases p
  cases q
  simp only [Pt.n] at *
  simp only [Pt.mk.injEq]
  omega
theorem Pt.same_n {p q : Pt} (hp : p.ok) (hq : q.ok) : p.same q = true ↔ p.n = q.n := by
  rw [Pt.same_iff]
  exact ⟨fun h => by rw [h], Pt.n_inj hp hq⟩
theorem Pt.n_low {p : Pt} (hp : p.ok) : 0 ≤ p.n := by
  obtain ⟨a1, b1, c1⟩ := hp
  unfold Pt.n
  omega
/-- The one behind a point. -/
def Pt.next (p : Pt) : Pt := if p.c < 18446744073709551615 then ⟨p.a, p.b, p.c + 1⟩ else if p.b < 18446744073709551615 then ⟨p.a, p.b + 1, 0⟩ else ⟨p.a + 1, 0, 0⟩
theorem Pt.next_n {p : Pt} (hp : p.ok) : p.next.n = p.n + 1 := by
  obtain ⟨a1, b1, c1⟩ := hp
  unfold Pt.next
  split
  · simp only [Pt.n]; omega
  · split
    · simp only [Pt.n]; omega
    · simp only [Pt.n]; omega
theorem Pt.next_ok {p : Pt} (hp : p.ok) (ha : p.a ≤ 1000) : p.next.ok := by
  obtain ⟨a1, b1, c1⟩ := hp
  unfold Pt.next
  split
  · exact ⟨by simp only; omega, by simp only; omega, by simp only; omega⟩
  · split
    · exact ⟨by simp only; omega, by simp only; omega, by simp only; omega⟩
    · exact ⟨by simp only; omega, by simp only; omega, by simp only; omega⟩
def ptNum (n : Int) : Pt := ⟨0, 0, n⟩
def ptAd (a : Ad) : Pt := ⟨a.fam, a.hi, a.lo⟩
theorem ptNum_ok {n : Int} (h : 0 ≤ n) (h' : n ≤ 65535) : (ptNum n).ok := ⟨by simp [ptNum], by simp [ptNum], by simp only [ptNum]; omega⟩
theorem ptNum_n (n : Int) : (ptNum n).n = n := by simp [ptNum, Pt.n]
theorem right_fam {a : Ad} (hr : a.right = true) : a.fam = 4 ∨ a.fam = 6 := by
  unfold Ad.right at hr
  split at hr
  · exact .inl (by assumption)
  · exact .inr (by simpa using hr)
theorem ptAd_ok {a : Ad} (ho : a.ok) (hr : a.right = true) : (ptAd a).ok := by
  obtain ⟨h1, h2, h3⟩ := ho
  have := right_fam hr
  exact ⟨by simp only [ptAd]; omega, h2, h3⟩
theorem ptAd_n (a : Ad) : (ptAd a).n = a.fam * 340282366920938463463374607431768211456 + a.val := by
  simp only [ptAd, Pt.n, Ad.val, num2]
  omega
/-- The last address of a prefix. -/
def lastAd (a : Ad) (n : Int) : Ad := ⟨a.fam, (a.val + 2 ^ (a.width - n).toNat - 1) / 18446744073709551616, (a.val + 2 ^ (a.width - n).toNat - 1) % 18446744073709551616⟩
theorem lastAd_val (a : Ad) (n : Int) : (lastAd a n).val = a.val + 2 ^ (a.width - n).toNat - 1 := by
  simp only [lastAd, Ad.val, num2]
  omega
theorem lastAd_n (a : Ad) (n : Int) : (ptAd (lastAd a n)).n = (ptAd a).n + 2 ^ (a.width - n).toNat - 1 := by
  rw [ptAd_n, ptAd_n, lastAd_val]
  show a.fam * _ + _ = _
  omega
theorem val_low {a : Ad} (ho : a.ok) (hr : a.right = true) : 0 ≤ a.val ∧ a.val < 2 ^ a.width.toNat := by
  obtain ⟨h1, h2, h3⟩ := ho
  unfold Ad.right at hr
  unfold Ad.width
  simp only [Ad.val, num2]
  split at hr
  · rename_i hf
    rw [if_pos hf]
    simp only [Bool.and_eq_true, beq_iff_eq] at hr
    show _ ∧ _ < (2 : Int) ^ 32
    omega
  · rename_i hf
    rw [if_neg hf]
    show _ ∧ _ < (2 : Int) ^ 128
    omega
/-- A rule's piece of a dimension, as points. -/
def Rl.from_ (r : Rl) (d : Nat) : Pt := match d with
  | 0 => ptNum r.fr
  | 1 => ptNum r.tz
  | 2 => ptAd r.s
  | 3 => ptAd r.d
  | 4 => ptNum r.pr
  | 5 => ptNum r.sl
  | _ => ptNum r.dl
def Rl.upto (r : Rl) (d : Nat) : Pt := match d with
  | 0 => ptNum r.fr
  | 1 => ptNum r.tz
  | 2 => ptAd (lastAd r.s r.sn)
  | 3 => ptAd (lastAd r.d r.dn)
  | 4 => ptNum r.pr
  | 5 => ptNum r.sh
  | _ => ptNum r.dh
def Rl.any_ (r : Rl) (d : Nat) : Bool := match d with
  | 0 => r.fr == -1
  | 1 => r.tz == -1
  | 2 => zeroP r.s r.sn
  | 3 => zeroP r.d r.dn
  | 4 => r.pr == 0
  | _ => false
def Rl.piece (r : Rl) (d : Nat) : Spn := ⟨(r.from_ d).n, (r.upto d).n, r.any_ d⟩
/-- A key's point. -/
def Ky.spot (k : Ky) (d : Nat) : Pt := match d with
  | 0 => ptNum k.fr
  | 1 => ptNum k.tz
  | 2 => ptAd k.s
  | 3 => ptAd k.d
  | 4 => ptNum k.pr
  | 5 => ptNum k.sp
  | _ => ptNum k.dp
theorem net_right {a : Ad} {n : Int} (h : netB a n = true) (hz : zeroP a n = false) : a.rightPrefix n = true := by
  simpa [netB, hz] using h
theorem right_of_prefix {a : Ad} {n : Int} (h : a.rightPrefix n = true) : a.right = true ∧ 0 ≤ n ∧ n ≤ a.width := by
  have := (has_iff.1 (show a.has n a = true from h)).1
  simp only [Ad.fits, Bool.and_eq_true, decide_eq_true_eq] at this
  exact this
/-- What a rule's right says, in pieces. -/
theorem Rl.right_all {r : Rl} (h : r.right = true) : (-1 ≤ r.fr ∧ r.fr ≤ 15) ∧ (-1 ≤ r.tz ∧ r.tz ≤ 15) ∧ netB r.s r.sn = true ∧ netB r.d r.dn = true ∧ (0 ≤ r.pr ∧ r.pr ≤ 255) ∧ (0 ≤ r.sl ∧ r.sl ≤ r.sh ∧ r.sh ≤ 65535) ∧ (0 ≤ r.dl ∧ r.dl ≤ r.dh ∧ r.dh ≤ 65535) := by
  simp only [Rl.right, inB, portB, Bool.and_eq_true, decide_eq_true_eq] at h
  obtain ⟨h1, h2, h3, h4, h5, h6, h7, _⟩ := h
  exact ⟨h1, h2, h3, h4, h5, h6, h7⟩
theorem Ky.right_all {k : Ky} (h : k.right = true) : (0 ≤ k.fr ∧ k.fr ≤ 15) ∧ (0 ≤ k.tz ∧ k.tz ≤ 15) ∧ k.s.right = true ∧ k.d.right = true ∧ (0 ≤ k.pr ∧ k.pr ≤ 255) ∧ (0 ≤ k.sp ∧ k.sp ≤ 65535) ∧ (0 ≤ k.dp ∧ k.dp ≤ 65535) := by
  simp only [Ky.right, inB, Bool.and_eq_true, decide_eq_true_eq] at h
  obtain ⟨h1, h2, h3, h4, _, h5, h6, h7⟩ := h
  exact ⟨h1, h2, h3, h4, h5, h6, h7⟩
/-- Pieces of rules that may be, may be. -/
theorem pieces_ok {l : List Rl} (hl : ∀ r ∈ l, r.ok ∧ r.right = true) (d : Nat) : SpnOk (l.map (·.piece d)) := by
  intro p hp ha
  obtain ⟨r, hr, rfl⟩ := List.mem_map.1 hp
  obtain ⟨ro, hrr⟩ := hl r hr
  obtain ⟨r1, r2, r3, r4, r5, r6, r7⟩ := Rl.right_all hrr
  have hn : ∀ {a : Ad} {n : Int}, a.ok → netB a n = true → zeroP a n = false → 0 ≤ (ptAd a).n ∧ (ptAd a).n ≤ (ptAd (lastAd a n)).n := fun {a n} ho h hz => by
    have hp := net_right h hz
    have h1 := right_of_prefix hp
    refine ⟨Pt.n_low (ptAd_ok ho h1.1), ?_⟩
    rw [lastAd_n]
    have : (0 : Int) < 2 ^ (a.width - n).toNat := Int.pow_pos (by decide)
    omega
  match d with
  | 0 =>
    have ha' : (r.fr == -1) = false := ha
    simp only [beq_eq_false_iff_ne, ne_eq] at ha'
    simp only [Rl.piece, Rl.from_, Rl.upto, ptNum_n]
    omega
  | 1 =>
    have ha' : (r.tz == -1) = false := ha
    simp only [beq_eq_false_iff_ne, ne_eq] at ha'
    simp only [Rl.piece, Rl.from_, Rl.upto, ptNum_n]
    omega
  | 2 => exact hn ro.s r3 ha
  | 3 => exact hn ro.d r4 ha
  | 4 =>
    simp only [Rl.piece, Rl.from_, Rl.upto, ptNum_n]
    omega
  | 5 =>
    simp only [Rl.piece, Rl.from_, Rl.upto, ptNum_n]
    omega
  | d + 6 =>
    simp only [Rl.piece, Rl.from_, Rl.upto, ptNum_n]
    omega
end Go.Proofs.YtgppfkbapieneaaDoor
namespace Go.Proofs.YtgppfkbapieneaaDoor
open Go.RowKit
set_option linter.unusedVariables false
set_option linter.unusedSimpArgs false
theorem insS_nodup_unique : ∀ {l m : List Int}, l.Pairwise (· < ·) → m.Pairwise (· < ·) → (∀ z, z ∈ l ↔ z ∈ m) → l = m
  | [], [], _, _, _ => rfl
  | [], y :: m, _, _, h => by have := (h y).2 (by simp); simp at this
  | x :: l, [], _, _, h => by have := (h x).1 (by simp); simp at this
  | x :: l, y :: m, hl, hm, h => by
    rw [List.pairwise_cons] at hl hm
    have hxy : x = y := by
      rcases List.mem_cons.1 ((h x).1 (by simp)) with e | e
      · exact e
      · rcases List.mem_cons.1 ((h y).2 (by simp)) with e' | e'
        · exact e'.symm
        · have h1 := hl.1 _ e'
          have h2 := hm.1 _ e
          omega
    subst hxy
    rw [insS_nodup_unique hl.2 hm.2 (fun z => ⟨fun hz => by
      rcases List.mem_cons.1 ((h z).1 (by simp [hz])) with e | e
      · have := hl.1 _ hz
        omega
      · exact e, fun hz => by
      rcases List.mem_cons.1 ((h z).2 (by simp [hz])) with e | e
      · have := hm.1 _ hz
        omega
      · exact e⟩)]
theorem foldS_iff : ∀ (P : List Spn) (s : List Int) (z : Int), z ∈ P.foldl startsF s ↔ z ∈ s ∨ ∃ p ∈ P, p.all = false ∧ (z = p.lo ∨ z = p.hi + 1)
  | [], s, z => by simp
  | p :: P, s, z => by
    rw [List.foldl_cons, foldS_iff P, startsF]
    cases hp : p.all with
    | true =>
      simp only [if_true, List.mem_cons, exists_eq_or_imp, hp]
      simp
    | false =>
      simp only [Bool.false_eq_true, if_false, insS_mem, List.mem_cons, exists_eq_or_imp, hp]
      simp only [true_and]
      constructor
      · rintro ((h | h | h) | h)
        · exact .inr (.inl (.inr h))
        · exact .inr (.inl (.inl h))
        · exact .inl h
        · exact .inr (.inr h)
      · rintro (h | (h | h) | h)
        · exact .inl (.inr (.inr h))
        · exact .inl (.inr (.inl h))
        · exact .inl (.inl h)
        · exact .inr h
theorem starts_iff (P : List Spn) (z : Int) : z ∈ startsL P ↔ z = 0 ∨ ∃ p ∈ P, p.all = false ∧ (z = p.lo ∨ z = p.hi + 1) := by
  unfold startsL
  rw [foldS_iff]
  simp

/-! ### points -/
def pt0 : Pt := ⟨0, 0, 0⟩
def ptTop : Pt := ⟨18446744073709551615, 18446744073709551615, 18446744073709551615⟩
theorem pt0_ok : pt0.ok := by unfold Pt.ok pt0; simp only; omega
theorem ptTop_ok : ptTop.ok := by unfold Pt.ok ptTop; simp only; omega
theorem Pt.low {p : Pt} (h : p.ok) : pt0.n ≤ p.n := by
  have := Pt.n_low h
  simpa [pt0, Pt.n] using this
theorem Pt.high {p : Pt} (h : p.ok) : p.n ≤ ptTop.n := by
  obtain ⟨h1, h2, h3⟩ := h
  simp only [ptTop, Pt.n]
  omega
/-- How two points stand. -/
def ordP (p q : Pt) : Int := if p.less q then -1 else if q.less p then 1 else 0
theorem ord_neg {p q : Pt} (hp : p.ok) (hq : q.ok) : ordP p q < 0 ↔ p.n < q.n := by
  unfold ordP
  have h1 := Pt.less_iff hp hq
  have h2 := Pt.less_iff hq hp
  split
  · rename_i h; simp [h1.1 h]
  · rename_i h
    split
    · rename_i h'; have := h2.1 h'; constructor <;> intro x <;> omega
    · constructor
      · intro x; omega
      · intro x; exact absurd (h1.2 x) h
theorem ord_pos {p q : Pt} (hp : p.ok) (hq : q.ok) : 0 < ordP p q ↔ q.n < p.n := by
  unfold ordP
  have h1 := Pt.less_iff hp hq
  have h2 := Pt.less_iff hq hp
  split
  · rename_i h; have := h1.1 h; constructor <;> intro x <;> omega
  · rename_i h
    split
    · rename_i h'; have := h2.1 h'; simp [this]
    · rename_i h'
      constructor
      · intro x; omega
      · intro x; exact absurd (h2.2 x) h'
theorem ord_zero {p q : Pt} (hp : p.ok) (hq : q.ok) : ordP p q = 0 ↔ p = q := by
  have h1 := ord_neg hp hq
  have h2 := ord_pos hp hq
  constructor
  · intro x
    exact Pt.n_inj hp hq (by omega)
  · rintro rfl
    omega
theorem pts_inj : ∀ {l m : List Pt}, (∀ p ∈ l, p.ok) → (∀ p ∈ m, p.ok) → l.map Pt.n = m.map Pt.n → l = m
  | [], [], _, _, _ => rfl
  | [], y :: m, _, _, h => by simp at h
  | x :: l, [], _, _, h => by simp at h
  | x :: l, y :: m, hl, hm, h => by
    simp only [List.map_cons, List.cons.injEq] at h
    rw [Pt.n_inj (hl x (by simp)) (hm y (by simp)) h.1, pts_inj (fun p hp => hl p (by simp [hp])) (fun p hp => hm p (by simp [hp])) h.2]
/-- A point put among points that rise. -/
def insP : List Pt → Pt → List Pt
  | [], p => [p]
  | q :: l, p => if q.less p then q :: insP l p else if q.same p then q :: l else p :: q :: l
/-- What a rule takes of a dimension, as the program has it: its first and its last point. -/
def Rl.fst_ (r : Rl) (d : Nat) : Pt := if r.any_ d then pt0 else r.from_ d
def Rl.lst_ (r : Rl) (d : Nat) : Pt := if r.any_ d then ptTop else r.upto d
/-- These cells lie from k on in the block b. -/
def CellsAt (W : World) (b k : Nat) (sub : Array Value) : Prop := b < W.heap.size ∧ ∀ j v, sub[j]? = some v → W.cell? ⟨b, k + j, none⟩ = some v
theorem CellsAt.below {w w' : World} {b k : Nat} {sub : Array Value} (h : CellsAt w b k sub) (hb : Below w.heap.size w w') : CellsAt w' b k sub :=
  ⟨Nat.lt_of_lt_of_le h.1 hb.size, fun j v hv => kept hb (h.2 j v hv)⟩
theorem Blk.at_ {W : World} {g : Nat} {t : TypeId} {cs : Array Value} (h : Blk W g t cs) : CellsAt W g 0 cs := ⟨h.lt, fun j v hv => by rw [Nat.zero_add]; exact h.cell j v hv⟩
theorem load_at {W : World} {g k : Nat} {ty : TypeId} {sub : Array Value} (h : CellsAt W g k sub) {fs : _} (hu : Tryd.prog.underlying ty = some (.struct fs)) (hi : (Tryd.prog.info? ty).map (·.size) = some sub.size) :
    (loadVar ty ⟨g, k, none⟩).run Tryd.prog W = .ok (.agg sub) W := by
  have hl : (loadCells ⟨g, k, none⟩ sub.toList.length).run Tryd.prog W = .ok sub.toList.toArray W :=
    run_loadCells_list (P := Tryd.prog) W ⟨g, k, none⟩ sub.toList (fun j v hv => by
      have hadd : (⟨g, k, none⟩ : Addr).add j = ⟨g, k + j, none⟩ := Go.WideShapes.add_plain ..
      rw [hadd]
      exact h.2 j v (by simpa using hv))
  cases hq : Tryd.prog.info? ty with
  | none => simp [hq] at hi
  | some i =>
    have hs' : i.size = sub.size := by simpa [hq] using hi
    have hagg : (isAgg ty).run Tryd.prog W = .ok true W := by
      unfold isAgg
      rw [Sem.run_bind, run_underlying hu W]
      rfl
    simp only [Array.length_toList, Array.toArray_toList] at hl
    simp [loadVar, Sem.run_bind, hagg, sizeOf, typeInfo, hq, hs', hl]
theorem wpList_load_at {ops : Array Oper} {rest : List Oper} {o : Oper} {ac : Act} {w : World} {Q : Exit → Act → World → Prop} (hgd : o.guard = none) (ty : TypeId) (p : Operand) (ho : o.op = Op.load ty p) (g k : Nat) (hp : ac.eval p = .pointer (some ⟨g, k, none⟩)) (sub : Array Value)
    (hb : CellsAt w g k sub) {fs : _} (hu : Tryd.prog.underlying ty = some (.struct fs)) (hi : (Tryd.prog.info? ty).map (·.size) = some sub.size) (h : wpList Tryd.prog ops Q rest (ac.put o.dst (.agg sub)) w) : wpList Tryd.prog ops Q (o :: rest) ac w := by
  refine wpList_plain hgd fun K hK => ?_
  have hl := load_at hb hu hi
  unfold Oper.wp
  simp [execOp, ho, hp, Instr.loadAt, Instr.sureAddr, hl, Result.andThen]
  exact hK _ _ h
theorem wpList_load_at_w {ops : Array Oper} {rest : List Oper} {o : Oper} {ac : Act} {w : World} {Q : Exit → Act → World → Prop} (hw : Region.wanted o (yielded ops ac.tmps) = true) (ty : TypeId) (p : Operand) (ho : o.op = Op.load ty p) (g k : Nat) (hp : ac.eval p = .pointer (some ⟨g, k, none⟩)) (sub : Array Value)
    (hb : CellsAt w g k sub) {fs : _} (hu : Tryd.prog.underlying ty = some (.struct fs)) (hi : (Tryd.prog.info? ty).map (·.size) = some sub.size) (h : wpList Tryd.prog ops Q rest (ac.put o.dst (.agg sub)) w) : wpList Tryd.prog ops Q (o :: rest) ac w := by
  refine wpList_step fun K hK => ?_
  rw [if_pos hw]
  have hl := load_at hb hu hi
  unfold Oper.wp
  simp [execOp, ho, hp, Instr.loadAt, Instr.sureAddr, hl, Result.andThen]
  exact hK _ _ h
theorem yieldsIf_at {ops : Array Oper} {S : World → Prop} {o : Oper} {ac : Act} (hw : Region.wanted o (yielded ops ac.tmps) = true) (ty : TypeId) (p : Operand) (ho : o.op = Op.load ty p) (g k : Nat) (hp : ac.eval p = .pointer (some ⟨g, k, none⟩)) (sub : Array Value)
    (hS : ∀ w, S w → CellsAt w g k sub) {fs : _} (hu : Tryd.prog.underlying ty = some (.struct fs)) (hi : (Tryd.prog.info? ty).map (·.size) = some sub.size) : YieldsIf Tryd.prog ops S o (.agg sub) ac := by
  refine .inl ⟨hw, fun w hw' => ?_⟩
  have hl := load_at (hS w hw') hu hi
  simp [execOp, ho, hp, Instr.loadAt, Instr.sureAddr, hl, Result.andThen]
theorem list_of {α : Type} {P : Nat → α → Prop} : ∀ m, (∀ i, i < m → ∃ q, P i q) → ∃ l : List α, l.length = m ∧ ∀ (i : Nat) (q : α), l[i]? = some q → P i q
  | 0, _ => ⟨[], rfl, fun i q h => by simp at h⟩
  | m + 1, h => by
    obtain ⟨l, h1, h2⟩ := list_of m (fun i hi => h i (by omega))
    obtain ⟨q, hq⟩ := h m (by omega)
    refine ⟨l ++ [q], by simp [h1], fun i q' hi => ?_⟩
    rcases Nat.lt_or_ge i m with x | x
    · rw [List.getElem?_append_left (by omega)] at hi
      exact h2 i q' hi
    · have hl := (List.getElem?_eq_some_iff.1 hi).1
      simp [h1] at hl
      have : i = m := by omega
      subst this
      rw [List.getElem?_append_right (by omega)] at hi
      simp [h1] at hi
      rw [← hi]
      exact hq
/-- A slice of things of n cells each, as it is read. -/
structure RowN {α : Type} (n : Nat) (v : α → Array Value) (ok : World → α → Prop) (w : World) (a : Option Addr) (l : List α) : Prop where
  each : ∀ q ∈ l, ok w q
  cells : ∀ (i : Nat) (q : α), l[i]? = some q → ∃ b off, a = some ⟨b, off, none⟩ ∧ CellsAt w b (off + i * n) (v q)
theorem RowN.below {α : Type} {n : Nat} {v : α → Array Value} {ok : World → α → Prop} (hok : ∀ {w w' : World} {q : α}, ok w q → Below w.heap.size w w' → ok w' q) {w w' : World} {a : Option Addr} {l : List α} (h : RowN n v ok w a l) (hb : Below w.heap.size w w') : RowN n v ok w' a l :=
  ⟨fun q hq => hok (h.each q hq) hb, fun i q hq => by
    obtain ⟨b, off, h1, h2⟩ := h.cells i q hq
    exact ⟨b, off, h1, h2.below hb⟩⟩
theorem info_rl (r : Rl) : (Tryd.prog.info? 55).map (·.size) = some r.v.size := by kernel_rfl
end Go.Proofs.YtgppfkbapieneaaDoor
