/- Texts joined: FtA -/
import Derived.Test.YtnadfacbfcdkgaaDoorFsa9
import Derived.Test.YtnadfacbfcdkgaaDoorFsa10
namespace Go.Proofs.YtnadfacbfcdkgaaDoor
set_option linter.unusedVariables false
set_option linter.unusedSimpArgs false
/-- A place that is asked for. -/
structure As where
  pr : Int
  a : Ad
  po : Int
def as0 : As := ⟨0, ⟨0, 0, 0⟩, 0⟩
def askT (o : Option As) : As × Bool := match o with | some q => (q, true) | none => (as0, false)
def placeF (a : Ad) (n : Int) (h : Bool) : Option As := if h = true ∧ 1 ≤ n ∧ n ≤ 65535 then some ⟨6, a, n⟩ else none
def upB (c : UInt8) : UInt8 := if 97 ≤ c.toNat ∧ c.toNat ≤ 122 then c - 32 else c
/-- What is behind a head. -/
def behF (h l : List UInt8) : Option (List UInt8) := if (l.take h.length).map upB = h then some (l.drop h.length) else none
/-- What is between the first ( and the first ) behind it. -/
def innF (l : List UInt8) : Option (List UInt8) :=
  if (Lib.cut l [40]).2.2 = true then (if (Lib.cut (Lib.cut l [40]).2.1 [41]).2.2 = true then some (Lib.cut (Lib.cut l [40]).2.1 [41]).1 else none) else none
def wthF (l : List UInt8) : List UInt8 := if (Lib.cut (Lib.cut l [40]).2.1 [41]).2.2 = true then (Lib.cut (Lib.cut l [40]).2.1 [41]).1 else []
def sixF (l : List UInt8) : Option As :=
  if (spl 44 l).length = 6 then (match qsGo (spl 44 l) [] with | some b => placeF (fromB (b.take 4)).1 (b.getD 4 0 * 256 + b.getD 5 0) true | none => none) else none
def mayD (c : UInt8) : Bool := decide (33 ≤ c.toNat) && decide (c.toNat ≤ 126) && !(decide (48 ≤ c.toNat) && decide (c.toNat ≤ 57))
def fld5 : List (List UInt8) → List UInt8 × List UInt8 × List UInt8
  | [_, n, h, p, e] => if e = [] then (n, h, p) else ([], [], [])
  | _ => ([], [], [])
def fldF : List UInt8 → List UInt8 × List UInt8 × List UInt8
  | [] => ([], [], [])
  | d :: t => if mayD d = true then fld5 (spl d (d :: t)) else ([], [], [])
def netF (fam : Int) : List UInt8 := if fam = 4 then [49] else [50]
def extF (fam : Int) (l : List UInt8) : Option As :=
  if (fldF l).1 = netF fam then placeF (parseB (fldF l).2.1).1 (num 65535 (fldF l).2.2).1 ((num 65535 (fldF l).2.2).2 && decide ((parseB (fldF l).2.1).2 = 0) && decide ((parseB (fldF l).2.1).1.fam = fam)) else none
def porF (l : List UInt8) : Option As :=
  placeF ⟨0, 0, 0⟩ (num 65535 (fldF l).2.2).1 ((num 65535 (fldF l).2.2).2 && decide ((fldF l).1 = []) && decide ((fldF l).2.1 = []))
def hPORT : List UInt8 := [80, 79, 82, 84, 32]
def hEPRT : List UInt8 := [69, 80, 82, 84, 32]
def h227 : List UInt8 := [50, 50, 55, 32]
def h229 : List UInt8 := [50, 50, 57, 32]
def comF (fam : Int) (l : List UInt8) : Option As :=
  if (behF hPORT l).isSome = true ∧ fam = 4 then sixF ((behF hPORT l).getD []) else if (behF hEPRT l).isSome = true then extF fam ((behF hEPRT l).getD []) else none
def ansF (fam : Int) (l : List UInt8) : Option As :=
  if (behF h227 l).isSome = true ∧ fam = 4 then sixF (wthF ((behF h227 l).getD [])) else if (behF h229 l).isSome = true then porF (wthF ((behF h229 l).getD [])) else none
/-- The place that a line says, by the program. -/
def plF (fam side : Int) (l : List UInt8) : Option As :=
  if (¬ fam = 4 ∧ ¬ fam = 6) ∨ 512 < l.length then none else if side = 0 then comF fam l else if side = 1 then ansF fam l else none

/-! What the document says. -/
def sixD (l : List UInt8) : Option As :=
  if (spl 44 l).length = 6 then (match qsGo (spl 44 l) [] with | some b => (if b.getD 4 0 * 256 + b.getD 5 0 = 0 then none else some ⟨6, (fromB (b.take 4)).1, b.getD 4 0 * 256 + b.getD 5 0⟩) | none => none) else none
def digF (l : List UInt8) : Bool := l.all (fun c => decide (48 ≤ c.toNat) && decide (c.toNat ≤ 57)) && !l.isEmpty
def prtF (l : List UInt8) : Bool := (num 65535 l).2 && decide (0 < (num 65535 l).1)
def epr5 (fam : Int) : List (List UInt8) → Option As
  | [x, n, h, p, e] => if x = [] ∧ e = [] ∧ digF p = true ∧ (parseB h).2 = 0 ∧ prtF p = true ∧ (parseB h).1.fam = fam ∧ ((n = [49] ∧ fam = 4) ∨ (n = [50] ∧ fam = 6)) then some ⟨6, (parseB h).1, (num 65535 p).1⟩ else none
  | _ => none
def eprD (fam : Int) : List UInt8 → Option As
  | [] => none
  | d :: t => if mayD d = true then epr5 fam (spl d (d :: t)) else none
def prtD (l : List UInt8) : Option As :=
  if 5 ≤ l.length ∧ mayD (l.getD 0 0) = true ∧ l.getD 1 0 = l.getD 0 0 ∧ l.getD 2 0 = l.getD 0 0 ∧ l.getD (l.length - 1) 0 = l.getD 0 0 ∧ digF ((l.take (l.length - 1)).drop 3) = true ∧ prtF ((l.take (l.length - 1)).drop 3) = true then some ⟨6, ⟨0, 0, 0⟩, (num 65535 ((l.take (l.length - 1)).drop 3)).1⟩ else none
def dplF (fam side : Int) (l : List UInt8) : Option As :=
  if (¬ fam = 4 ∧ ¬ fam = 6) ∨ 512 < l.length ∨ l.length < 5 then none
  else if side = 0 ∧ (l.take 5).map upB = hPORT ∧ fam = 4 then sixD (l.drop 5)
  else if side = 0 ∧ (l.take 5).map upB = hEPRT then eprD fam (l.drop 5)
  else if side = 1 ∧ l.take 4 = h227 ∧ fam = 4 then (match innF l with | some s => sixD s | none => none)
  else if side = 1 ∧ l.take 4 = h229 then (match innF l with | some s => prtD s | none => none)
  else none
theorem up_ne {c : UInt8} (h : ¬ (65 ≤ c.toNat ∧ c.toNat ≤ 90)) : ∀ x : UInt8, upB x = c → x = c := fun x hx => by
  unfold upB at hx
  split at hx
  · exfalso
    apply h
    rw [← hx, UInt8.toNat_sub_of_le _ _ (by rw [UInt8.le_iff_toNat_le]; show 32 ≤ x.toNat; omega)]
    show 65 ≤ x.toNat - 32 ∧ x.toNat - 32 ≤ 90
    omega
  · exact hx
theorem map_up {h l : List UInt8} (hh : ∀ c ∈ h, ¬ (65 ≤ c.toNat ∧ c.toNat ≤ 90) ∧ ¬ (97 ≤ c.toNat ∧ c.toNat ≤ 122)) : (l.map upB = h) ↔ l = h := by
  constructor
  · intro e
    induction l generalizing h with
    | nil => simpa using e
    | cons x t ih =>
      cases h with
      | nil => simp at e
      | cons c u =>
        simp only [List.map_cons, List.cons.injEq] at e
        rw [up_ne (hh c (List.mem_cons_self ..)).1 x e.1, ih (fun d hd => hh d (List.mem_cons_of_mem _ hd)) e.2]
  · rintro rfl
    induction l with
    | nil => rfl
    | cons x t ih =>
      have h1 := (hh x (List.mem_cons_self ..)).2
      rw [List.map_cons, ih (fun d hd => hh d (List.mem_cons_of_mem _ hd)), upB, if_neg h1]
theorem h227_up : ∀ c ∈ h227, ¬ (65 ≤ c.toNat ∧ c.toNat ≤ 90) ∧ ¬ (97 ≤ c.toNat ∧ c.toNat ≤ 122) := by decide
theorem h229_up : ∀ c ∈ h229, ¬ (65 ≤ c.toNat ∧ c.toNat ≤ 90) ∧ ¬ (97 ≤ c.toNat ∧ c.toNat ≤ 122) := by decide
theorem cut_nil (c : UInt8) : Lib.cut [] [c] = ([], [], false) := by simp [Lib.cut, index_none]
theorem wth_inn (l : List UInt8) : wthF l = (innF l).getD [] := by
  unfold wthF innF
  by_cases h : (Lib.cut l [40]).2.2 = true
  · rw [if_pos h]; split <;> rfl
  · rw [if_neg h]
    have e : (Lib.cut l [40]).2.1 = [] := by
      unfold Lib.cut at h ⊢
      split at h
      · simp at h
      · next hh => rw [if_neg hh]
    rw [e, cut_nil]
    rfl
theorem cut_not {c : UInt8} {l : List UInt8} (h : c ∉ l) : Lib.cut l [c] = (l, [], false) := by unfold Lib.cut; rw [index_none c l h]; rfl
theorem cut_yes {c : UInt8} {x t : List UInt8} (h : c ∉ x) : Lib.cut (x ++ c :: t) [c] = (x, t, true) := by
  unfold Lib.cut
  rw [index_at c x t h, if_pos (by omega)]
  simp only [Int.toNat_natCast, List.take_left, List.length_cons, List.length_nil, Nat.zero_add]
  rw [show x.length + 1 = (x ++ [c]).length by simp, show x ++ c :: t = (x ++ [c]) ++ t by simp, List.drop_left]
/-- A head without ( changes nothing of what is between. -/
theorem inn_drop (h t : List UInt8) (hc : (40 : UInt8) ∉ h) : innF (h ++ t) = innF t := by
  have e : (Lib.cut (h ++ t) [40]).2 = (Lib.cut t [40]).2 := by
    by_cases hm : (40 : UInt8) ∈ t
    · obtain ⟨x, u, rfl, hx⟩ := first_occ 40 t hm
      rw [cut_yes hx, ← List.append_assoc, cut_yes (by simp [hc, hx])]
    · rw [cut_not hm, cut_not (by simp [hc, hm])]
  unfold innF
  rw [e]
theorem num_le (l : List UInt8) : 0 ≤ (num 65535 l).1 ∧ (num 65535 l).1 ≤ 65535 := num_bd 65535 l
theorem numGo_dig (M : Nat) : ∀ (l : List UInt8) (n v : Nat) (b : Bool), numGo M l n b = some v → l.all (fun c => decide (48 ≤ c.toNat) && decide (c.toNat ≤ 57)) = true
  | [], _, _, _, _ => rfl
  | c :: t, n, v, b, h => by
    unfold numGo at h
    split at h
    · cases h
    · next h1 =>
      split at h
      · cases h
      · have := numGo_dig M t _ v _ h
        rw [List.all_cons, this]
        simp; omega
theorem num_dig (l : List UInt8) (h : (num 65535 l).2 = true) : digF l = true := by
  unfold num at h
  split at h
  · cases h
  · next hl =>
    unfold tell at h
    split at h
    · next n hn =>
      unfold digF
      rw [numGo_dig _ _ _ _ _ hn]
      cases l with
      | nil => exact absurd rfl hl
      | cons _ _ => rfl
    · cases h
theorem six_D (l : List UInt8) : sixD l = sixF l := by
  unfold sixD sixF
  split
  · next h6 =>
    cases hq : qsGo (spl 44 l) [] with
    | none => rfl
    | some b =>
      have hb := qsGo_bytes _ _ _ M.Bytes.nil hq
      have g : ∀ k, 0 ≤ b.getD k 0 ∧ b.getD k 0 ≤ 255 := fun k => by
        rw [List.getD_eq_getElem?_getD]
        cases hk : b[k]? with
        | none => exact ⟨by simp, by simp⟩
        | some v =>
          have := hb v (List.mem_of_getElem? hk)
          simp only [Option.getD_some]; omega
      have g4 := g 4; have g5 := g 5
      simp only
      unfold placeF
      by_cases h0 : b.getD 4 0 * 256 + b.getD 5 0 = 0
      · rw [if_pos h0, if_neg (by omega)]
      · rw [if_neg h0, if_pos ⟨rfl, by omega, by omega⟩]
  · rfl
theorem digF_no {d : UInt8} {x : List UInt8} (h : digF x = true) (hd : mayD d = true) : d ∉ x := fun hm => by
  unfold digF at h
  simp only [Bool.and_eq_true, List.all_eq_true, decide_eq_true_eq] at h
  have := h.1 d hm
  unfold mayD at hd
  simp only [Bool.and_eq_true, Bool.not_eq_true', decide_eq_true_eq, Bool.and_eq_false_iff, decide_eq_false_iff_not] at hd
  omega
theorem eprD_cons (fam : Int) (d : UInt8) (t : List UInt8) : eprD fam (d :: t) = if mayD d = true then epr5 fam (spl d (d :: t)) else none := rfl
theorem fldF_cons (d : UInt8) (t : List UInt8) : fldF (d :: t) = if mayD d = true then fld5 (spl d (d :: t)) else ([], [], []) := rfl
theorem fld5_mk (x n h p e : List UInt8) : fld5 [x, n, h, p, e] = if e = [] then (n, h, p) else ([], [], []) := rfl
theorem ext_D (fam : Int) (l : List UInt8) (hf : fam = 4 ∨ fam = 6) : eprD fam l = extF fam l := by
  unfold extF
  cases l with
  | nil =>
    show none = _
    rw [if_neg]
    show ¬ ([] : List UInt8) = netF fam
    unfold netF
    split <;> simp
  | cons d t =>
    by_cases hm : mayD d = true
    · have e1 : eprD fam (d :: t) = epr5 fam (spl d (d :: t)) := by rw [eprD_cons, if_pos hm]
      have e2 : fldF (d :: t) = fld5 (spl d (d :: t)) := by rw [fldF_cons, if_pos hm]
      have e3 : spl d (d :: t) = [] :: spl d t := by conv => lhs; unfold spl; rw [if_pos rfl]
      rw [e1, e2, e3]
      have hne : ([], [], []) = fld5 ([] :: spl d t) → none = (if (fld5 ([] :: spl d t)).1 = netF fam then placeF (parseB (fld5 ([] :: spl d t)).2.1).1 (num 65535 (fld5 ([] :: spl d t)).2.2).1 ((num 65535 (fld5 ([] :: spl d t)).2.2).2 && decide ((parseB (fld5 ([] :: spl d t)).2.1).2 = 0) && decide ((parseB (fld5 ([] :: spl d t)).2.1).1.fam = fam)) else none) := fun e => by
        rw [← e, if_neg]
        show ¬ ([] : List UInt8) = netF fam
        unfold netF
        split <;> simp
      match hs : spl d t with
      | [] => rw [hs] at hne; exact hne rfl
      | [_] => rw [hs] at hne; exact hne rfl
      | [_, _] => rw [hs] at hne; exact hne rfl
      | [_, _, _] => rw [hs] at hne; exact hne rfl
      | _ :: _ :: _ :: _ :: _ :: _ => rw [hs] at hne; exact hne rfl
      | [n, h, p, e] =>
        by_cases he : e = []
        · subst he
          show (if _ then _ else _) = (if n = netF fam then placeF (parseB h).1 (num 65535 p).1 ((num 65535 p).2 && decide ((parseB h).2 = 0) && decide ((parseB h).1.fam = fam)) else none)
          have hb := num_le p
          have hdg := num_dig p
          by_cases hn : n = netF fam
          · rw [if_pos hn]
            unfold placeF
            by_cases hc : (num 65535 p).2 = true ∧ (parseB h).2 = 0 ∧ (parseB h).1.fam = fam ∧ 1 ≤ (num 65535 p).1
            · rw [if_pos ⟨rfl, rfl, hdg hc.1, hc.2.1, by unfold prtF; simp [hc.1]; omega, hc.2.2.1, by
                rcases hf with rfl | rfl
                · exact .inl ⟨hn, rfl⟩
                · exact .inr ⟨hn, rfl⟩⟩, if_pos ⟨by simp [hc.1, hc.2.1, hc.2.2.1], hc.2.2.2, hb.2⟩]
            · rw [if_neg, if_neg]
              · rintro ⟨h1, h2, h3⟩
                simp only [Bool.and_eq_true, decide_eq_true_eq] at h1
                exact hc ⟨h1.1.1, h1.1.2, h1.2, h2⟩
              · rintro ⟨_, _, _, h2, h3, h4, _⟩
                unfold prtF at h3
                simp only [Bool.and_eq_true, decide_eq_true_eq] at h3
                exact hc ⟨h3.1, h2, h4, by omega⟩
          · rw [if_neg hn, if_neg]
            rintro ⟨_, _, _, _, _, _, h7⟩
            apply hn
            unfold netF
            rcases h7 with ⟨h8, rfl⟩ | ⟨h8, rfl⟩
            · rw [if_pos rfl, h8]
            · rw [if_neg (by decide), h8]
        · have e5 : fld5 [[], n, h, p, e] = ([], [], []) := by rw [fld5_mk, if_neg he]
          rw [hs, e5] at hne
          rw [e5]
          rw [← hne rfl]
          show (if _ then _ else _) = _
          rw [if_neg (fun hc => he hc.2.1)]
    · have e1 : eprD fam (d :: t) = none := by rw [eprD_cons, if_neg hm]
      have e2 : fldF (d :: t) = ([], [], []) := by rw [fldF_cons, if_neg hm]
      rw [e1, e2, if_neg]
      show ¬ ([] : List UInt8) = netF fam
      unfold netF
      split <;> simp
/-- A text out of its parts. -/
def unsp (d : UInt8) : List (List UInt8) → List UInt8
  | [] => []
  | [x] => x
  | x :: y :: r => x ++ d :: unsp d (y :: r)
theorem unsp_spl (d : UInt8) : ∀ s : List UInt8, unsp d (spl d s) = s
  | [] => rfl
  | x :: t => by
    have ih := unsp_spl d t
    unfold spl
    split
    · next h =>
      cases hs : spl d t with
      | nil => exact absurd hs (spl_ne d t)
      | cons y r => rw [hs] at ih; show [] ++ d :: unsp d (y :: r) = _; rw [ih, h]; rfl
    · cases hs : spl d t with
      | nil => exact absurd hs (spl_ne d t)
      | cons y r =>
        rw [hs] at ih
        cases r with
        | nil => show x :: y = _; rw [← ih]; rfl
        | cons z q => show (x :: y) ++ d :: unsp d (z :: q) = _; rw [← ih]; rfl
theorem por_D (l : List UInt8) : prtD l = porF l := by
  unfold porF
  by_cases hp : ∃ d x, l = d :: d :: d :: (x ++ [d]) ∧ mayD d = true ∧ d ∉ x
  · obtain ⟨d, x, rfl, hm, hx⟩ := hp
    have e : fldF (d :: d :: d :: (x ++ [d])) = ([], [], x) := by
      rw [fldF_cons, if_pos hm]
      have e1 : spl d (x ++ [d]) = [x, []] := by rw [spl_app d x [] hx]; rfl
      have e2 : spl d (d :: d :: d :: (x ++ [d])) = [[], [], [], x, []] := by
        unfold spl; rw [if_pos rfl]; unfold spl; rw [if_pos rfl]; unfold spl; rw [if_pos rfl, e1]
      rw [e2]
      rfl
    rw [e]
    have hlen : (d :: d :: d :: (x ++ [d])).length - 1 = x.length + 3 := by simp
    have htk : ((d :: d :: d :: (x ++ [d])).take ((d :: d :: d :: (x ++ [d])).length - 1)).drop 3 = x := by
      rw [hlen]
      show ((d :: d :: d :: (x ++ [d]).take x.length)).drop 3 = x
      rw [List.take_left]
      rfl
    have hla : (d :: d :: d :: (x ++ [d])).getD ((d :: d :: d :: (x ++ [d])).length - 1) 0 = d := by
      rw [hlen]
      show (x ++ [d]).getD x.length 0 = d
      simp
    unfold prtD placeF
    rw [htk, hla]
    have hb := num_le x
    have hdg := num_dig x
    simp only [List.length_cons, List.length_append, List.length_nil]
    by_cases hc : (num 65535 x).2 = true ∧ 1 ≤ (num 65535 x).1
    · rw [if_pos, if_pos]
      · exact ⟨by simp [hc.1], hc.2, hb.2⟩
      · refine ⟨?_, hm, rfl, rfl, rfl, hdg hc.1, by unfold prtF; simp [hc.1]; omega⟩
        cases x with
        | nil => have := hc.1; simp [num] at this
        | cons _ _ => simp
    · rw [if_neg, if_neg]
      · rintro ⟨h1, h2, h3⟩
        simp only [Bool.and_eq_true, decide_eq_true_eq] at h1
        exact hc ⟨h1.1.1, h2⟩
      · rintro ⟨_, _, _, _, _, _, h3⟩
        unfold prtF at h3
        simp only [Bool.and_eq_true, decide_eq_true_eq] at h3
        exact hc ⟨h3.1, by omega⟩
  · have e1 : prtD l = none := by
      unfold prtD
      rw [if_neg]
      rintro ⟨h5, hm, h1, h2, h3, h4, _⟩
      apply hp
      match l, h5 with
      | a :: b :: c :: t, h5 =>
        have hb : b = a := h1
        have hc : c = a := h2
        subst hb hc
        have ht : 0 < t.length := by simp at h5; omega
        have hl : (c :: c :: c :: t).length - 1 = (t.length - 1) + 3 := by simp; omega
        rw [hl] at h3 h4
        have h3' : t.getD (t.length - 1) 0 = c := h3
        have h4' : digF (t.take (t.length - 1)) = true := h4
        refine ⟨c, t.take (t.length - 1), ?_, hm, digF_no h4' hm⟩
        have : t = t.take (t.length - 1) ++ [c] := by
          conv => lhs; rw [← List.take_append_drop (t.length - 1) t]
          congr 1
          rw [List.drop_eq_getElem_cons (by omega)]
          have e : t[t.length - 1]'(by omega) = c := by rw [← h3', List.getD_eq_getElem?_getD, List.getElem?_eq_getElem (by omega)]; rfl
          rw [e, List.drop_eq_nil_of_le (by omega)]
        rw [← this]
    rw [e1]
    unfold placeF
    rw [if_neg]
    rintro ⟨h1, _, _⟩
    simp only [Bool.and_eq_true, decide_eq_true_eq] at h1
    obtain ⟨⟨h1, h2⟩, h3⟩ := h1
    apply hp
    cases l with
    | nil => simp [fldF, num] at h1
    | cons d t =>
      by_cases hm : mayD d = true
      · have e2 : fldF (d :: t) = fld5 (spl d (d :: t)) := by rw [fldF_cons, if_pos hm]
        have e3 : spl d (d :: t) = [] :: spl d t := by conv => lhs; unfold spl; rw [if_pos rfl]
        rw [e2, e3] at h1 h2 h3
        have hj := unsp_spl d t
        match hs : spl d t with
        | [] => rw [hs] at h1; simp [fld5, num] at h1
        | [_] => rw [hs] at h1; simp [fld5, num] at h1
        | [_, _] => rw [hs] at h1; simp [fld5, num] at h1
        | [_, _, _] => rw [hs] at h1; simp [fld5, num] at h1
        | _ :: _ :: _ :: _ :: _ :: _ => rw [hs] at h1; simp [fld5, num] at h1
        | [n, h, p, e] =>
          rw [hs] at h1 h2 h3 hj
          by_cases he : e = []
          · subst he
            have f5 : fld5 [[], n, h, p, []] = (n, h, p) := by rw [fld5_mk, if_pos rfl]
            rw [f5] at h1 h2 h3
            simp only at h1 h2 h3
            subst h2 h3
            refine ⟨d, p, ?_, hm, digF_no (num_dig p h1) hm⟩
            rw [← hj]
            rfl
          · rw [fld5_mk, if_neg he] at h1
            simp [num] at h1
      · have e2 : fldF (d :: t) = ([], [], []) := by rw [fldF_cons, if_neg hm]
        rw [e2] at h1
        simp [num] at h1
theorem fld_nil : fldF [] = ([], [], []) := rfl
theorem por_nil : porF [] = none := by unfold porF; rw [fld_nil]; simp [num, placeF]
theorem six_nil : sixF [] = none := by unfold sixF; rw [if_neg (by simp [spl])]
theorem beh_iff (h l : List UInt8) : (behF h l).isSome = true ↔ (l.take h.length).map upB = h := by
  unfold behF
  split <;> simp_all
theorem beh_get {h l : List UInt8} (e : (l.take h.length).map upB = h) : (behF h l).getD [] = l.drop h.length := by unfold behF; rw [if_pos e]; rfl
/-- The document's place is the program's. -/
theorem dpl_eq (fam side : Int) (l : List UInt8) : dplF fam side l = plF fam side l := by
  unfold dplF plF
  by_cases hf : ¬ fam = 4 ∧ ¬ fam = 6
  · rw [if_pos (.inl hf), if_pos (.inl hf)]
  by_cases h512 : 512 < l.length
  · rw [if_pos (.inr (.inl h512)), if_pos (.inr h512)]
  have hf' : fam = 4 ∨ fam = 6 := by omega
  rw [if_neg (show ¬ ((¬ fam = 4 ∧ ¬ fam = 6) ∨ 512 < l.length) by omega)]
  by_cases h5 : l.length < 5
  · rw [if_pos (.inr (.inr h5))]
    have p1 : ¬ (l.take hPORT.length).map upB = hPORT := fun e => by
      have := congrArg List.length e
      simp [hPORT] at this; omega
    have p2 : ¬ (l.take hEPRT.length).map upB = hEPRT := fun e => by
      have := congrArg List.length e
      simp [hEPRT] at this; omega
    have hd : ∀ h : List UInt8, h.length = 4 → (l.take h.length).map upB = h → l.drop h.length = [] := fun h e4 e => List.drop_eq_nil_of_le (by
      have := congrArg List.length e
      simp at this; omega)
    by_cases h0 : side = 0
    · rw [if_pos h0]
      unfold comF
      rw [if_neg (fun hh => p1 ((beh_iff _ _).1 hh.1)), if_neg (fun hh => p2 ((beh_iff _ _).1 hh))]
    · rw [if_neg h0]
      by_cases h1 : side = 1
      · rw [if_pos h1]
        unfold ansF
        split
        · next hh =>
          have e := (beh_iff _ _).1 hh.1
          rw [beh_get e, hd h227 rfl e, wth_inn]
          have : innF [] = none := by unfold innF; rw [cut_nil]; rfl
          rw [this]
          exact six_nil.symm
        · split
          · next hh =>
            have e := (beh_iff _ _).1 hh
            rw [beh_get e, hd h229 rfl e, wth_inn]
            have : innF [] = none := by unfold innF; rw [cut_nil]; rfl
            rw [this]
            exact por_nil.symm
          · rfl
      · rw [if_neg h1]
  rw [if_neg (show ¬ ((¬ fam = 4 ∧ ¬ fam = 6) ∨ 512 < l.length ∨ l.length < 5) by omega)]
  by_cases h0 : side = 0
  · subst h0
    rw [if_pos rfl]
    unfold comF
    by_cases h1 : (l.take 5).map upB = hPORT ∧ fam = 4
    · have b := (beh_iff hPORT l).2 h1.1
      rw [if_pos ⟨rfl, h1.1, h1.2⟩, if_pos ⟨b, h1.2⟩, six_D, beh_get (h := hPORT) h1.1]
      rfl
    · rw [if_neg (show ¬ ((0 : Int) = 0 ∧ (l.take 5).map upB = hPORT ∧ fam = 4) from fun hh => h1 hh.2), if_neg (show ¬ ((behF hPORT l).isSome = true ∧ fam = 4) from fun hh => h1 ⟨(beh_iff hPORT l).1 hh.1, hh.2⟩)]
      by_cases h2 : (l.take 5).map upB = hEPRT
      · have b := (beh_iff hEPRT l).2 h2
        rw [if_pos (show (0 : Int) = 0 ∧ (l.take 5).map upB = hEPRT from ⟨rfl, h2⟩), if_pos b, ext_D fam _ hf', beh_get (h := hEPRT) h2]
        rfl
      · rw [if_neg (show ¬ ((0 : Int) = 0 ∧ (l.take 5).map upB = hEPRT) from fun hh => h2 hh.2), if_neg (show ¬ (behF hEPRT l).isSome = true from fun hh => h2 ((beh_iff hEPRT l).1 hh)), if_neg (show ¬ ((0 : Int) = 1 ∧ l.take 4 = h227 ∧ fam = 4) from fun hh => absurd hh.1 (by decide)), if_neg (show ¬ ((0 : Int) = 1 ∧ l.take 4 = h229) from fun hh => absurd hh.1 (by decide))]
  · rw [if_neg h0, if_neg (show ¬ (side = 0 ∧ (l.take 5).map upB = hPORT ∧ fam = 4) from fun hh => h0 hh.1), if_neg (show ¬ (side = 0 ∧ (l.take 5).map upB = hEPRT) from fun hh => h0 hh.1)]
    by_cases h1 : side = 1
    · subst h1
      rw [if_pos rfl]
      unfold ansF
      have dr : ∀ h : List UInt8, h.length = 4 → (40 : UInt8) ∉ h → l.take 4 = h → innF l = innF (l.drop 4) := fun h e4 hc e => by
        conv => lhs; rw [← List.take_append_drop 4 l]
        exact inn_drop _ _ (by rw [e]; exact hc)
      by_cases h2 : l.take 4 = h227 ∧ fam = 4
      · have u := (map_up (l := l.take 4) h227_up).2 h2.1
        have b := (beh_iff h227 l).2 u
        rw [if_pos (show (1 : Int) = 1 ∧ l.take 4 = h227 ∧ fam = 4 from ⟨rfl, h2.1, h2.2⟩), if_pos (show (behF h227 l).isSome = true ∧ fam = 4 from ⟨b, h2.2⟩), beh_get (h := h227) u, wth_inn, dr h227 rfl (by decide) h2.1]
        show _ = sixF ((innF (l.drop 4)).getD [])
        cases innF (l.drop 4) with
        | none => exact six_nil.symm
        | some s => exact six_D s
      · rw [if_neg (show ¬ ((1 : Int) = 1 ∧ l.take 4 = h227 ∧ fam = 4) from fun hh => h2 hh.2), if_neg (show ¬ ((behF h227 l).isSome = true ∧ fam = 4) from fun hh => h2 ⟨(map_up (l := l.take 4) h227_up).1 ((beh_iff h227 l).1 hh.1), hh.2⟩)]
        by_cases h3 : l.take 4 = h229
        · have u := (map_up (l := l.take 4) h229_up).2 h3
          have b := (beh_iff h229 l).2 u
          rw [if_pos (show (1 : Int) = 1 ∧ l.take 4 = h229 from ⟨rfl, h3⟩), if_pos b, beh_get (h := h229) u, wth_inn, dr h229 rfl (by decide) h3]
          show _ = porF ((innF (l.drop 4)).getD [])
          cases innF (l.drop 4) with
          | none => exact por_nil.symm
          | some s => exact por_D s
        · rw [if_neg (show ¬ ((1 : Int) = 1 ∧ l.take 4 = h229) from fun hh => h3 hh.2), if_neg (show ¬ (behF h229 l).isSome = true from fun hh => h3 ((map_up (l := l.take 4) h229_up).1 ((beh_iff h229 l).1 hh)))]
    · rw [if_neg h1, if_neg (show ¬ (side = 1 ∧ l.take 4 = h227 ∧ fam = 4) from fun hh => h1 hh.1), if_neg (show ¬ (side = 1 ∧ l.take 4 = h229) from fun hh => h1 hh.1)]

/-! Lines. -/
/-- The lines of what is left: acc stands ahead of it in the line, ah: it ends with a byte 13. -/
def lnP : List UInt8 → List UInt8 → Bool → List (List UInt8)
  | [], _, _ => []
  | x :: t, acc, ah => if ah = true ∧ x = 10 then acc.dropLast :: lnP t [] false else lnP t (acc ++ [x]) (decide (x = 13))
def lnF (d : List UInt8) : List (List UInt8) := lnP d [] false
theorem lnP_no {t acc : List UInt8} (h : ¬ t.head? = some 10) (ah : Bool) : lnP t acc ah = lnP t acc false := by
  cases t with
  | nil => rfl
  | cons x u =>
    have hx : ¬ x = 10 := fun e => h (by rw [e]; rfl)
    unfold lnP
    rw [if_neg (fun e => hx e.2), if_neg (fun e => hx e.2)]
theorem lnP_eq (x : UInt8) (t acc : List UInt8) (ah : Bool) : lnP (x :: t) acc ah = if ah = true ∧ x = 10 then acc.dropLast :: lnP t [] false else lnP t (acc ++ [x]) (decide (x = 13)) := rfl
theorem lnP_end (t acc : List UInt8) : lnP (13 :: 10 :: t) acc false = acc :: lnP t [] false := by
  rw [lnP_eq, if_neg (fun e => by cases e.1), lnP_eq, if_pos ⟨by decide, rfl⟩]
  simp
theorem lnP_next (x : UInt8) (t acc : List UInt8) (h : ¬ (x = 13 ∧ t.head? = some 10)) : lnP (x :: t) acc false = lnP t (acc ++ [x]) false := by
  conv => lhs; unfold lnP
  rw [if_neg (fun e => by cases e.1)]
  by_cases hx : x = 13
  · exact lnP_no (fun e => h ⟨hx, e⟩) _
  · rw [decide_eq_false hx]
theorem lnP_last (x : UInt8) (acc : List UInt8) : lnP [x] acc false = [] := by
  unfold lnP
  rw [if_neg (fun e => by cases e.1)]
  rfl
theorem lnP_len : ∀ (l acc : List UInt8) (ah : Bool), 2 * (lnP l acc ah).length ≤ l.length + 1
  | [], _, _ => by simp [lnP]
  | x :: t, acc, ah => by
    unfold lnP
    split
    · cases t with
      | nil => simp [lnP]
      | cons y u =>
        have h1 : lnP (y :: u) [] false = lnP u [y] (decide (y = 13)) := by
          conv => lhs; unfold lnP
          rw [if_neg (fun e => by cases e.1)]
          rfl
        have := lnP_len u [y] (decide (y = 13))
        rw [h1]
        simp only [List.length_cons]; omega
    · have := lnP_len t (acc ++ [x]) (decide (x = 13)); simp only [List.length_cons]; omega
/-- What bytes ask for. -/
def asF (fam side : Int) (d : List UInt8) : List As := ((lnF d).take 8).filterMap (plF fam side)
set_option maxRecDepth 100000 in
theorem up_xor : ∀ c : UInt8, ((97 ≤ c.toNat ∧ c.toNat ≤ 122) ∨ (65 ≤ c.toNat ∧ c.toNat ≤ 90)) → upB (c ^^^ 32) = upB c := by
  intro c h
  have : ∀ n : Fin 256, ((97 ≤ n.val ∧ n.val ≤ 122) ∨ (65 ≤ n.val ∧ n.val ≤ 90)) → upB (UInt8.ofNat n.val ^^^ 32) = upB (UInt8.ofNat n.val) := by decide
  have e := this ⟨c.toNat, c.toNat_lt⟩ h
  simpa using e
/-- The sizes of a command's letters turn nothing. -/
theorem pl_sizes (fam : Int) (l m : List UInt8) (hl : l.length = m.length) (hd : l.drop 5 = m.drop 5) (hu : (l.take 5).map upB = (m.take 5).map upB) : plF fam 0 l = plF fam 0 m := by
  have b1 : behF hPORT l = behF hPORT m := by unfold behF; rw [show hPORT.length = 5 from rfl, hu, hd]
  have b2 : behF hEPRT l = behF hEPRT m := by unfold behF; rw [show hEPRT.length = 5 from rfl, hu, hd]
  unfold plF
  rw [hl]
  split
  · rfl
  · rw [if_pos rfl, if_pos rfl]
    unfold comF
    rw [b1, b2]
theorem place_some {a : Ad} {n : Int} {h : Bool} {q : As} (e : placeF a n h = some q) : q = ⟨6, a, n⟩ ∧ 1 ≤ n ∧ n ≤ 65535 ∧ h = true := by
  unfold placeF at e
  split at e
  · next hh => exact ⟨(Option.some.inj e).symm, hh.2.1, hh.2.2, hh.1⟩
  · cases e
theorem six_some {l : List UInt8} {q : As} (e : sixF l = some q) : 1 ≤ q.po ∧ q.po ≤ 65535 ∧ q.a.fam = 4 := by
  unfold sixF at e
  split at e
  · next h6 =>
    cases hq : qsGo (spl 44 l) [] with
    | none => rw [hq] at e; cases e
    | some b =>
      rw [hq] at e
      obtain ⟨rfl, h1, h2, _⟩ := place_some e
      have hl := qsGo_len _ _ _ hq
      refine ⟨h1, h2, ?_⟩
      have : (b.take 4).length = 4 := by simp at hl ⊢; omega
      simp only [fromB, this]
      rfl
  · cases e
theorem com_some {fam : Int} {l : List UInt8} {q : As} (e : comF fam l = some q) : 1 ≤ q.po ∧ q.po ≤ 65535 ∧ q.a.fam = fam ∧ ((l.take 5).map upB = hPORT ∨ (l.take 5).map upB = hEPRT) := by
  unfold comF at e
  split at e
  · next h =>
    obtain ⟨h1, h2, h3⟩ := six_some e
    exact ⟨h1, h2, by omega, .inl ((beh_iff _ _).1 h.1)⟩
  · split at e
    · next h =>
      unfold extF at e
      split at e
      · obtain ⟨rfl, h1, h2, h3⟩ := place_some e
        simp only [Bool.and_eq_true, decide_eq_true_eq] at h3
        exact ⟨h1, h2, h3.2, .inr ((beh_iff _ _).1 h)⟩
      · cases e
    · cases e
theorem ans_some {fam : Int} {l : List UInt8} {q : As} (e : ansF fam l = some q) : 1 ≤ q.po ∧ q.po ≤ 65535 ∧ l.head? = some 50 := by
  have hd : ∀ h : List UInt8, (∃ t, h = 50 :: t) → (l.take h.length).map upB = h → l.head? = some 50 := fun h ⟨t, ht⟩ e => by
    subst ht
    cases l with
    | nil => cases e
    | cons c u =>
      simp only [List.length_cons, List.take_succ_cons, List.map_cons, List.cons.injEq] at e
      rw [up_ne (by decide) c e.1]
      rfl
  unfold ansF at e
  split at e
  · next h =>
    obtain ⟨h1, h2, _⟩ := six_some e
    exact ⟨h1, h2, hd _ ⟨_, rfl⟩ ((beh_iff _ _).1 h.1)⟩
  · split at e
    · next h =>
      unfold porF at e
      obtain ⟨rfl, h1, h2, _⟩ := place_some e
      exact ⟨h1, h2, hd _ ⟨_, rfl⟩ ((beh_iff _ _).1 h)⟩
    · cases e
theorem pl_0 {fam : Int} {l : List UInt8} {q : As} (e : plF fam 0 l = some q) : 1 ≤ q.po ∧ q.po ≤ 65535 ∧ q.a.fam = fam ∧ ¬ l.head? = some 50 := by
  unfold plF at e
  split at e
  · cases e
  · rw [if_pos rfl] at e
    obtain ⟨h1, h2, h3, h4⟩ := com_some e
    refine ⟨h1, h2, h3, fun hh => ?_⟩
    cases l with
    | nil => cases hh
    | cons c u =>
      have : c = 50 := by simpa using hh
      subst this
      rcases h4 with h4 | h4
      · have := (List.cons.inj h4).1; revert this; decide
      · have := (List.cons.inj h4).1; revert this; decide
theorem pl_1 {fam : Int} {l : List UInt8} {q : As} (e : plF fam 1 l = some q) : 1 ≤ q.po ∧ q.po ≤ 65535 ∧ l.head? = some 50 := by
  unfold plF at e
  split at e
  · cases e
  · rw [if_neg (by decide), if_pos rfl] at e
    exact ans_some e
end Go.Proofs.YtnadfacbfcdkgaaDoor
