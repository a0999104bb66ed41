/- Texts joined: CkR -/
import Derived.Test.YtgppfkbapieneaaDoorCox21
namespace Go.Proofs.YtgppfkbapieneaaDoor
open Go.RowKit
set_option linter.unusedVariables false
set_option linter.unusedSimpArgs false
/-- An answer that tells whether something holds. -/
def Tells (e : Ending) (Q : Prop) : Prop := ∃ r, e = .returned (.bool r) ∧ (r = true ↔ Q)
theorem Tells.yes {Q : Prop} (h : Q) : Tells (.returned (.bool true)) Q := ⟨true, rfl, fun _ => h, fun _ => rfl⟩
theorem Tells.no {Q : Prop} (h : ¬ Q) : Tells (.returned (.bool false)) Q := ⟨false, rfl, fun e => (by cases e), fun e => absurd e h⟩
def RiseP (l : List Pt) : Prop := ∀ (i : Nat) (p q : Pt), l[i]? = some p → l[i + 1]? = some q → p.n < q.n
def RiseI (l : List Int) : Prop := (∀ x, l[0]? = some x → 0 ≤ x) ∧ ∀ (i : Nat) (x y : Int), l[i]? = some x → l[i + 1]? = some y → x < y
def RightK (K : List Int) (n : Nat) : Prop := ∀ x ∈ K, 0 ≤ x ∧ x < (n : Int)
def RightC (L : List Pt) (K : List Int) (S : List (List Int)) : Prop := L[0]? = some pt0 ∧ RiseP L ∧ K.length = L.length ∧ RightK K S.length ∧ ∀ s ∈ S, RiseI s
set_option maxRecDepth 100000 in
set_option maxHeartbeats 4000000 in
theorem compareI_any (a b : Int) (w : World) : Calls Tryd.prog 74 #[.int .i64 a, .int .i64 b] w fun e w' => e = .returned (.int .i64 (cmpU a b)) ∧ w' = w := by
  have hn : ∀ a : Int, Calls Tryd.prog 85 #[.int .i64 a] w fun e w' => e = .returned (.bool false) ∧ w' = w := fun a => by
    go_enter Tryd.func85, Tryd.ntmps85
    go_wp2
    all_goals go_ret
    all_goals (refine ⟨?_, rfl⟩; first | rfl | simp)
  have ka := hidW (hn a)
  have kb := hidW (hn b)
  clear hn
  unfold cmpU
  rcases Int.lt_trichotomy a b with h | h | h
  · rw [if_pos h]
    go_enter Tryd.func74, Tryd.ntmps74
    go_wp2_with (first | (go_at_call 85; refine Calls.mono ka.out ?_; rintro e w' ⟨rfl, rfl⟩) | (go_at_call 85; refine Calls.mono kb.out ?_; rintro e w' ⟨rfl, rfl⟩))
    all_goals go_ret
    all_goals exact ⟨rfl, rfl⟩
  · subst h
    rw [if_neg (by omega), if_neg (by omega)]
    have h1 : ¬ a < a := by omega
    go_enter Tryd.func74, Tryd.ntmps74
    go_wp2_with (first | (go_at_call 85; refine Calls.mono ka.out ?_; rintro e w' ⟨rfl, rfl⟩) | (go_at_call 85; refine Calls.mono kb.out ?_; rintro e w' ⟨rfl, rfl⟩))
    all_goals go_ret
    all_goals exact ⟨rfl, rfl⟩
  · have h1 : ¬ a < b := by omega
    rw [if_neg h1, if_pos h]
    go_enter Tryd.func74, Tryd.ntmps74
    go_wp2_with (first | (go_at_call 85; refine Calls.mono ka.out ?_; rintro e w' ⟨rfl, rfl⟩) | (go_at_call 85; refine Calls.mono kb.out ?_; rintro e w' ⟨rfl, rfl⟩))
    all_goals go_ret
    all_goals exact ⟨rfl, rfl⟩
theorem RowP.at_ {w : World} {a : Option Addr} {l : List Pt} (h : RowP w a l) {i : Nat} {p : Pt} (hi : l[i]? = some p) : ∃ b off, a = some ⟨b, off, none⟩ ∧ w.cell? ⟨b, off + i * 3, none⟩ = some (.int .u64 p.a) ∧ w.cell? ⟨b, off + i * 3 + 1, none⟩ = some (.int .u64 p.b) ∧ w.cell? ⟨b, off + i * 3 + 2, none⟩ = some (.int .u64 p.c) := by
  obtain ⟨b, off, h1, h2⟩ := h.cells i p hi
  exact ⟨b, off, h1, h2.2 0 _ rfl, h2.2 1 _ rfl, h2.2 2 _ rfl⟩
set_option maxRecDepth 100000 in
set_option maxHeartbeats 4000000 in
theorem risingP_any (a : Option Addr) (c : Nat) (l : List Pt) (w : World) (hs : l.length ≤ 17592186044416) (h : RowP w a l) :
    Calls Tryd.prog 47 #[.slice a l.length c, .func (.func 45) #[] #[]] w fun e w' => Tells e (RiseP l) ∧ Below w.heap.size w w' := by
  obtain ⟨N, hN⟩ : ∃ N, l.length = N := ⟨_, rfl⟩
  have HN : Hid (l.length = N) := hN
  have HR : Hid (RowP w a l) := h
  have hcf : ∀ args w, (callFunc 45 args).run Tryd.prog w = .ok (.enter 45 args) w := Tryd.call45
  have KO : Hid (∀ (p q : Pt) W, Calls Tryd.prog 45 #[.agg p.v, .agg q.v] W fun e w' => e = .returned (.int .i64 (ordP p q)) ∧ Below W.heap.size W w') := order_b
  rw [hN] at hs ⊢
  clear h hN
  go_enter Tryd.func47, Tryd.ntmps47
  go_wp2_with fail
  go_loopw [5] (fun i wr => ∃ (k : Nat), 1 ≤ k ∧ (k ≤ N ∨ k = 1) ∧ i = .int .i64 k ∧ Below w.heap.size w wr ∧ Hid (∀ (j : Nat) (p q : Pt), j + 1 < k → l[j]? = some p → l[j + 1]? = some q → p.n < q.n)) (fun i _ => N - (intOf i).toNat)
  case atStart => exact ⟨1, Nat.le_refl _, .inr rfl, rfl, Below.refl _ _, fun j p q hj => by omega⟩
  case round =>
    obtain ⟨k, hk1, hk, rfl, qb, qe⟩ := hrel
    by_cases hlt : k < N
    · have ik : (k : Int) < (N : Int) := by omega
      obtain ⟨q, hq⟩ : ∃ q, l[k]? = some q := ⟨_, List.getElem?_eq_getElem (by rw [HN.out]; exact hlt)⟩
      obtain ⟨p, hp⟩ : ∃ p, l[k - 1]? = some p := ⟨_, List.getElem?_eq_getElem (by rw [HN.out]; omega)⟩
      have HQ : Hid (l[k]? = some q) := hq
      have HP : Hid (l[k - 1]? = some p) := hp
      have hqo := HR.out.each q (List.mem_of_getElem? hq)
      have hpo := HR.out.each p (List.mem_of_getElem? hp)
      have HOR : Hid (ordP p q < 0 ↔ p.n < q.n) := ord_neg hpo hqo
      obtain ⟨b, off, ha, q0, q1, q2⟩ := (HR.out.low qb).at_ hq
      obtain ⟨b', off', ha', p0, p1, p2⟩ := (HR.out.low qb).at_ hp
      rw [ha] at ha'
      cases ha'
      subst ha
      have K1 : Hid _ := KO.out p q
      have hw1 : IntKind.i64.wrap ((k : Int) - 1) = ((k - 1 : Nat) : Int) := by simp [IntKind.wrap, IntKind.bits, IntKind.signed]; omega
      have hw2 : IntKind.i64.wrap ((k : Int) + 1) = ((k + 1 : Nat) : Int) := by simp [IntKind.wrap, IntKind.bits, IntKind.signed]; omega
      have hk2 : k - 1 < N := by omega
      generalize hX : ordP p q = X at HOR K1
      clear hX hq hp hqo hpo
      obtain ⟨pa, pb, pc⟩ := p
      obtain ⟨qa, qb', qc⟩ := q
      simp only at q0 q1 q2 p0 p1 p2
      have q0' := kept (below_drew wr) q0
      have q1' := kept (below_drew wr) q1
      have q2' := kept (below_drew wr) q2
      have p0' := kept (below_drew wr) p0
      have p1' := kept (below_drew wr) p1
      have p2' := kept (below_drew wr) p2
      have KD : Hid _ := K1.out wr.drew
      have HD : Hid (Below w.heap.size w wr.drew) := qb.drew
      go_wp2
      go_region_held3 (fun w'' => w''.cell? ⟨b, off + k * 3, none⟩ = some (.int .u64 qa) ∧ w''.cell? ⟨b, off + k * 3 + 1, none⟩ = some (.int .u64 qb') ∧ w''.cell? ⟨b, off + k * 3 + 2, none⟩ = some (.int .u64 qc) ∧ w''.cell? ⟨b, off + (k - 1) * 3, none⟩ = some (.int .u64 pa) ∧ w''.cell? ⟨b, off + (k - 1) * 3 + 1, none⟩ = some (.int .u64 pb) ∧ w''.cell? ⟨b, off + (k - 1) * 3 + 2, none⟩ = some (.int .u64 pc)) (first | exact ⟨q0', q1', q2', p0', p1', p2'⟩ | exact ⟨kept bb q0', kept bb q1', kept bb q2', kept bb p0', kept bb p1', kept bb p2'⟩ | go_keep) (first | (go_at_call 45; refine Calls.mono KD.out ?_; rintro e W2 ⟨rfl, bb⟩))
      have b2 := bel_tr HD.out bb
      clear q0 q1 q2 p0 p1 p2 q0' q1' q2' p0' p1' p2' bb KD K1
      by_cases hX : 0 ≤ X
      · have HF : Hid (¬ RiseP l) := fun hh => by
          have h3 := hh (k - 1) _ _ HP.out (by rw [show k - 1 + 1 = k by omega]; exact HQ.out)
          have := HOR.out.2 h3
          omega
        clear qe
        go_wp2
        go_ret
        exact ⟨Tells.no HF.out, b2⟩
      · have qe' : Hid (∀ (j : Nat) (p q : Pt), j + 1 < k + 1 → l[j]? = some p → l[j + 1]? = some q → p.n < q.n) := fun j p q hj hp hq => by
          by_cases e : j + 1 = k
          · have hj' : j = k - 1 := by omega
            subst hj'
            rw [HP.out] at hp
            rw [show k - 1 + 1 = k by omega, HQ.out] at hq
            cases hp
            cases hq
            exact HOR.out.1 (by omega)
          · exact qe.out j p q (by omega) hp hq
        clear qe
        go_wp2
        exact ⟨⟨k + 1, by omega, by omega, by first | rfl | (congr 1), b2, qe'⟩, by simp only [intOf]; omega⟩
    · have ik : ¬ (k : Int) < (N : Int) := by omega
      have HT : Hid (RiseP l) := fun j p q hp hq => by
        have h1 := (List.getElem?_eq_some_iff.1 hq).1
        have h2 := HN.out
        exact qe.out j p q (by omega) hp hq
      clear qe
      go_wp2
      go_ret
      exact ⟨Tells.yes HT.out, qb⟩
set_option maxRecDepth 100000 in
set_option maxHeartbeats 4000000 in
theorem risingI_any (a : Option Addr) (c : Nat) (l : List Int) (w : World) (h : RowI w a l) :
    Calls Tryd.prog 73 #[.slice a l.length c, .func (.func 74) #[] #[]] w fun e w' => Tells e (∀ (i : Nat) (x y : Int), l[i]? = some x → l[i + 1]? = some y → x < y) ∧ Below w.heap.size w w' := by
  have hs := h.small
  obtain ⟨N, hN⟩ : ∃ N, l.length = N := ⟨_, rfl⟩
  have HN : Hid (l.length = N) := hN
  have HR : Hid (RowI w a l) := h
  have hcf : ∀ args w, (callFunc 74 args).run Tryd.prog w = .ok (.enter 74 args) w := Tryd.call74
  have KO : Hid (∀ (p q : Int) W, Calls Tryd.prog 74 #[.int .i64 p, .int .i64 q] W fun e w' => e = .returned (.int .i64 (cmpU p q)) ∧ w' = W) := compareI_any
  rw [hN] at hs ⊢
  clear h hN
  go_enter Tryd.func73, Tryd.ntmps73
  go_wp2_with fail
  go_loopw [5] (fun i wr => ∃ (k : Nat), 1 ≤ k ∧ (k ≤ N ∨ k = 1) ∧ i = .int .i64 k ∧ Below w.heap.size w wr ∧ Hid (∀ (j : Nat) (p q : Int), j + 1 < k → l[j]? = some p → l[j + 1]? = some q → p < q)) (fun i _ => N - (intOf i).toNat)
  case atStart => exact ⟨1, Nat.le_refl _, .inr rfl, rfl, Below.refl _ _, fun j p q hj => by omega⟩
  case round =>
    obtain ⟨k, hk1, hk, rfl, qb, qe⟩ := hrel
    by_cases hlt : k < N
    · have ik : (k : Int) < (N : Int) := by omega
      obtain ⟨q, hq⟩ : ∃ q, l[k]? = some q := ⟨_, List.getElem?_eq_getElem (by rw [HN.out]; exact hlt)⟩
      obtain ⟨p, hp⟩ : ∃ p, l[k - 1]? = some p := ⟨_, List.getElem?_eq_getElem (by rw [HN.out]; omega)⟩
      have HQ : Hid (l[k]? = some q) := hq
      have HP : Hid (l[k - 1]? = some p) := hp
      have HOR : Hid (cmpU p q < 0 ↔ p < q) := by
        show _ ↔ _
        unfold cmpU
        split
        · simp [*]
        · split <;> constructor <;> intro x <;> omega
      obtain ⟨b, off, ha, hcs⟩ := (HR.out.below qb).cells (by rw [HN.out]; omega)
      have q0 := hcs k (by rw [HN.out]; omega)
      have p0 := hcs (k - 1) (by rw [HN.out]; omega)
      rw [show l.getD k 0 = q by simp [hq]] at q0
      rw [show l.getD (k - 1) 0 = p by simp [hp]] at p0
      subst ha
      have hw1 : IntKind.i64.wrap ((k : Int) - 1) = ((k - 1 : Nat) : Int) := by simp [IntKind.wrap, IntKind.bits, IntKind.signed]; omega
      have hw2 : IntKind.i64.wrap ((k : Int) + 1) = ((k + 1 : Nat) : Int) := by simp [IntKind.wrap, IntKind.bits, IntKind.signed]; omega
      have hk2 : k - 1 < N := by omega
      have KD : Hid _ := KO.out p q wr.drew
      generalize hX : cmpU p q = X at HOR KD
      clear hX hq hp hcs
      have q0' := kept (below_drew wr) q0
      have p0' := kept (below_drew wr) p0
      have HD : Hid (Below w.heap.size w wr.drew) := qb.drew
      go_wp2
      go_region_held3 (fun w'' => w''.cell? ⟨b, off + k, none⟩ = some (.int .i64 q) ∧ w''.cell? ⟨b, off + (k - 1), none⟩ = some (.int .i64 p)) (first | exact ⟨q0', p0'⟩ | go_keep) (first | (go_at_call 74; refine Calls.mono KD.out ?_; rintro e W2 ⟨rfl, rfl⟩))
      have b2 := HD.out
      clear q0 p0 q0' p0' KD
      by_cases hX : 0 ≤ X
      · have HF : Hid (¬ ∀ (i : Nat) (x y : Int), l[i]? = some x → l[i + 1]? = some y → x < y) := fun hh => by
          have h3 := hh (k - 1) _ _ HP.out (by rw [show k - 1 + 1 = k by omega]; exact HQ.out)
          have := HOR.out.2 h3
          omega
        clear qe
        go_wp2
        go_ret
        exact ⟨Tells.no HF.out, b2⟩
      · have qe' : Hid (∀ (j : Nat) (p q : Int), j + 1 < k + 1 → l[j]? = some p → l[j + 1]? = some q → p < q) := fun j p q hj hp hq => by
          by_cases e : j + 1 = k
          · have hj' : j = k - 1 := by omega
            subst hj'
            rw [HP.out] at hp
            rw [show k - 1 + 1 = k by omega, HQ.out] at hq
            cases hp
            cases hq
            exact HOR.out.1 (by omega)
          · exact qe.out j p q (by omega) hp hq
        clear qe
        go_wp2
        exact ⟨⟨k + 1, by omega, by omega, by first | rfl | (congr 1), b2, qe'⟩, by simp only [intOf]; omega⟩
    · have ik : ¬ (k : Int) < (N : Int) := by omega
      have HT : Hid (∀ (i : Nat) (x y : Int), l[i]? = some x → l[i + 1]? = some y → x < y) := fun j p q hp hq => by
        have h1 := (List.getElem?_eq_some_iff.1 hq).1
        have h2 := HN.out
        exact qe.out j p q (by omega) hp hq
      clear qe
      go_wp2
      go_ret
      exact ⟨Tells.yes HT.out, qb⟩
set_option maxRecDepth 100000 in
set_option maxHeartbeats 4000000 in
theorem rightClasses_any (a : Option Addr) (c n : Nat) (l : List Int) (w : World) (h : RowI w a l) :
    Calls Tryd.prog 48 #[.slice a l.length c, .int .i64 (n : Int)] w fun e w' => Tells e (RightK l n) ∧ Below w.heap.size w w' := by
  have hs := h.small
  obtain ⟨N, hN⟩ : ∃ N, l.length = N := ⟨_, rfl⟩
  have HN : Hid (l.length = N) := hN
  have HR : Hid (RowI w a l) := h
  rw [hN] at hs ⊢
  clear h hN
  go_enter Tryd.func48, Tryd.ntmps48
  go_wp2_with fail
  go_loopw [9] (fun i wr => ∃ (k : Nat), k ≤ N ∧ i = .int .i64 k ∧ Below w.heap.size w wr ∧ Hid (∀ (j : Nat) (x : Int), j < k → l[j]? = some x → 0 ≤ x ∧ x < (n : Int))) (fun i _ => N - (intOf i).toNat)
  case atStart => exact ⟨0, Nat.zero_le _, rfl, Below.refl _ _, fun j p hj => by omega⟩
  case round =>
    obtain ⟨k, hk, rfl, qb, qe⟩ := hrel
    by_cases hlt : k < N
    · have ik : (k : Int) < (N : Int) := by omega
      obtain ⟨x, hx⟩ : ∃ x, l[k]? = some x := ⟨_, List.getElem?_eq_getElem (by rw [HN.out]; exact hlt)⟩
      have HX : Hid (l[k]? = some x) := hx
      obtain ⟨b, off, ha, hcs⟩ := (HR.out.below qb).cells (by rw [HN.out]; omega)
      have q0 := hcs k (by rw [HN.out]; omega)
      rw [show l.getD k 0 = x by simp [hx]] at q0
      subst ha
      clear hcs hx
      by_cases h0 : x < 0
      · have HF : Hid (¬ RightK l n) := fun hh => by
          have := hh x (List.mem_of_getElem? HX.out)
          omega
        clear qe
        go_wp2
        go_ret
        exact ⟨Tells.no HF.out, qb⟩
      · by_cases h1 : (n : Int) ≤ x
        · have HF : Hid (¬ RightK l n) := fun hh => by
            have := hh x (List.mem_of_getElem? HX.out)
            omega
          clear qe
          go_wp2
          go_ret
          exact ⟨Tells.no HF.out, qb⟩
        · have qe' : Hid (∀ (j : Nat) (x : Int), j < k + 1 → l[j]? = some x → 0 ≤ x ∧ x < (n : Int)) := fun j y hj hy => by
            by_cases e : j = k
            · subst e
              rw [HX.out] at hy
              cases hy
              omega
            · exact qe.out j y (by omega) hy
          clear qe
          go_wp2
          exact ⟨⟨k + 1, by omega, by go_num, qb, qe'⟩, by simp [intOf]; omega⟩
    · have ik : ¬ (k : Int) < (N : Int) := by omega
      have HT : Hid (RightK l n) := fun x hx => by
        obtain ⟨j, hj⟩ := List.getElem?_of_mem hx
        have h1 := (List.getElem?_eq_some_iff.1 hj).1
        have h2 := HN.out
        exact qe.out j x (by omega) hj
      clear qe
      go_wp2
      go_ret
      exact ⟨Tells.yes HT.out, qb⟩
set_option maxRecDepth 100000 in
set_option maxHeartbeats 4000000 in
theorem rightSets_any (a : Option Addr) (c : Nat) (S : List (List Int)) (w : World) (h : RowS w a S) :
    Calls Tryd.prog 49 #[.slice a S.length c] w fun e w' => Tells e (∀ s ∈ S, RiseI s) ∧ Below w.heap.size w w' := by
  have hs := h.small
  obtain ⟨N, hN⟩ : ∃ N, S.length = N := ⟨_, rfl⟩
  have HN : Hid (S.length = N) := hN
  have HR : Hid (RowS w a S) := h
  rw [hN] at hs ⊢
  clear h hN
  go_enter Tryd.func49, Tryd.ntmps49
  go_wp2_with fail
  go_loopw [7] (fun i wr => ∃ (k : Nat), k ≤ N ∧ i = .int .i64 k ∧ Below w.heap.size w wr ∧ Hid (∀ (j : Nat) (s : List Int), j < k → S[j]? = some s → RiseI s)) (fun i _ => N - (intOf i).toNat)
  case atStart => exact ⟨0, Nat.zero_le _, rfl, Below.refl _ _, fun j p hj => by omega⟩
  case round =>
    obtain ⟨k, hk, rfl, qb, qe⟩ := hrel
    by_cases hlt : k < N
    · have ik : (k : Int) < (N : Int) := by omega
      obtain ⟨s, hs⟩ : ∃ s, S[k]? = some s := ⟨_, List.getElem?_eq_getElem (by rw [HN.out]; exact hlt)⟩
      have HX : Hid (S[k]? = some s) := hs
      obtain ⟨b, off, ai, ci, ha, q0, hri⟩ := (HR.out.below qb).cells k s hs
      subst ha
      have KR : Hid _ := risingI_any ai ci s wr hri
      have HF : Hid (¬ RiseI s → ¬ ∀ s ∈ S, RiseI s) := fun h1 h2 => h1 (h2 s (List.mem_of_getElem? HX.out))
      have HG : Hid (RiseI s → ∀ (j : Nat) (t : List Int), j < k + 1 → S[j]? = some t → RiseI t) := fun hr j y hj hy => by
        by_cases e : j = k
        · subst e
          rw [HX.out] at hy
          cases hy
          exact hr
        · exact qe.out j y (by omega) hy
      clear hs qe
      cases hsl : s with
      | nil =>
        subst hsl
        have HRI : Hid (RiseI [] ↔ ∀ (i : Nat) (x y : Int), ([] : List Int)[i]? = some x → ([] : List Int)[i + 1]? = some y → x < y) := ⟨fun h => h.2, fun h => ⟨fun x hx => by simp at hx, h⟩⟩
        simp only [List.length_nil] at q0 KR
        go_wp2_with fail
        refine Calls.mono KR.out ?_
        rintro e W2 ⟨⟨r, rfl, hr⟩, bb⟩
        have b2 := bel_tr qb bb
        cases r
        · have hf := HF.out (fun h => by have := hr.2 (HRI.out.1 h); cases this)
          have HF' : Hid (¬ ∀ s ∈ S, RiseI s) := hf
          clear hr hf bb
          go_wp2
          go_ret
          exact ⟨Tells.no HF'.out, b2⟩
        · have hg : Hid _ := HG.out (HRI.out.2 (hr.1 rfl))
          clear hr bb
          go_wp2
          exact ⟨⟨k + 1, by omega, by go_num, b2, hg⟩, by simp [intOf]; omega⟩
      | cons x t =>
        subst hsl
        obtain ⟨b', off', hai, hcs⟩ := hri.cells (by simp)
        have x0 := hcs 0 (by simp)
        rw [show (x :: t).getD 0 0 = x from rfl] at x0
        subst hai
        simp only [Nat.add_zero] at x0
        obtain ⟨n, hn⟩ : ∃ n, (x :: t).length = n := ⟨_, rfl⟩
        have hn0 : 0 < n := by rw [← hn]; simp
        have hn0' : (0 : Int) < (n : Int) := by omega
        rw [hn] at q0 KR
        clear hn hcs
        have HRI : Hid (0 ≤ x → (RiseI (x :: t) ↔ ∀ (i : Nat) (a b : Int), (x :: t)[i]? = some a → (x :: t)[i + 1]? = some b → a < b)) := fun h0 => ⟨fun h => h.2, fun h => ⟨fun y hy => by simp at hy; omega, h⟩⟩
        by_cases h0 : x < 0
        · have HF' : Hid (¬ ∀ s ∈ S, RiseI s) := HF.out (fun h => by have := h.1 x rfl; omega)
          go_wp2
          go_ret
          exact ⟨Tells.no HF'.out, qb⟩
        · have HRI' := HRI.out (by omega)
          have HH : Hid _ := HRI'
          clear HRI'
          go_wp2_with fail
          refine Calls.mono KR.out ?_
          rintro e W2 ⟨⟨r, rfl, hr⟩, bb⟩
          have b2 := bel_tr qb bb
          cases r
          · have hf := HF.out (fun h => by have := hr.2 (HH.out.1 h); cases this)
            have HF' : Hid (¬ ∀ s ∈ S, RiseI s) := hf
            clear hr hf bb
            go_wp2
            go_ret
            exact ⟨Tells.no HF'.out, b2⟩
          · have hg : Hid _ := HG.out (HH.out.2 (hr.1 rfl))
            clear hr bb
            go_wp2
            exact ⟨⟨k + 1, by omega, by go_num, b2, hg⟩, by simp [intOf]; omega⟩
    · have ik : ¬ (k : Int) < (N : Int) := by omega
      have HT : Hid (∀ s ∈ S, RiseI s) := fun x hx => by
        obtain ⟨j, hj⟩ := List.getElem?_of_mem hx
        have h1 := (List.getElem?_eq_some_iff.1 hj).1
        have h2 := HN.out
        exact qe.out j x (by omega) hj
      clear qe
      go_wp2
      go_ret
      exact ⟨Tells.yes HT.out, qb⟩
end Go.Proofs.YtgppfkbapieneaaDoor
