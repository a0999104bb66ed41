/- Texts joined: CkU -/
import Derived.Test.YtgppfkbapieneaaDoorCfx30
import Derived.Test.YtgppfkbapieneaaDoorCfx36
namespace Go.Proofs.YtgppfkbapieneaaDoor
open Go.RowKit
set_option linter.unusedVariables false
set_option linter.unusedSimpArgs false
/-- The pieces of rules, as numbers. -/
abbrev spns (l : List Rl) (d : Nat) : List Spn := l.map (·.piece d)
theorem upto_low {r : Rl} (ro : r.ok) (hr : r.right = true) (d : Nat) (hd : d < 7) (hz : r.any_ d = false) : (r.upto d).a ≤ 1000 := by
  obtain ⟨r1, r2, r3, r4, r5, r6, r7⟩ := Rl.right_all hr
  match d, hd, hz with
  | 0, _, hz => simp [Rl.upto, ptNum]
  | 1, _, hz => simp [Rl.upto, ptNum]
  | 2, _, hz => exact (lastAd_ok ro.s (net_right r3 hz)).2
  | 3, _, hz => exact (lastAd_ok ro.d (net_right r4 hz)).2
  | 4, _, hz => simp [Rl.upto, ptNum]
  | 5, _, hz => simp [Rl.upto, ptNum]
  | 6, _, hz => simp [Rl.upto, ptNum]
theorem upto_top {r : Rl} (ro : r.ok) (hr : r.right = true) (d : Nat) (hd : d < 7) : r.lst_ d = ptTop ↔ r.any_ d = true := by
  have h := piece_ok ro hr d hd
  cases hz : r.any_ d with
  | true => simp [Rl.lst_, hz]
  | false =>
    simp only [Bool.false_eq_true, iff_false]
    intro e
    rcases h.2.2 with h3 | h3
    · have h4 := (piece_ok ro hr d hd)
      have hl : r.lst_ d = r.upto d := by simp [Rl.lst_, hz]
      have hb := upto_low ro hr d hd hz
      rw [← hl, e] at hb
      simp [ptTop] at hb
    · rw [e] at h3
      simp [ptTop] at h3
theorem pt0_n : pt0.n = 0 := by simp [pt0, Pt.n]
theorem cut_starts {l : List Rl} {d : Nat} {L : List Pt} (hl : ∀ r ∈ l, r.ok ∧ r.right = true) (hd : d < 7) (hs : L.Pairwise fun p q => p.n < q.n) (hm : ∀ p, p ∈ L ↔ p ∈ rawC (pcs l d)) : L.map Pt.n = startsL (spns l d) ∧ ∀ p ∈ L, p.ok := by
  refine ⟨insS_nodup_unique (List.pairwise_map.2 hs) (starts_sorted _) (fun z => ?_), fun p hp => raw_ok (l := pcs l d) (fun q hq => ?_) (fun q hq => ?_) p ((hm p).1 hp)⟩
  · rw [starts_iff, List.mem_map]
    constructor
    · rintro ⟨p, hp, rfl⟩
      have hp' := (hm p).1 hp
      unfold rawC at hp'
      rcases List.mem_cons.1 hp' with rfl | hp'
      · exact .inl pt0_n
      · obtain ⟨q, hq, hp'⟩ := List.mem_flatMap.1 hp'
        unfold pcs at hq
        obtain ⟨r, hr, rfl⟩ := List.mem_map.1 hq
        obtain ⟨ro, hrr⟩ := hl r hr
        have hpo := piece_ok ro hrr d hd
        have ht := upto_top ro hrr d hd
        unfold rawS at hp'
        cases hz : r.any_ d with
        | true =>
          rw [if_pos (ht.2 hz)] at hp'
          simp only [List.mem_singleton] at hp'
          subst hp'
          left
          simp [Rl.fst_, hz, pt0_n]
        | false =>
          have hne : ¬ r.lst_ d = ptTop := fun e => by rw [ht.1 e] at hz; cases hz
          simp only [hne, if_false, List.mem_cons, List.not_mem_nil, or_false] at hp'
          refine .inr ⟨r.piece d, List.mem_map.2 ⟨r, hr, rfl⟩, hz, ?_⟩
          rcases hp' with rfl | rfl
          · left
            simp [Rl.fst_, hz, Rl.piece]
          · right
            rw [Pt.next_n hpo.2.1]
            simp [Rl.lst_, hz, Rl.piece]
    · rintro (rfl | ⟨sp, hsp, ha, hz⟩)
      · exact ⟨pt0, (hm pt0).2 (by simp [rawC]), pt0_n⟩
      · obtain ⟨r, hr, rfl⟩ := List.mem_map.1 hsp
        obtain ⟨ro, hrr⟩ := hl r hr
        have hpo := piece_ok ro hrr d hd
        have ht := upto_top ro hrr d hd
        have hz' : r.any_ d = false := ha
        have hne : ¬ r.lst_ d = ptTop := fun e => by rw [ht.1 e] at hz'; cases hz'
        have hmem : ∀ p, p ∈ rawS (r.fst_ d, r.lst_ d) → p ∈ L := fun p hp => (hm p).2 (by
          unfold rawC pcs
          exact List.mem_cons_of_mem _ (List.mem_flatMap.2 ⟨_, List.mem_map.2 ⟨r, hr, rfl⟩, hp⟩))
        rcases hz with rfl | rfl
        · refine ⟨r.fst_ d, hmem _ (by simp [rawS]), ?_⟩
          simp [Rl.fst_, hz', Rl.piece]
        · refine ⟨(r.lst_ d).next, hmem _ (by simp [rawS, hne]), ?_⟩
          rw [Pt.next_n hpo.2.1]
          simp [Rl.lst_, hz', Rl.piece]
  · unfold pcs at hq
    obtain ⟨r, hr, rfl⟩ := List.mem_map.1 hq
    have := piece_ok (hl r hr).1 (hl r hr).2 d hd
    exact ⟨this.1, this.2.1⟩
  · unfold pcs at hq
    obtain ⟨r, hr, rfl⟩ := List.mem_map.1 hq
    exact (piece_ok (hl r hr).1 (hl r hr).2 d hd).2.2
theorem ord_le {p q : Pt} (hp : p.ok) (hq : q.ok) : decide (ordP p q ≤ 0) = decide (p.n ≤ q.n) := by
  have := ord_pos hp hq
  rw [Bool.eq_iff_iff, decide_eq_true_eq, decide_eq_true_eq]
  omega
theorem hold_piece {r : Rl} (ro : r.ok) (hr : r.right = true) {d : Nat} (hd : d < 7) {x : Pt} (hx : x.ok) : holdB (r.fst_ d) (r.lst_ d) x = (r.piece d).holds x.n := by
  have hpo := piece_ok ro hr d hd
  unfold holdB Spn.holds
  rw [ord_le hpo.1 hx, ord_le hx hpo.2.1]
  cases hz : r.any_ d with
  | true =>
    have h1 := Pt.low hx
    have h2 := Pt.high hx
    simp [Rl.fst_, Rl.lst_, Rl.piece, hz, h1, h2]
  | false => simp [Rl.fst_, Rl.lst_, Rl.piece, hz]
theorem cut_set {l : List Rl} {d : Nat} (hl : ∀ r ∈ l, r.ok ∧ r.right = true) (hd : d < 7) {x : Pt} (hx : x.ok) : hset (pcs l d) x = setOf (spns l d) x.n := by
  unfold hset hsN setOf
  rw [show (pcs l d).length = (spns l d).length by simp [pcs, spns]]
  apply List.filter_congr
  intro i hi
  have hi' : i < l.length := by simpa [spns] using hi
  have hr := List.getElem_mem hi'
  simp only [pcs, spns, List.getElem?_map, List.getElem?_eq_getElem hi', Option.map_some, Option.getD_some]
  exact hold_piece (hl _ hr).1 (hl _ hr).2 hd hx
theorem cut_rows {l : List Rl} {d : Nat} {L : List Pt} (hl : ∀ r ∈ l, r.ok ∧ r.right = true) (hd : d < 7) (hn : L.map Pt.n = startsL (spns l d)) (hok : ∀ p ∈ L, p.ok) : L.map (hset (pcs l d)) = rowL (spns l d) := by
  unfold rowL
  rw [← hn, List.map_map]
  apply List.map_congr_left
  intro x hx
  exact cut_set hl hd (hok x hx)
theorem rise_ints {s : List Nat} (h : s.Pairwise (· < ·)) : RiseI (ints s) := by
  refine ⟨fun x hx => ?_, fun i x y hx hy => ?_⟩
  · rw [List.getElem?_map, Option.map_eq_some_iff] at hx
    obtain ⟨n, _, rfl⟩ := hx
    omega
  · rw [List.getElem?_map, Option.map_eq_some_iff] at hx hy
    obtain ⟨n, hn, rfl⟩ := hx
    obtain ⟨m, hm, rfl⟩ := hy
    obtain ⟨h1, h2⟩ := List.getElem?_eq_some_iff.1 hn
    obtain ⟨h3, h4⟩ := List.getElem?_eq_some_iff.1 hm
    have := List.pairwise_iff_getElem.1 h i (i + 1) h1 h3 (by omega)
    rw [h2, h4] at this
    omega
theorem cut_right {l : List Rl} {d : Nat} {L : List Pt} (hl : ∀ r ∈ l, r.ok ∧ r.right = true) (hd : d < 7) (hs : L.Pairwise fun p q => p.n < q.n) (hn : L.map Pt.n = startsL (spns l d)) (hok : ∀ p ∈ L, p.ok) : RightC L (ints (classL (rowL (spns l d)))) ((setsL (rowL (spns l d))).map ints) := by
  have hlen : L.length = (startsL (spns l d)).length := by rw [← hn, List.length_map]
  refine ⟨?_, fun i p q hp hq => ?_, ?_, fun x hx => ?_, fun s hs' => ?_⟩
  · have h0 := starts_head (pieces_ok hl d)
    rw [show l.map (·.piece d) = spns l d from rfl, ← hn, List.getElem?_map, Option.map_eq_some_iff] at h0
    obtain ⟨p, hp, he⟩ := h0
    rw [hp, Pt.n_inj (hok p (List.mem_of_getElem? hp)) pt0_ok (by rw [he, pt0_n])]
  · obtain ⟨h1, h2⟩ := List.getElem?_eq_some_iff.1 hp
    obtain ⟨h3, h4⟩ := List.getElem?_eq_some_iff.1 hq
    have := List.pairwise_iff_getElem.1 hs i (i + 1) h1 h3 (by omega)
    rw [h2, h4] at this
    exact this
  · rw [List.length_map, class_len, rowL, List.length_map, hlen]
  · obtain ⟨n, hn', rfl⟩ := List.mem_map.1 hx
    have := class_lt hn'
    rw [List.length_map]
    omega
  · obtain ⟨t, ht, rfl⟩ := List.mem_map.1 hs'
    have h1 := sets_mem ht
    unfold rowL at h1
    obtain ⟨z, _, rfl⟩ := List.mem_map.1 h1
    exact rise_ints (setOf_sorted _ _)
end Go.Proofs.YtgppfkbapieneaaDoor
