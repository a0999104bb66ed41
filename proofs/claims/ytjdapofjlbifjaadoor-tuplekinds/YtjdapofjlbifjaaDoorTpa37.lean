/- Texts joined: TuJ -/
import Derived.Test.YtjdapofjlbifjaaDoorTpa36
namespace Go.Proofs.YtjdapofjlbifjaaDoor
open Go.RowKit
set_option linter.unusedVariables false
set_option linter.unusedSimpArgs false
abbrev pfv (p : Ad × Int) : Array Value := #[.int .i64 p.1.fam, .int .u64 p.1.hi, .int .u64 p.1.lo, .int .i64 p.2]
def oneB (ps : List (Ad × Int)) (a : Ad) : Bool := ps.any fun p => p.1.has p.2 a
set_option maxRecDepth 100000 in
set_option maxHeartbeats 2000000 in
theorem oneHas_t (f h l : Int) (b c : Nat) (ps : List (Ad × Int)) (w : World) (ho : Ad.ok ⟨f, h, l⟩) (hl : ps.length ≤ 1000) (hc : ∀ (i : Nat) p, ps[i]? = some p → CellsAt w b (i * 4) (pfv p)) :
    Calls Tryd.prog 35 #[.agg #[.int .i64 f, .int .u64 h, .int .u64 l], .slice (some ⟨b, 0, none⟩) ps.length c] w fun e w' => e = .returned (.bool (oneB ps ⟨f, h, l⟩)) ∧ Below w.heap.size w w' := by
  have K1 : Hid (∀ (p : Ad × Int) W, Calls Tryd.prog 46 #[.agg (pfv p), .agg #[.int .i64 f, .int .u64 h, .int .u64 l]] W fun e w' => e = .returned (.bool (p.1.has p.2 ⟨f, h, l⟩)) ∧ Below W.heap.size W w') := fun p W => has_any p.1.fam p.1.hi p.1.lo p.2 f h l W ho
  obtain ⟨F, hF⟩ : ∃ F, oneB ps ⟨f, h, l⟩ = F := ⟨_, rfl⟩
  have HF : Hid (oneB ps ⟨f, h, l⟩ = F) := hF
  rw [hF]
  obtain ⟨N, hN⟩ : ∃ N, ps.length = N := ⟨_, rfl⟩
  have HN : Hid (ps.length = N) := hN
  rw [hN] at hl ⊢
  have HC : Hid (∀ (i : Nat) p, ps[i]? = some p → CellsAt w b (i * 4) (pfv p)) := hc
  clear hF hN hc ho
  obtain ⟨W1, hW1⟩ : ∃ W1, w.alloc (.cells #[.int .i64 f, .int .u64 h, .int .u64 l] 24) = W1 := ⟨_, rfl⟩
  have b1 := bel_nw hW1
  have A1 := blk_nw hW1
  go_enter Tryd.func35, Tryd.ntmps35
  go_wp2_with fail
  have HW1 : Hid _ := hW1
  clear hW1
  go_loopw [9] (fun i wr => ∃ (n : Nat), n ≤ N ∧ i = .int .i64 n ∧ Below W1.heap.size W1 wr ∧ Hid (∀ (j : Nat) p, j < n → ps[j]? = some p → p.1.has p.2 ⟨f, h, l⟩ = false)) (fun i _ => N - (intOf i).toNat)
  case atStart => exact ⟨0, Nat.zero_le _, rfl, Below.refl _ _, fun j p hj => by omega⟩
  case round =>
    obtain ⟨n, hn, rfl, bw, qe⟩ := hrel
    by_cases hlt : n < N
    · have ik : (n : Int) < (N : Int) := by omega
      have in0 : (0 : Int) ≤ (n : Int) := by omega
      obtain ⟨p, hp⟩ : ∃ p, ps[n]? = some p := ⟨_, List.getElem?_eq_getElem (by rw [HN.out]; exact hlt)⟩
      have HP : Hid (ps[n]? = some p) := hp
      have hc := ((HC.out n p hp).below b1).below bw
      have A2 := A1.kept bw
      have c0 := A2.cell 0 (.int .i64 f) rfl
      have c1 := A2.cell 1 (.int .u64 h) rfl
      have c2 := A2.cell 2 (.int .u64 l) rfl
      have d0 : wr.cell? ⟨b, n * 4, none⟩ = some (.int .i64 p.1.fam) := hc.2 0 (.int .i64 p.1.fam) rfl
      have d1 := hc.2 1 (.int .u64 p.1.hi) rfl
      have d2 := hc.2 2 (.int .u64 p.1.lo) rfl
      have d3 := hc.2 3 (.int .i64 p.2) rfl
      have hbl := hc.1
      have hwl := A2.lt
      clear hp hc A2
      obtain ⟨R, hR⟩ : ∃ R, p.1.has p.2 ⟨f, h, l⟩ = R := ⟨_, rfl⟩
      have KP : Hid _ := K1.out p
      rw [hR] at KP
      have HR : Hid (p.1.has p.2 ⟨f, h, l⟩ = R) := hR
      clear hR
      go_wp2_with fail
      refine (KP.out _).mono ?_
      rintro e W3 ⟨rfl, bb⟩
      have bw3 := bel_tr (bw.alloc bw.size (.cells (pfv p) 49)) bb
      clear KP bb
      cases R with
      | true =>
        have eF : F = true := by
          rw [← HF.out]
          exact List.any_eq_true.2 ⟨p, List.mem_of_getElem? HP.out, HR.out⟩
        subst eF
        go_wp2_with fail
        go_ret
        exact ⟨rfl, bel_tr b1 bw3⟩
      | false =>
        have HQ : Hid (∀ (j : Nat) p, j < n + 1 → ps[j]? = some p → p.1.has p.2 ⟨f, h, l⟩ = false) := fun j q hj hq => by
          by_cases e : j = n
          · subst e
            rw [HP.out] at hq
            cases hq
            exact HR.out
          · exact qe.out j q (by omega) hq
        clear qe
        go_wp2_with fail
        exact ⟨⟨n + 1, by omega, by go_num, bw3, HQ⟩, by simp [intOf]; omega⟩
    · have eF : F = false := by
        rw [← HF.out]
        refine Bool.eq_false_iff.2 fun e => ?_
        obtain ⟨p, hp, h2⟩ := List.any_eq_true.1 e
        obtain ⟨j, hj⟩ := List.getElem?_of_mem hp
        have hjl := (List.getElem?_eq_some_iff.1 hj).1
        rw [HN.out] at hjl
        rw [qe.out j p (by omega) hj] at h2
        cases h2
      subst eF
      have en : n = N := by omega
      subst en
      go_wp2_with fail
      go_ret
      exact ⟨rfl, bel_tr b1 bw⟩
theorem four_at {W : World} {b : Nat} {t : TypeId} {cs : Array Value} (hb : Blk W b t cs) (k : Nat) (x0 x1 x2 x3 : Value) (h0 : cs[k]? = some x0) (h1 : cs[k + 1]? = some x1) (h2 : cs[k + 2]? = some x2) (h3 : cs[k + 3]? = some x3) : CellsAt W b k #[x0, x1, x2, x3] :=
  ⟨hb.lt, fun j v hv => by
    match j, hv with
    | 0, hv => exact hb.cell _ _ (h0.trans hv)
    | 1, hv => exact hb.cell _ _ (h1.trans hv)
    | 2, hv => exact hb.cell _ _ (h2.trans hv)
    | 3, hv => exact hb.cell _ _ (h3.trans hv)
    | j + 4, hv => simp at hv⟩
def manyP : List (Ad × Int) := [(⟨4, 0, 3758096384⟩, 4), (⟨4, 0, 4294967295⟩, 32), (⟨6, 18374686479671623680, 0⟩, 8)]
def hostP : List (Ad × Int) := [(⟨4, 0, 2130706432⟩, 8), (⟨4, 0, 0⟩, 8), (⟨6, 0, 1⟩, 128), (⟨6, 0, 0⟩, 128)]
set_option maxRecDepth 100000 in
set_option maxHeartbeats 2000000 in
theorem many_t (f h l : Int) (w : World) (ho : Ad.ok ⟨f, h, l⟩) :
    Calls Tryd.prog 20 #[.agg #[.int .i64 f, .int .u64 h, .int .u64 l]] w fun e w' => e = .returned (.bool (oneB manyP ⟨f, h, l⟩)) ∧ Below w.heap.size w w' := by
  have K1 : Hid (∀ (b : Nat) W, (∀ (i : Nat) p, manyP[i]? = some p → CellsAt W b (i * 4) (pfv p)) → Calls Tryd.prog 35 #[.agg #[.int .i64 f, .int .u64 h, .int .u64 l], .slice (some ⟨b, 0, none⟩) 3 3] W _) := fun b W hc => oneHas_t f h l b 3 manyP W ho (by decide) hc
  generalize oneB manyP ⟨f, h, l⟩ = R at *
  clear ho
  go_enter Tryd.func20, Tryd.ntmps20
  go_wp2_with fail
  have hb := blk_two w (.cells #[.int .i64 f, .int .u64 h, .int .u64 l] 24) #[.int .i64 4, .int .u64 0, .int .u64 3758096384, .int .i64 4, .int .i64 4, .int .u64 0, .int .u64 4294967295, .int .i64 32, .int .i64 6, .int .u64 18374686479671623680, .int .u64 0, .int .i64 8] 49
  have bb := bel_two w (.cells #[.int .i64 f, .int .u64 h, .int .u64 l] 24) (.cells #[.int .i64 4, .int .u64 0, .int .u64 3758096384, .int .i64 4, .int .i64 4, .int .u64 0, .int .u64 4294967295, .int .i64 32, .int .i64 6, .int .u64 18374686479671623680, .int .u64 0, .int .i64 8] 49)
  refine (K1.out _ _ (fun i p hp => ?_)).mono ?_
  · match i, hp with
    | 0, hp => obtain rfl := Option.some.inj hp; exact four_at hb 0 _ _ _ _ rfl rfl rfl rfl
    | 1, hp => obtain rfl := Option.some.inj hp; exact four_at hb 4 _ _ _ _ rfl rfl rfl rfl
    | 2, hp => obtain rfl := Option.some.inj hp; exact four_at hb 8 _ _ _ _ rfl rfl rfl rfl
    | j + 3, hp => simp [manyP] at hp
  · rintro e w2 ⟨rfl, b2⟩
    clear K1
    go_wp2_with fail
    go_ret
    exact ⟨rfl, bel_tr bb b2⟩
set_option maxRecDepth 100000 in
set_option maxHeartbeats 2000000 in
theorem host_t (f h l : Int) (w : World) (ho : Ad.ok ⟨f, h, l⟩) :
    Calls Tryd.prog 22 #[.agg #[.int .i64 f, .int .u64 h, .int .u64 l]] w fun e w' => e = .returned (.bool (oneB hostP ⟨f, h, l⟩)) ∧ Below w.heap.size w w' := by
  have K1 : Hid (∀ (b : Nat) W, (∀ (i : Nat) p, hostP[i]? = some p → CellsAt W b (i * 4) (pfv p)) → Calls Tryd.prog 35 #[.agg #[.int .i64 f, .int .u64 h, .int .u64 l], .slice (some ⟨b, 0, none⟩) 4 4] W _) := fun b W hc => oneHas_t f h l b 4 hostP W ho (by decide) hc
  generalize oneB hostP ⟨f, h, l⟩ = R at *
  clear ho
  go_enter Tryd.func22, Tryd.ntmps22
  go_wp2_with fail
  have hb := blk_two w (.cells #[.int .i64 f, .int .u64 h, .int .u64 l] 24) #[.int .i64 4, .int .u64 0, .int .u64 2130706432, .int .i64 8, .int .i64 4, .int .u64 0, .int .u64 0, .int .i64 8, .int .i64 6, .int .u64 0, .int .u64 1, .int .i64 128, .int .i64 6, .int .u64 0, .int .u64 0, .int .i64 128] 49
  have bb := bel_two w (.cells #[.int .i64 f, .int .u64 h, .int .u64 l] 24) (.cells #[.int .i64 4, .int .u64 0, .int .u64 2130706432, .int .i64 8, .int .i64 4, .int .u64 0, .int .u64 0, .int .i64 8, .int .i64 6, .int .u64 0, .int .u64 1, .int .i64 128, .int .i64 6, .int .u64 0, .int .u64 0, .int .i64 128] 49)
  refine (K1.out _ _ (fun i p hp => ?_)).mono ?_
  · match i, hp with
    | 0, hp => obtain rfl := Option.some.inj hp; exact four_at hb 0 _ _ _ _ rfl rfl rfl rfl
    | 1, hp => obtain rfl := Option.some.inj hp; exact four_at hb 4 _ _ _ _ rfl rfl rfl rfl
    | 2, hp => obtain rfl := Option.some.inj hp; exact four_at hb 8 _ _ _ _ rfl rfl rfl rfl
    | 3, hp => obtain rfl := Option.some.inj hp; exact four_at hb 12 _ _ _ _ rfl rfl rfl rfl
    | j + 4, hp => simp [hostP] at hp
  · rintro e w2 ⟨rfl, b2⟩
    clear K1
    go_wp2_with fail
    go_ret
    exact ⟨rfl, bel_tr bb b2⟩
/-- The highest byte of an address. -/
def Ad.top (a : Ad) : Int := if a.fam = 4 then a.lo / 16777216 else a.hi / 72057594037927936
def manyB (a : Ad) : Bool := a.right && (if a.fam = 6 then a.top == 255 else (decide (224 ≤ a.top) && decide (a.top < 240)) || a.lo == 4294967295)
def hostB (a : Ad) : Bool := a.right && (if a.fam = 6 then a.hi == 0 && decide (a.lo ≤ 1) else a.top == 127 || a.top == 0)
theorem fits_of2'' {a : Ad} {n : Int} (h : a.fits n = true) : a.right = true := by
  unfold Ad.fits at h
  rw [Bool.and_eq_true] at h
  exact h.1
theorem has_four {p : Int} {n : Int} {a : Ad} (ha : a.ok) (h0 : 0 ≤ n) (h1 : n ≤ 32) : Ad.has ⟨4, 0, p⟩ n a = true ↔ a.right = true ∧ a.fam = 4 ∧ cutLow a.lo (32 - n).toNat = p := by
  rw [has_iff]
  constructor
  · rintro ⟨e1, e2⟩
    have hf : a.fam = 4 := congrArg Ad.fam e2
    have hr := (fits_of2'' e1)
    have hw : a.width = 32 := by unfold Ad.width; rw [if_pos hf]
    have h3 : cutLow a.lo (64 - max (n + 128 - a.width - 64) 0).toNat = p := congrArg Ad.lo e2
    rw [hw] at h3
    refine ⟨hr, hf, ?_⟩
    rw [← h3]
    congr 2
    omega
  · rintro ⟨hr, hf, e⟩
    have hw : a.width = 32 := by unfold Ad.width; rw [if_pos hf]
    have hh : a.hi = 0 := by unfold Ad.right at hr; rw [if_pos hf] at hr; simp at hr; exact hr.1
    refine ⟨by unfold Ad.fits; rw [hr, hw, decide_eq_true h0, decide_eq_true h1]; rfl, ?_⟩
    unfold Ad.masked
    rw [hw, hf, hh, ← e]
    congr 1
    · unfold cutLow; simp
    · congr 2
      omega
theorem has_six {p q : Int} {n : Int} {a : Ad} (ha : a.ok) (h0 : 0 ≤ n) (h1 : n ≤ 128) : Ad.has ⟨6, p, q⟩ n a = true ↔ a.fam = 6 ∧ cutLow a.hi (64 - min n 64).toNat = p ∧ cutLow a.lo (64 - max (n - 64) 0).toNat = q := by
  rw [has_iff]
  have hw : a.fam = 6 → a.width = 128 := fun hf => by unfold Ad.width; rw [if_neg (by omega)]
  constructor
  · rintro ⟨e1, e2⟩
    have hf : a.fam = 6 := congrArg Ad.fam e2
    have h3 : cutLow a.hi (64 - min (n + 128 - a.width) 64).toNat = p := congrArg Ad.hi e2
    have h4 : cutLow a.lo (64 - max (n + 128 - a.width - 64) 0).toNat = q := congrArg Ad.lo e2
    rw [hw hf] at h3 h4
    refine ⟨hf, ?_, ?_⟩
    · rw [← h3]; congr 3; omega
    · rw [← h4]; congr 3; omega
  · rintro ⟨hf, e3, e4⟩
    have hr : a.right = true := by unfold Ad.right; rw [if_neg (by omega)]; simpa using hf
    refine ⟨by unfold Ad.fits; rw [hr, hw hf, decide_eq_true h0, decide_eq_true h1]; rfl, ?_⟩
    unfold Ad.masked
    rw [hw hf, hf, ← e3, ← e4]
    congr 1
    · congr 3; omega
    · congr 3; omega
theorem right_cases {a : Ad} (h : a.right = true) : a.fam = 4 ∧ a.hi = 0 ∧ a.lo / 4294967296 = 0 ∨ a.fam = 6 := by
  unfold Ad.right at h
  by_cases hf : a.fam = 4
  · rw [if_pos hf] at h; simp at h; exact .inl ⟨hf, h.1, h.2⟩
  · rw [if_neg hf] at h; exact .inr (by simpa using h)
theorem many_eq {a : Ad} (ha : a.ok) : oneB manyP a = manyB a := by
  obtain ⟨_, ⟨h0, h1⟩, l0, l1⟩ := ha
  have e1 := has_four (p := 3758096384) (n := 4) ⟨‹_›, ⟨h0, h1⟩, l0, l1⟩ (by omega) (by omega)
  have e2 := has_four (p := 4294967295) (n := 32) ⟨‹_›, ⟨h0, h1⟩, l0, l1⟩ (by omega) (by omega)
  have e3 := has_six (p := 18374686479671623680) (q := 0) (n := 8) ⟨‹_›, ⟨h0, h1⟩, l0, l1⟩ (by omega) (by omega)
  have x1 : cutLow a.lo (32 - 4 : Int).toNat = a.lo / 268435456 * 268435456 := rfl
  have x2 : cutLow a.lo (32 - 32 : Int).toNat = a.lo / 1 * 1 := rfl
  have x3 : cutLow a.hi (64 - min 8 64 : Int).toNat = a.hi / 72057594037927936 * 72057594037927936 := rfl
  have x4 : cutLow a.lo (64 - max (8 - 64) 0 : Int).toNat = a.lo / 18446744073709551616 * 18446744073709551616 := rfl
  rw [x1] at e1
  rw [x2] at e2
  rw [x3, x4] at e3
  rw [Bool.eq_iff_iff]
  show (_ || (_ || (_ || false))) = true ↔ _
  simp only [Bool.or_eq_true, e1, e2, e3, manyB, Bool.and_eq_true, Bool.or_false]
  constructor
  · rintro (⟨hr, hf, e⟩ | ⟨hr, hf, e⟩ | ⟨hf, e, _⟩)
    · refine ⟨hr, ?_⟩
      rw [if_neg (by omega)]
      simp [Ad.top, hf]; omega
    · refine ⟨hr, ?_⟩
      rw [if_neg (by omega)]
      simp [Ad.top, hf]; omega
    · refine ⟨by unfold Ad.right; rw [if_neg (by omega)]; simpa using hf, ?_⟩
      rw [if_pos hf]
      simp [Ad.top, hf]; omega
  · rintro ⟨hr, h⟩
    rcases right_cases hr with ⟨hf, _, hl⟩ | hf
    · rw [if_neg (by omega)] at h
      simp [Ad.top, hf] at h
      rcases h with h | h
      · exact .inl ⟨hr, hf, by omega⟩
      · exact .inr (.inl ⟨hr, hf, by omega⟩)
    · rw [if_pos hf] at h
      simp [Ad.top, hf] at h
      exact .inr (.inr ⟨hf, by omega, by omega⟩)
theorem host_eq {a : Ad} (ha : a.ok) : oneB hostP a = hostB a := by
  obtain ⟨_, ⟨h0, h1⟩, l0, l1⟩ := ha
  have e1 := has_four (p := 2130706432) (n := 8) ⟨‹_›, ⟨h0, h1⟩, l0, l1⟩ (by omega) (by omega)
  have e2 := has_four (p := 0) (n := 8) ⟨‹_›, ⟨h0, h1⟩, l0, l1⟩ (by omega) (by omega)
  have e3 := has_six (p := 0) (q := 1) (n := 128) ⟨‹_›, ⟨h0, h1⟩, l0, l1⟩ (by omega) (by omega)
  have e4 := has_six (p := 0) (q := 0) (n := 128) ⟨‹_›, ⟨h0, h1⟩, l0, l1⟩ (by omega) (by omega)
  have x1 : cutLow a.lo (32 - 8 : Int).toNat = a.lo / 16777216 * 16777216 := rfl
  have x3 : cutLow a.hi (64 - min 128 64 : Int).toNat = a.hi / 1 * 1 := rfl
  have x4 : cutLow a.lo (64 - max (128 - 64) 0 : Int).toNat = a.lo / 1 * 1 := rfl
  rw [x1] at e1 e2
  rw [x3, x4] at e3 e4
  rw [Bool.eq_iff_iff]
  show (_ || (_ || (_ || (_ || false)))) = true ↔ _
  simp only [Bool.or_eq_true, e1, e2, e3, e4, hostB, Bool.and_eq_true, Bool.or_false]
  constructor
  · rintro (⟨hr, hf, e⟩ | ⟨hr, hf, e⟩ | ⟨hf, e, e'⟩ | ⟨hf, e, e'⟩)
    · refine ⟨hr, ?_⟩
      rw [if_neg (by omega)]
      simp [Ad.top, hf]; omega
    · refine ⟨hr, ?_⟩
      rw [if_neg (by omega)]
      simp [Ad.top, hf]; omega
    · refine ⟨by unfold Ad.right; rw [if_neg (by omega)]; simpa using hf, ?_⟩
      rw [if_pos hf]
      simp; omega
    · refine ⟨by unfold Ad.right; rw [if_neg (by omega)]; simpa using hf, ?_⟩
      rw [if_pos hf]
      simp; omega
  · rintro ⟨hr, h⟩
    rcases right_cases hr with ⟨hf, _, hl⟩ | hf
    · rw [if_neg (by omega)] at h
      simp [Ad.top, hf] at h
      rcases h with h | h
      · exact .inl ⟨hr, hf, by omega⟩
      · exact .inr (.inl ⟨hr, hf, by omega⟩)
    · rw [if_pos hf] at h
      simp at h
      by_cases e : a.lo = 1
      · exact .inr (.inr (.inl ⟨hf, by omega, by omega⟩))
      · exact .inr (.inr (.inr ⟨hf, by omega, by omega⟩))
theorem not_both (a : Ad) : (manyB a && hostB a) = false := by
  rw [Bool.eq_false_iff]
  intro h
  simp only [Bool.and_eq_true, manyB, hostB] at h
  obtain ⟨⟨hr, h1⟩, _, h2⟩ := h
  rcases right_cases hr with ⟨hf, _, hl⟩ | hf
  · rw [if_neg (by omega)] at h1 h2
    simp [Ad.top, hf] at h1 h2
    omega
  · rw [if_pos hf] at h1 h2
    simp [Ad.top, hf] at h1 h2
    omega
end Go.Proofs.YtjdapofjlbifjaaDoor
