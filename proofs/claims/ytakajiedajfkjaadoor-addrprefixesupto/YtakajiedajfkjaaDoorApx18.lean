/- Texts joined: AtK -/
import Derived.Test.YtakajiedajfkjaaDoorApx17
namespace Go.Proofs.YtakajiedajfkjaaDoor
set_option linter.unusedVariables false
set_option linter.unusedSimpArgs false
theorem fromGo_bd : ∀ (b : List Int) (h l : Int), 0 ≤ h ∧ h ≤ 18446744073709551615 → 0 ≤ l ∧ l ≤ 18446744073709551615 → M.Bytes b →
    (0 ≤ (fromGo b h l).1 ∧ (fromGo b h l).1 ≤ 18446744073709551615) ∧ (0 ≤ (fromGo b h l).2 ∧ (fromGo b h l).2 ≤ 18446744073709551615)
  | [], h, l, h0, h1, _ => ⟨h0, h1⟩
  | x :: b, h, l, h0, h1, hb => by
    have hx := hb x (List.mem_cons_self ..)
    unfold fromGo
    exact fromGo_bd b _ _ (by omega) (by omega) (fun y hy => hb y (List.mem_cons_of_mem _ hy))
theorem fromB_ok (b : List Int) (hb : M.Bytes b) : Ad.ok (fromB b).1 ∧ ((fromB b).2 = 0 ∨ (fromB b).2 = 1) ∧ ((fromB b).2 = 0 → Ad.right (fromB b).1 = true) := by
  have hg := fromGo_bd b 0 0 (by omega) (by omega) hb
  unfold fromB
  by_cases h4 : b.length = 4
  · rw [if_pos h4]
    have hz := from4_hi b hb h4
    refine ⟨⟨by simp, hg.1, hg.2⟩, .inl rfl, fun _ => ?_⟩
    have hl : (fromGo b 0 0).2 / 4294967296 = 0 := by
      obtain ⟨b0, b1, b2, b3, rfl⟩ := list4 h4
      have h0 := hb b0 (by simp)
      have h1 := hb b1 (by simp)
      have h2 := hb b2 (by simp)
      have h3 := hb b3 (by simp)
      simp only [fromGo]
      omega
    simp [Ad.right, hz, hl]
  · rw [if_neg h4]
    by_cases h16 : b.length = 16
    · rw [if_pos h16]
      exact ⟨⟨by simp, hg.1, hg.2⟩, .inl rfl, fun _ => by simp [Ad.right]⟩
    · rw [if_neg h16]
      exact ⟨by unfold Ad.ok; decide, .inr rfl, fun h => by simp at h⟩
theorem parse_ok (s : List UInt8) : Ad.ok (parseB s).1 ∧ ((parseB s).2 = 0 ∨ (parseB s).2 = 1) ∧ ((parseB s).2 = 0 → Ad.right (parseB s).1 = true) := by
  rw [← rp_eq]
  unfold rp
  have key : ∀ o : Option (List Int), (∀ b, o = some b → M.Bytes b) → Ad.ok (match o with | some b => fromB b | none => (⟨0, 0, 0⟩, 1)).1 ∧ ((match o with | some b => fromB b | none => (⟨0, 0, 0⟩, 1)).2 = 0 ∨ (match o with | some b => fromB b | none => (⟨0, 0, 0⟩, 1)).2 = 1) ∧ ((match o with | some b => fromB b | none => (⟨0, 0, 0⟩, 1)).2 = 0 → Ad.right (match o with | some b => fromB b | none => (⟨0, 0, 0⟩, 1)).1 = true) := fun o h => by
    cases o with
    | none => exact ⟨by unfold Ad.ok; decide, .inr rfl, fun h => by simp at h⟩
    | some b => exact fromB_ok b (h b rfl)
  refine key _ fun b hb => ?_
  split at hb
  · unfold r6 at hb
    split at hb
    · split at hb
      · next a c h1 h2 =>
        split at hb
        · cases hb
        · have e := Option.some.inj hb
          rw [← e]
          exact ((rgs_bytes _ a h1).app (fun z hz => by have := List.eq_of_mem_replicate hz; omega)).app (rgs_bytes _ c h2)
      · cases hb
    · split at hb
      · next a h1 =>
        split at hb
        · have e := Option.some.inj hb
          rw [← e]
          exact rgs_bytes _ a h1
        · cases hb
      · cases hb
  · split at hb
    · exact qsGo_bytes _ _ _ M.Bytes.nil hb
    · cases hb
theorem full_prefix {a : Ad} (h : a.right = true) : a.rightPrefix a.width = true := by
  have hf : a.fits a.width = true := by
    unfold Ad.fits
    rw [h]
    unfold Ad.width
    split <;> simp
  unfold Ad.rightPrefix Ad.has
  rw [mask_good hf]
  have : a.masked a.width = a := by
    unfold Ad.masked
    have e1 : (64 - min (a.width + 128 - a.width) 64).toNat = 0 := by omega
    have e2 : (64 - max (a.width + 128 - a.width - 64) 0).toNat = 0 := by omega
    rw [e1, e2]
    simp [cutLow]
  rw [this]
  simp [Ad.same]
theorem fits_of2 {a : Ad} {n : Int} (h : a.rightPrefix n = true) : a.right = true ∧ 0 ≤ n ∧ n ≤ a.width := by
  unfold Ad.rightPrefix Ad.has at h
  cases hf : a.fits n with
  | false => rw [mask_bad hf] at h; simp at h
  | true => simpa [Ad.fits] using hf
theorem numGo_ge (M : Nat) : ∀ (l : List UInt8) (n v : Nat) (b : Bool), numGo M l n b = some v → n ≤ v
  | [], n, v, b, h => by simp [numGo] at h; omega
  | c :: cs, n, v, b, h => by
    unfold numGo at h
    split at h
    · cases h
    · split at h
      · cases h
      · have := numGo_ge M cs _ v true h; omega
theorem numGo_less (m M : Nat) (hmM : m ≤ M) : ∀ (l : List UInt8) (n : Nat) (b : Bool), numGo m l n b = match numGo M l n b with | some v => if n ≤ m → v ≤ m then (if n ≤ m ∨ l = [] then some v else numGo m l n b) else none | none => none := by
  intro l
  induction l with
  | nil => intro n b; simp [numGo]
  | cons c cs ih =>
    intro n b
    by_cases h1 : c.toNat < 48 ∨ 57 < c.toNat ∨ (b = true ∧ n = 0)
    · unfold numGo; simp only [if_pos h1]
    · by_cases hM : M < n * 10 + (c.toNat - 48)
      · have e : numGo M (c :: cs) n b = none := by unfold numGo; rw [if_neg h1, if_pos hM]
        rw [e]
        unfold numGo
        rw [if_neg h1, if_pos (by omega)]
      · have e : numGo M (c :: cs) n b = numGo M cs (n * 10 + (c.toNat - 48)) true := by conv => lhs; unfold numGo; rw [if_neg h1, if_neg hM]
        rw [e]
        cases hv : numGo M cs (n * 10 + (c.toNat - 48)) true with
        | none =>
          simp only
          have := ih (n * 10 + (c.toNat - 48)) true
          rw [hv] at this
          simp only at this
          unfold numGo
          rw [if_neg h1, this]
          split <;> rfl
        | some v =>
          have hge := numGo_ge M cs _ v true hv
          simp only
          by_cases hn : n ≤ m
          · by_cases hvm : v ≤ m
            · rw [if_pos (fun _ => hvm), if_pos (.inl hn)]
              have := ih (n * 10 + (c.toNat - 48)) true
              rw [hv] at this
              simp only at this
              rw [if_pos (fun _ => hvm), if_pos (.inl (by omega))] at this
              unfold numGo
              rw [if_neg h1, if_neg (by omega), this]
            · rw [if_neg (fun h => hvm (h hn))]
              unfold numGo
              rw [if_neg h1]
              by_cases hmn : m < n * 10 + (c.toNat - 48)
              · rw [if_pos hmn]
              · rw [if_neg hmn]
                have := ih (n * 10 + (c.toNat - 48)) true
                rw [hv] at this
                simp only at this
                rw [if_neg (fun h => hvm (h (by omega)))] at this
                exact this
          · rw [if_pos (fun h => absurd h hn), if_neg (by simp [hn])]
theorem num_less (m M : Nat) (hmM : m ≤ M) (s : List UInt8) : num m s = if (num M s).2 = true ∧ (num M s).1 ≤ m then num M s else (0, false) := by
  unfold num
  by_cases h0 : s = []
  · rw [if_pos h0, if_pos h0]; simp
  · rw [if_neg h0, if_neg h0, numGo_less m M hmM s 0 false]
    cases h : numGo M s 0 false with
    | none => simp [tell]
    | some v =>
      simp only [tell]
      by_cases hv : v ≤ m
      · rw [if_pos (fun _ => hv), if_pos (.inl (Nat.zero_le _)), if_pos ⟨by simp, by simp; omega⟩]
      · rw [if_neg (fun h => hv (h (Nat.zero_le _))), if_neg (by simp; omega)]
/-- A prefix of a text, as the program reads it. -/
def ppB (s : List UInt8) : (Ad × Int) × Int :=
  if (parseB (Lib.cut s [47]).1).2 = 0 then
    (if (Lib.cut s [47]).2.2 = true then
      (if (num (parseB (Lib.cut s [47]).1).1.width.toNat (Lib.cut s [47]).2.1).2 = true ∧ (parseB (Lib.cut s [47]).1).1.rightPrefix (num (parseB (Lib.cut s [47]).1).1.width.toNat (Lib.cut s [47]).2.1).1 = true
       then (((parseB (Lib.cut s [47]).1).1, (num (parseB (Lib.cut s [47]).1).1.width.toNat (Lib.cut s [47]).2.1).1), 0) else ((⟨0, 0, 0⟩, 0), 1))
     else (((parseB (Lib.cut s [47]).1).1, (parseB (Lib.cut s [47]).1).1.width), 0))
  else ((⟨0, 0, 0⟩, 0), 1)
/-- A prefix of a text, as the document reads it. -/
def rppB (L : List (List UInt8)) : (Ad × Int) × Int := match L with
  | [x] => if (parseB x).2 = 0 then (((parseB x).1, (parseB x).1.width), 0) else ((⟨0, 0, 0⟩, 0), 1)
  | [x, t] => if (parseB x).2 = 0 then (if (num 128 t).2 = true ∧ (parseB x).1.rightPrefix (num 128 t).1 = true then (((parseB x).1, (num 128 t).1), 0) else ((⟨0, 0, 0⟩, 0), 1)) else ((⟨0, 0, 0⟩, 0), 1)
  | _ => ((⟨0, 0, 0⟩, 0), 1)
theorem width_cases (a : Ad) : a.width = 32 ∨ a.width = 128 := by unfold Ad.width; split <;> simp
theorem rpp_eq (s : List UInt8) : rppB (spl 47 s) = ppB s := by
  by_cases h : (47 : UInt8) ∈ s
  · obtain ⟨x, t, rfl, hx⟩ := first_occ 47 s h
    have hc : Lib.cut (x ++ 47 :: t) [47] = (x, t, true) := by
      unfold Lib.cut
      rw [index_at 47 x t hx, if_pos (by omega)]
      simp
    unfold ppB
    rw [spl_app 47 x t hx, hc]
    simp only
    by_cases ht : (47 : UInt8) ∈ t
    · obtain ⟨y, u, rfl, hy⟩ := first_occ 47 t ht
      rw [spl_app 47 y u hy]
      have hb : num (parseB x).1.width.toNat (y ++ 47 :: u) = (0, false) := num_bad _ 47 (by decide) _ (by simp)
      rw [hb]
      cases hs : spl 47 u with
      | nil => exact absurd hs (spl_ne 47 u)
      | cons z zs => simp [rppB]
    · rw [spl_none 47 t ht]
      show (if (parseB x).2 = 0 then _ else _) = _
      by_cases he : (parseB x).2 = 0
      · rw [if_pos he, if_pos he, if_pos trivial]
        have hw := width_cases (parseB x).1
        rw [num_less (parseB x).1.width.toNat 128 (by omega) t]
        by_cases h1 : (num 128 t).2 = true ∧ (num 128 t).1 ≤ ((parseB x).1.width.toNat : Int)
        · rw [if_pos h1]
        · rw [if_neg h1, if_neg, if_neg (by simp)]
          rintro ⟨h2, h3⟩
          have := fits_of2 h3
          exact h1 ⟨h2, by omega⟩
      · rw [if_neg he, if_neg he]
  · have hc : Lib.cut s [47] = (s, [], false) := by
      unfold Lib.cut
      rw [index_none 47 s h]
      rfl
    unfold ppB
    rw [spl_none 47 s h, hc]
    simp [rppB]
end Go.Proofs.YtakajiedajfkjaaDoor
