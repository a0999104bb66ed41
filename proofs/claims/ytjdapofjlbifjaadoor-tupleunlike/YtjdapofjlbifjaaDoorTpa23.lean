/- Texts joined: AtH -/
import Derived.Test.YtjdapofjlbifjaaDoorTpa22
namespace Go.Proofs.YtjdapofjlbifjaaDoor
open Go.RowKit
set_option linter.unusedVariables false
set_option linter.unusedSimpArgs false
/-- A number's digits in a base, ahead of others. -/
def dgF (b : Nat) : Nat → Nat → List UInt8 → List UInt8
  | 0, _, acc => acc
  | f + 1, n, acc => if n / b = 0 then hexd (n % b) :: acc else dgF b f (n / b) (hexd (n % b) :: acc)
theorem hexd_dec (d : Nat) (h : d < 10) : hexd d = UInt8.ofNat (48 + d) := by
  have : ∀ d : Fin 10, hexd d.val = UInt8.ofNat (48 + d.val) := by decide
  exact this ⟨d, h⟩
theorem dg10 : ∀ (f n : Nat) (acc : List UInt8), n < 2 ^ f → 0 < f → dgF 10 f n acc = Lib.decDigits n ++ acc
  | 0, _, _, _, h => by omega
  | f + 1, n, acc, hn, _ => by
    unfold dgF
    rw [Nat.pow_succ] at hn
    by_cases h : n / 10 = 0
    · have h10 : n < 10 := by omega
      rw [if_pos h, Lib.decDigits_one h10, Nat.mod_eq_of_lt h10, hexd_dec n h10]
      rfl
    · have h10 : ¬ n < 10 := by omega
      have hf : 0 < f := by
        rcases Nat.eq_zero_or_pos f with rfl | h
        · simp at hn; omega
        · exact h
      rw [if_neg h, dg10 f (n / 10) _ (by omega) hf, hexd_dec _ (Nat.mod_lt _ (by decide))]
      conv => rhs; rw [Lib.decDigits, dif_neg h10]
      simp
theorem dg16 (n : Nat) (h : n < 65536) : dgF 16 40 n [] = hexS n := by
  by_cases h1 : n < 16
  · rw [hexS1 h1]
    unfold dgF
    rw [if_pos (by omega), Nat.mod_eq_of_lt h1]
  · by_cases h2 : n < 256
    · rw [hexS2 h1 h2]
      unfold dgF
      rw [if_neg (by omega)]
      unfold dgF
      rw [if_pos (by omega), Nat.mod_eq_of_lt (show n / 16 < 16 by omega)]
    · by_cases h3 : n < 4096
      · rw [hexS3 h2 h3]
        unfold dgF
        rw [if_neg (by omega)]
        unfold dgF
        rw [if_neg (by omega)]
        unfold dgF
        rw [if_pos (by omega), Nat.div_div_eq_div_mul, Nat.mod_eq_of_lt (show n / (16 * 16) < 16 by omega)]
      · rw [hexS4 h3 h]
        unfold dgF
        rw [if_neg (by omega)]
        unfold dgF
        rw [if_neg (by omega)]
        unfold dgF
        rw [if_neg (by omega)]
        unfold dgF
        rw [if_pos (by omega), Nat.div_div_eq_div_mul, Nat.div_div_eq_div_mul, Nat.mod_eq_of_lt (show n / (16 * 16 * 16) < 16 by omega), Nat.div_div_eq_div_mul]
/-- How far the digits of a number are written. -/
def DgI (b f k : Nat) (acc : List UInt8) (fst : Bool) (T : List UInt8) : Prop := k < 2 ^ f ∧ (fst = true → f = 40) ∧ (if fst = false ∧ k = 0 then acc else dgF b f k acc) = T
theorem digit_slice (d : Nat) (h : d < 16) (w : World) : (Instr.slice 9 (.string (ByteArray.mk #[48, 49, 50, 51, 52, 53, 54, 55, 56, 57, 97, 98, 99, 100, 101, 102])) (some (.int .i64 (d : Int))) (some (.int .i64 ((d : Int) + 1))) none).run Tryd.prog w = .ok (.string (ByteArray.mk #[hexd d])) w := by
  have hz : (ByteArray.mk #[48, 49, 50, 51, 52, 53, 54, 55, 56, 57, 97, 98, 99, 100, 101, 102]).size = 16 := rfl
  rw [run_slice_string (P := Tryd.prog) w 9 _ .i64 .i64 _ _ (by kernel_rfl) (by omega) (by omega) (by omega)]
  have : ∀ d : Fin 16, (ByteArray.mk #[48, 49, 50, 51, 52, 53, 54, 55, 56, 57, 97, 98, 99, 100, 101, 102]).extract d.val (d.val + 1) = ByteArray.mk #[hexd d.val] := by decide
  rw [show ((d : Int)).toNat = d by omega, show ((d : Int) + 1).toNat = d + 1 by omega, this ⟨d, h⟩]
theorem digit_add (x : UInt8) (l : List UInt8) (h : l.length ≤ 1000) (w : World) : (Op.stringOp .add (ByteArray.mk #[x]) (ByteArray.mk l.toArray)).run Tryd.prog w = .ok (.string (ByteArray.mk (x :: l).toArray)) w := by
  rw [run_string_add_sum w (ByteArray.mk #[x]) (ByteArray.mk l.toArray) (by show 1 + l.toArray.size ≤ _; simp; omega), show ByteArray.mk #[x] = ByteArray.mk [x].toArray from rfl, add_mk]
  rfl
set_option maxRecDepth 100000 in
set_option maxHeartbeats 2000000 in
theorem rdigits10_any (n : Nat) (w : World) (hn : n < 1099511627776) :
    Calls Tryd.prog 45 #[.int .i64 n, .int .i64 10] w fun e w' => e = .returned (.string (ByteArray.mk (dgF 10 40 n []).toArray)) ∧ ∃ m, w' = w.drewN m := by
  obtain ⟨T, hT⟩ : ∃ T, dgF 10 40 n [] = T := ⟨_, rfl⟩
  rw [hT]
  have HT : Hid (dgF 10 40 n [] = T) := hT
  clear hT
  go_enter Tryd.func45, Tryd.ntmps45
  go_wp2
  go_loopw [0, 5, 6] (fun a s b w' => ∃ (k f m : Nat) (acc : List UInt8) (fst : Bool), a = .int .i64 k ∧ s = .string (ByteArray.mk acc.toArray) ∧ b = .bool fst ∧ k < 1099511627776 ∧ acc.length + f = 40 ∧ w' = w.drewN m ∧ Hid (DgI 10 f k acc fst T)) (fun _ s _ _ => 40 - (match s with | .string x => x.size | _ => 0))
  case atStart => exact ⟨n, 40, 0, [], true, rfl, rfl, rfl, hn, rfl, rfl, (by show n < 2 ^ 40; omega), fun _ => rfl, by rw [if_neg (by simp)]; exact HT.out⟩
  case round =>
    obtain ⟨k, f, m, acc, fst, rfl, rfl, rfl, hk, hf, rfl, hr⟩ := hrel
    clear HT
    obtain ⟨hk2, h40, hr⟩ := hr.out
    by_cases hend : fst = false ∧ k = 0
    · obtain ⟨rfl, rfl⟩ := hend
      rw [if_pos ⟨rfl, rfl⟩] at hr
      subst hr
      clear h40 hk2
      go_wp2
      go_ret
      exact ⟨rfl, m, rfl⟩
    · rw [if_neg hend] at hr
      have hf1 : 0 < f := by
        rcases Nat.eq_zero_or_pos f with h0 | h
        · exfalso
          subst h0
          refine hend ⟨?_, by simp at hk2; omega⟩
          cases fst with
          | false => rfl
          | true => have := h40 rfl; omega
        · exact h
      obtain ⟨f', rfl⟩ : ∃ f', f = f' + 1 := ⟨f - 1, by omega⟩
      unfold dgF at hr
      have hk3 : k / 10 < 2 ^ f' := by rw [Nat.pow_succ] at hk2; omega
      have hd := digit_slice (k % 10) (by omega)
      have ha := digit_add (hexd (k % 10)) acc (by omega)
      obtain ⟨acc', hacc⟩ : ∃ acc', hexd (k % 10) :: acc = acc' := ⟨_, rfl⟩
      have HR : Hid (DgI 10 f' (k / 10) acc' false T) := by
        refine ⟨hk3, fun h => (by cases h), ?_⟩
        rw [hacc] at hr
        by_cases h0 : k / 10 = 0
        · rw [if_pos ⟨rfl, h0⟩]; rw [if_pos h0] at hr; exact hr
        · rw [if_neg (by simp [h0])]; rw [if_neg h0] at hr; exact hr
      have hl' : acc'.length = acc.length + 1 := by rw [← hacc]; rfl
      have hl1 : acc'.length ≤ acc.length + 1 := by omega
      have hl2 : acc.length + 1 ≤ acc'.length := by omega
      rw [hacc] at ha
      generalize hexd (k % 10) = x at *
      clear hr hk2 h40 hacc hk3 hl'
      obtain ⟨d, hdd⟩ : ∃ d, k % 10 = d := ⟨_, rfl⟩
      obtain ⟨q, hqq⟩ : ∃ q, k / 10 = q := ⟨_, rfl⟩
      have e1 : (k : Int).tmod 10 = (d : Int) := by rw [← hdd]; rfl
      have e1' : (k : Int) % 10 = (d : Int) := by rw [← hdd]; rfl
      have e2 : (k : Int).tdiv 10 = (q : Int) := by rw [← hqq]; rfl
      have e2' : (k : Int) / 10 = (q : Int) := by rw [← hqq]; rfl
      rw [hdd] at hd
      rw [hqq] at HR
      have hd16 : d < 16 := by omega
      have hq : q < 1099511627776 := by omega
      clear hdd hqq
      have hmz : 40 - (ByteArray.mk acc'.toArray).size < 40 - (ByteArray.mk acc.toArray).size := by show 40 - acc'.toArray.size < 40 - acc.toArray.size; simp; omega
      have hlf : acc'.length + f' = 40 := by omega
      have HLF : Hid (acc'.length + f' = 40) := hlf
      clear hlf
      cases fst with
      | true =>
        clear hend
        go_wp2
        go_quiet (fail)
        all_goals go_wp2
        all_goals exact ⟨⟨q, f', _, acc', false, by first | rfl | trivial, by first | rfl | trivial, by first | rfl | trivial, hq, HLF.out, rfl, HR⟩, hmz⟩
      | false =>
        have k0 : (0 : Int) < (k : Int) := by
          have : ¬ k = 0 := fun h => hend ⟨rfl, h⟩
          omega
        clear hend
        go_wp2
        go_quiet (fail)
        all_goals go_wp2
        all_goals exact ⟨⟨q, f', _, acc', false, by first | rfl | trivial, by first | rfl | trivial, by first | rfl | trivial, hq, HLF.out, rfl, HR⟩, hmz⟩
set_option maxRecDepth 100000 in
set_option maxHeartbeats 2000000 in
theorem rdigits16_any (n : Nat) (w : World) (hn : n < 1099511627776) :
    Calls Tryd.prog 45 #[.int .i64 n, .int .i64 16] w fun e w' => e = .returned (.string (ByteArray.mk (dgF 16 40 n []).toArray)) ∧ ∃ m, w' = w.drewN m := by
  obtain ⟨T, hT⟩ : ∃ T, dgF 16 40 n [] = T := ⟨_, rfl⟩
  rw [hT]
  have HT : Hid (dgF 16 40 n [] = T) := hT
  clear hT
  go_enter Tryd.func45, Tryd.ntmps45
  go_wp2
  go_loopw [0, 5, 6] (fun a s b w' => ∃ (k f m : Nat) (acc : List UInt8) (fst : Bool), a = .int .i64 k ∧ s = .string (ByteArray.mk acc.toArray) ∧ b = .bool fst ∧ k < 1099511627776 ∧ acc.length + f = 40 ∧ w' = w.drewN m ∧ Hid (DgI 16 f k acc fst T)) (fun _ s _ _ => 40 - (match s with | .string x => x.size | _ => 0))
  case atStart => exact ⟨n, 40, 0, [], true, rfl, rfl, rfl, hn, rfl, rfl, (by show n < 2 ^ 40; omega), fun _ => rfl, by rw [if_neg (by simp)]; exact HT.out⟩
  case round =>
    obtain ⟨k, f, m, acc, fst, rfl, rfl, rfl, hk, hf, rfl, hr⟩ := hrel
    clear HT
    obtain ⟨hk2, h40, hr⟩ := hr.out
    by_cases hend : fst = false ∧ k = 0
    · obtain ⟨rfl, rfl⟩ := hend
      rw [if_pos ⟨rfl, rfl⟩] at hr
      subst hr
      clear h40 hk2
      go_wp2
      go_ret
      exact ⟨rfl, m, rfl⟩
    · rw [if_neg hend] at hr
      have hf1 : 0 < f := by
        rcases Nat.eq_zero_or_pos f with h0 | h
        · exfalso
          subst h0
          refine hend ⟨?_, by simp at hk2; omega⟩
          cases fst with
          | false => rfl
          | true => have := h40 rfl; omega
        · exact h
      obtain ⟨f', rfl⟩ : ∃ f', f = f' + 1 := ⟨f - 1, by omega⟩
      unfold dgF at hr
      have hk3 : k / 16 < 2 ^ f' := by rw [Nat.pow_succ] at hk2; omega
      have hd := digit_slice (k % 16) (by omega)
      have ha := digit_add (hexd (k % 16)) acc (by omega)
      obtain ⟨acc', hacc⟩ : ∃ acc', hexd (k % 16) :: acc = acc' := ⟨_, rfl⟩
      have HR : Hid (DgI 16 f' (k / 16) acc' false T) := by
        refine ⟨hk3, fun h => (by cases h), ?_⟩
        rw [hacc] at hr
        by_cases h0 : k / 16 = 0
        · rw [if_pos ⟨rfl, h0⟩]; rw [if_pos h0] at hr; exact hr
        · rw [if_neg (by simp [h0])]; rw [if_neg h0] at hr; exact hr
      have hl' : acc'.length = acc.length + 1 := by rw [← hacc]; rfl
      have hl1 : acc'.length ≤ acc.length + 1 := by omega
      have hl2 : acc.length + 1 ≤ acc'.length := by omega
      rw [hacc] at ha
      generalize hexd (k % 16) = x at *
      clear hr hk2 h40 hacc hk3 hl'
      obtain ⟨d, hdd⟩ : ∃ d, k % 16 = d := ⟨_, rfl⟩
      obtain ⟨q, hqq⟩ : ∃ q, k / 16 = q := ⟨_, rfl⟩
      have e1 : (k : Int).tmod 16 = (d : Int) := by rw [← hdd]; rfl
      have e1' : (k : Int) % 16 = (d : Int) := by rw [← hdd]; rfl
      have e2 : (k : Int).tdiv 16 = (q : Int) := by rw [← hqq]; rfl
      have e2' : (k : Int) / 16 = (q : Int) := by rw [← hqq]; rfl
      rw [hdd] at hd
      rw [hqq] at HR
      have hd16 : d < 16 := by omega
      have hq : q < 1099511627776 := by omega
      clear hdd hqq
      have hmz : 40 - (ByteArray.mk acc'.toArray).size < 40 - (ByteArray.mk acc.toArray).size := by show 40 - acc'.toArray.size < 40 - acc.toArray.size; simp; omega
      have hlf : acc'.length + f' = 40 := by omega
      have HLF : Hid (acc'.length + f' = 40) := hlf
      clear hlf
      cases fst with
      | true =>
        clear hend
        go_wp2
        go_quiet (fail)
        all_goals go_wp2
        all_goals exact ⟨⟨q, f', _, acc', false, by first | rfl | trivial, by first | rfl | trivial, by first | rfl | trivial, hq, HLF.out, rfl, HR⟩, hmz⟩
      | false =>
        have k0 : (0 : Int) < (k : Int) := by
          have : ¬ k = 0 := fun h => hend ⟨rfl, h⟩
          omega
        clear hend
        go_wp2
        go_quiet (fail)
        all_goals go_wp2
        all_goals exact ⟨⟨q, f', _, acc', false, by first | rfl | trivial, by first | rfl | trivial, by first | rfl | trivial, hq, HLF.out, rfl, HR⟩, hmz⟩
end Go.Proofs.YtjdapofjlbifjaaDoor
