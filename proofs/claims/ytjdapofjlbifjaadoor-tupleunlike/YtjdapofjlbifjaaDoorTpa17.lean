/- Texts joined: Num Grp Par Lz -/
import Derived.Test.YtjdapofjlbifjaaDoorTpa13
import Derived.Test.YtjdapofjlbifjaaDoorRows
import Derived.WalkKit
import Derived.Laws.BitsAllLaws
import Derived.Laws.BitsLemmas
import Derived.Laws.Runes
import Derived.Laws.RangeString
import Derived.Laws.RangeAny
import Derived.LoopTactic
import Derived.Test.YtjdapofjlbifjaaDoorShelf
import Derived.Lib.Split
namespace Go.Proofs.YtjdapofjlbifjaaDoor
open Go.RowKit
set_option linter.unusedVariables false
set_option linter.unusedSimpArgs false
/-- The digits of a number of at most most; later: a digit stands ahead. -/
def numGo (most : Nat) : List UInt8 → Nat → Bool → Option Nat
  | [], n, _ => some n
  | c :: cs, n, later =>
    if c.toNat < 48 ∨ 57 < c.toNat ∨ (later = true ∧ n = 0) then none
    else if most < n * 10 + (c.toNat - 48) then none
    else numGo most cs (n * 10 + (c.toNat - 48)) true
/-- What the program answers: the number, and whether there is one. -/
def tell (o : Option Nat) : Int × Bool := match o with | some n => ((n : Int), true) | none => (0, false)
def num (most : Nat) (s : List UInt8) : Int × Bool := if s = [] then (0, false) else tell (numGo most s 0 false)
def hexv (c : Nat) : Option Nat := if 48 ≤ c ∧ c ≤ 57 then some (c - 48) else if 97 ≤ c ∧ c ≤ 102 then some (c - 87) else if 65 ≤ c ∧ c ≤ 70 then some (c - 55) else none
def hexGo : List UInt8 → Nat → Nat → Option Nat
  | [], _, n => some n
  | c :: cs, i, n => match hexv c.toNat with
    | none => none
    | some d => if 4 ≤ i then none else hexGo cs (i + 1) (n * 16 + d)
def grp (s : List UInt8) : Int × Bool := if s = [] then (0, false) else tell (hexGo s 0 0)
/-- The bytes of groups. -/
def gsGo : List (List UInt8) → List Int → Option (List Int)
  | [], acc => some acc
  | x :: xs, acc => if (grp x).2 = true then gsGo xs (acc ++ [(grp x).1 / 256, (grp x).1 % 256]) else none
def gs (s : List UInt8) : Option (List Int) := if s = [] then some [] else gsGo (Lib.splitK [58] 0 (min 9 (s.length + 1) - 1) s) []
/-- The bytes of numbers. -/
def qsGo : List (List UInt8) → List Int → Option (List Int)
  | [], acc => some acc
  | x :: xs, acc => if (num 255 x).2 = true then qsGo xs (acc ++ [(num 255 x).1]) else none
def p4 (s : List UInt8) : Option (List Int) := if (Lib.splitK [46] 0 (min 5 (s.length + 1) - 1) s).length = 4 then qsGo (Lib.splitK [46] 0 (min 5 (s.length + 1) - 1) s) [] else none
theorem Row.grown {w w' : World} {row : Option Nat} {a : Option Addr} {l : List Int} (h : Row w a l) (hg : w.grownBy w' row) (hne : ∀ b off, a = some ⟨b, off, none⟩ → some b ≠ row) : Row w' a l :=
  ⟨h.small, h.bytes, fun hp => by
    obtain ⟨b, off, ha, hc⟩ := h.cells hp
    exact ⟨b, off, ha, fun i hi => hg.cell (hc i hi) (hne b off ha)⟩⟩
def p6 (s : List UInt8) : Option (List Int) := match gs (Lib.cut s [58, 58]).1 with
  | none => none
  | some h => match gs (Lib.cut s [58, 58]).2.1 with
    | none => none
    | some t => if 16 < h.length + t.length ∨ (Lib.cut s [58, 58]).2.2 ≠ decide (h.length + t.length < 16) then none else some (h ++ List.replicate (16 - h.length - t.length) 0 ++ t)
/-- What a text is as an address. -/
def parseB (s : List UInt8) : Ad × Int := match p4 s with
  | some b => fromB b
  | none => match p6 s with
    | some b => fromB b
    | none => (⟨0, 0, 0⟩, 1)
/-- Where the longest row begins, and how many it has: i words gone, the row at hand has run. -/
def lzGo : List Bool → Nat → Nat → Nat → Nat → Nat × Nat
  | [], _, at_, n, _ => (at_, n)
  | z :: zs, i, at_, n, run => if z then (if n < run + 1 then lzGo zs (i + 1) (i + 1 - (run + 1)) (run + 1) (run + 1) else lzGo zs (i + 1) at_ n (run + 1)) else lzGo zs (i + 1) at_ n 0
def isZero (x : ByteArray) : Bool := decide (x = ByteArray.mk #[48])
def lz (xs : List ByteArray) : Nat × Nat := lzGo (xs.map isZero) 0 0 0 0
set_option maxRecDepth 100000 in
set_option maxHeartbeats 1000000 in
theorem lz_any (g c : Nat) (xs : List ByteArray) (w : World) (hx : xs.length ≤ 1000) (hc : ∀ (i : Nat) (h : i < xs.length), w.cell? ⟨g, i, none⟩ = some (.string (xs[i]'h))) :
    Calls Tryd.prog 59 #[.slice (some ⟨g, 0, none⟩) xs.length c] w fun e w' => e = .returned (.tuple #[.int .i64 ((lz xs).1 : Int), .int .i64 ((lz xs).2 : Int)]) ∧ w' = w := by
  obtain ⟨T, hT⟩ : ∃ T, lz xs = T := ⟨_, rfl⟩
  rw [hT]
  have HT : Hid (lzGo (xs.map isZero) 0 0 0 0 = T) := hT
  clear hT
  go_enter Tryd.func59, Tryd.ntmps59
  go_wp2
  go_loop [2, 3, 4, 9] (fun a n r i => ∃ k p m q : Nat, k ≤ xs.length ∧ i = .int .i64 k ∧ a = .int .i64 p ∧ n = .int .i64 m ∧ r = .int .i64 q ∧ p ≤ 1000 ∧ m ≤ 1000 ∧ q ≤ k ∧ Hid (lzGo ((xs.drop k).map isZero) k p m q = T)) (fun _ _ _ i => xs.length - (intOf i).toNat)
  case atStart => exact ⟨0, 0, 0, 0, Nat.zero_le _, rfl, rfl, rfl, rfl, by omega, by omega, Nat.le_refl _, HT⟩
  case round =>
    obtain ⟨k, p, m, q, hk, rfl, rfl, rfl, rfl, hp, hm, hq, hr⟩ := hrel
    by_cases hlt : k < xs.length
    · have hcell := hc k hlt
      have hr1 := hr.out
      rw [List.drop_eq_getElem_cons hlt, List.map_cons] at hr1
      generalize xs[k] = x at hcell hr1
      have HR : Hid (lzGo (isZero x :: (xs.drop (k + 1)).map isZero) k p m q = T) := hr1
      have ilt : (k : Int) < (xs.length : Int) := by omega
      clear hr hr1 hc
      by_cases hz : x = ByteArray.mk #[48]
      · have z1 : isZero x = true := by simp [isZero, hz]
        have hz' : (x.toList == [48]) = true := by rw [ByteArray.toList_eq, hz]; rfl
        clear hz
        by_cases hmq : m < q + 1
        · have hq2 : Hid (lzGo ((xs.drop (k + 1)).map isZero) (k + 1) (k + 1 - (q + 1)) (q + 1) (q + 1) = T) := by
            have := HR.out; unfold lzGo at this; rw [z1, if_pos rfl, if_pos hmq] at this; exact this
          have hmq' : (m : Int) < (q : Int) + 1 := by omega
          clear z1
          go_wp2
          exact ⟨⟨k + 1, k + 1 - (q + 1), q + 1, q + 1, by omega, int_eq (by omega), int_eq (by omega), int_eq (by omega), int_eq (by omega), by omega, by omega, by omega, hq2⟩, by simp [intOf]; omega⟩
        · have hq2 : Hid (lzGo ((xs.drop (k + 1)).map isZero) (k + 1) p m (q + 1) = T) := by
            have := HR.out; unfold lzGo at this; rw [z1, if_pos rfl, if_neg hmq] at this; exact this
          have hmq' : ¬ (m : Int) < (q : Int) + 1 := by omega
          clear z1
          go_wp2
          exact ⟨⟨k + 1, p, m, q + 1, by omega, int_eq (by omega), rfl, rfl, int_eq (by omega), by omega, by omega, by omega, hq2⟩, by simp [intOf]; omega⟩
      · have z1 : isZero x = false := by simp [isZero, hz]
        have hq2 : Hid (lzGo ((xs.drop (k + 1)).map isZero) (k + 1) p m 0 = T) := by
          have := HR.out; unfold lzGo at this; rw [z1, if_neg (by decide)] at this; exact this
        have hz' : (x.toList == [48]) = false := by
          rw [ByteArray.toList_eq]
          cases hb : (x.data.toList == [48]) with
          | false => rfl
          | true =>
            exfalso; apply hz
            have h1 : x.data.toList = [48] := by simpa using hb
            cases x with
            | mk d => cases d with
              | mk l => simp at h1; rw [h1]
        clear z1 hz
        go_wp2
        exact ⟨⟨k + 1, p, m, 0, by omega, int_eq (by omega), rfl, rfl, rfl, by omega, by omega, by omega, hq2⟩, by simp [intOf]; omega⟩
    · have e : T = (p, m) := by rw [← hr.out, List.drop_eq_nil_of_le (by omega)]; rfl
      have ilt : ¬ (k : Int) < (xs.length : Int) := by omega
      subst e
      go_wp2
      go_ret2
      exact ⟨rfl, rfl⟩
end Go.Proofs.YtjdapofjlbifjaaDoor
