/- Texts joined: Puts -/
import Derived.Test.YtmnkdogdligckaaIp6zw6
namespace Go.Proofs.Ytmnkdogdligckaa
open Go.RowKit
set_option linter.unusedVariables false
def put16 (l : List Int) (n : Int) : List Int := l ++ [n / 256 % 256, n % 256]
def put32 (l : List Int) (u : Int) : List Int := l ++ [u / 16777216, u / 65536 % 256, u / 256 % 256, u % 256]
set_option maxHeartbeats 400000 in
theorem put16_any (a : Option Addr) (c : Nat) (l : List Int) (n : Int) (w : World) (h : Row w a l) (hnil : a = none → c = 0) (hl : l.length ≤ 140737488351232) :
    Calls Try.prog 34 #[.slice a l.length c, .int .i64 n] w fun e w' => ∃ a' c', e = .returned (.slice a' (put16 l n).length c') ∧ Fresh w w' a' c' (put16 l n) := by
  obtain ⟨r, hr⟩ : ∃ r, put16 l n = r := ⟨_, rfl⟩
  have hrl : r.length ≤ l.length + 2 := by rw [← hr]; simp [put16]
  rw [hr]
  have HR : Hid (l ++ [n / 256 % 256, n % 256] = r) := hr
  clear hr
  go_enter Try.func34, Try.ntmps34
  go_wp2_with fail
  refine (longer_any _ _ l _ _ h hnil hl (by omega) (by omega)).mono ?_
  rintro e w1 ⟨a1, c1, rfl, f1⟩
  have b1 := f1.below
  have z1 := b1.size
  have o1 := f1.owns
  have hb := h.bytes
  clear f1 h
  go_wp2_with (at_builtin; refine wpList_app2 _ rfl _ _ rfl w.heap.size _ l rfl (o1.alloc _) hb _ 2 [n / 256 % 256, n % 256] rfl ?row (fun hh => by cases hh) r HR.out ?c1 ?c2 ?_)
  case row =>
    refine row_at _ 5 [n / 256 % 256, n % 256] _ (by simp) (by simp) ?_
    intro z hz
    simp at hz
    omega
  case c1 => omega
  case c2 => simp; omega
  intro a2 c2 w2 o2 hc2 hn2 r2 b2 _
  go_wp2
  go_ret
  exact ⟨a2, c2, rfl, o2, hc2, hn2, r2, (b1.alloc z1 _).trans b2⟩
set_option maxHeartbeats 400000 in
theorem put32_any (a : Option Addr) (c : Nat) (l : List Int) (n : Int) (w : World) (h : Row w a l) (hnil : a = none → c = 0) (hl : l.length ≤ 140737488351232) (hn : 0 ≤ n ∧ n ≤ 4294967295) :
    Calls Try.prog 50 #[.slice a l.length c, .int .u32 n] w fun e w' => ∃ a' c', e = .returned (.slice a' (put32 l n).length c') ∧ Fresh w w' a' c' (put32 l n) := by
  obtain ⟨r, hr⟩ : ∃ r, put32 l n = r := ⟨_, rfl⟩
  have hrl : r.length ≤ l.length + 4 := by rw [← hr]; simp [put32]
  rw [hr]
  have HR : Hid (l ++ [n / 16777216, n / 65536 % 256, n / 256 % 256, n % 256] = r) := hr
  clear hr
  go_enter Try.func50, Try.ntmps50
  go_wp2_with fail
  refine (longer_any _ _ l _ _ h hnil hl (by omega) (by omega)).mono ?_
  rintro e w1 ⟨a1, c1, rfl, f1⟩
  have b1 := f1.below
  have z1 := b1.size
  have o1 := f1.owns
  have hb := h.bytes
  clear f1 h
  go_wp2_with (at_builtin; refine wpList_app2 _ rfl _ _ rfl w.heap.size _ l rfl (o1.alloc _) hb _ 4 [n / 16777216, n / 65536 % 256, n / 256 % 256, n % 256] rfl ?row (fun hh => by cases hh) r HR.out ?c1 ?c2 ?_)
  case row =>
    refine row_at _ 5 [n / 16777216, n / 65536 % 256, n / 256 % 256, n % 256] _ (by simp) (by simp) ?_
    intro z hz
    simp at hz
    omega
  case c1 => omega
  case c2 => simp; omega
  intro a2 c2 w2 o2 hc2 hn2 r2 b2 _
  go_wp2
  go_ret
  exact ⟨a2, c2, rfl, o2, hc2, hn2, r2, (b1.alloc z1 _).trans b2⟩
set_option maxHeartbeats 400000 in
theorem rput16_any (a : Option Addr) (c : Nat) (l : List Int) (n : Int) (w : World) (h : Row w a l) (hnil : a = none → c = 0) (hl : l.length ≤ 140737488351232) :
    Calls Try.prog 39 #[.slice a l.length c, .int .i64 n] w fun e w' => ∃ a' c', e = .returned (.slice a' (put16 l n).length c') ∧ Fresh w w' a' c' (put16 l n) := by
  obtain ⟨r, hr⟩ : ∃ r, put16 l n = r := ⟨_, rfl⟩
  have hrl : r.length ≤ l.length + 2 := by rw [← hr]; simp [put16]
  rw [hr]
  have HR : Hid (l ++ [n / 256 % 256, n % 256] = r) := hr
  clear hr
  go_enter Try.func39, Try.ntmps39
  go_wp2_with (at_builtin; refine wpList_app2 _ rfl _ _ rfl w.heap.size _ [] rfl (Owns.nil _ _) M.Bytes.nil a c l rfl h hnil l rfl ?c1 (Nat.le_refl _) ?_)
  case c1 => omega
  intro a1 c1 w1 o1 _ _ _ b1 _
  have z1 := b1.size
  have hb := h.bytes
  clear h
  go_wp2_with (at_builtin; refine wpList_app2 _ rfl _ _ rfl w.heap.size _ l rfl (o1.alloc _) hb _ 2 [n / 256 % 256, n % 256] rfl ?row (fun hh => by cases hh) r HR.out ?c1 ?c2 ?_)
  case row =>
    refine row_at _ 5 [n / 256 % 256, n % 256] _ (by simp) (by simp) ?_
    intro z hz
    simp at hz
    omega
  case c1 => omega
  case c2 => simp; omega
  intro a2 c2 w2 o2 hc2 hn2 r2 b2 _
  go_wp2
  go_ret
  exact ⟨a2, c2, rfl, o2, hc2, hn2, r2, (b1.alloc z1 _).trans b2⟩
set_option maxHeartbeats 400000 in
theorem rput32_any (a : Option Addr) (c : Nat) (l : List Int) (n : Int) (w : World) (h : Row w a l) (hnil : a = none → c = 0) (hl : l.length ≤ 140737488351232) (hn : 0 ≤ n ∧ n ≤ 4294967295) :
    Calls Try.prog 38 #[.slice a l.length c, .int .u32 n] w fun e w' => ∃ a' c', e = .returned (.slice a' (put32 l n).length c') ∧ Fresh w w' a' c' (put32 l n) := by
  obtain ⟨r, hr⟩ : ∃ r, put32 l n = r := ⟨_, rfl⟩
  have hrl : r.length ≤ l.length + 4 := by rw [← hr]; simp [put32]
  rw [hr]
  have HR : Hid (l ++ [n / 16777216, n / 65536 % 256, n / 256 % 256, n % 256] = r) := hr
  clear hr
  go_enter Try.func38, Try.ntmps38
  go_wp2_with (at_builtin; refine wpList_app2 _ rfl _ _ rfl w.heap.size _ [] rfl (Owns.nil _ _) M.Bytes.nil a c l rfl h hnil l rfl ?c1 (Nat.le_refl _) ?_)
  case c1 => omega
  intro a1 c1 w1 o1 _ _ _ b1 _
  have z1 := b1.size
  have hb := h.bytes
  clear h
  go_wp2_with (at_builtin; refine wpList_app2 _ rfl _ _ rfl w.heap.size _ l rfl (o1.alloc _) hb _ 4 [n / 16777216, n / 65536 % 256, n / 256 % 256, n % 256] rfl ?row (fun hh => by cases hh) r HR.out ?c1 ?c2 ?_)
  case row =>
    refine row_at _ 5 [n / 16777216, n / 65536 % 256, n / 256 % 256, n % 256] _ (by simp) (by simp) ?_
    intro z hz
    simp at hz
    omega
  case c1 => omega
  case c2 => simp; omega
  intro a2 c2 w2 o2 hc2 hn2 r2 b2 _
  go_wp2
  go_ret
  exact ⟨a2, c2, rfl, o2, hc2, hn2, r2, (b1.alloc z1 _).trans b2⟩
end Go.Proofs.Ytmnkdogdligckaa
