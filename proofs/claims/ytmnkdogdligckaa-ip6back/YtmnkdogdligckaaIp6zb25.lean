/- Texts joined: Puts Ip6O -/
import Derived.Test.YtmnkdogdligckaaIp6zb24
namespace Go.Proofs.Ytmnkdogdligckaa
open Go.RowKit
set_option linter.unusedVariables false
def put16 (l : List Int) (n : Int) : List Int := l ++ [n / 256 % 256, n % 256]
def put32 (l : List Int) (u : Int) : List Int := l ++ [u / 16777216, u / 65536 % 256, u / 256 % 256, u % 256]
set_option maxHeartbeats 400000 in
theorem put16_any (a : Option Addr) (c : Nat) (l : List Int) (n : Int) (w : World) (h : Row w a l) (hnil : a = none → c = 0) (hl : l.length ≤ 140737488351232) :
    Calls Try.prog 34 #[.slice a l.length c, .int .i64 n] w fun e w' => ∃ a' c', e = .returned (.slice a' (put16 l n).length c') ∧ Fresh w w' a' c' (put16 l n) := by
  obtain ⟨r, hr⟩ : ∃ r, put16 l n = r := ⟨_, rfl⟩
  have hrl : r.length ≤ l.length + 2 := by rw [← hr]; simp [put16]
  rw [hr]
  have HR : Hid (l ++ [n / 256 % 256, n % 256] = r) := hr
  clear hr
  go_enter Try.func34, Try.ntmps34
  go_wp2_with fail
  refine (longer_any _ _ l _ _ h hnil hl (by omega) (by omega)).mono ?_
  rintro e w1 ⟨a1, c1, rfl, f1⟩
  have b1 := f1.below
  have z1 := b1.size
  have o1 := f1.owns
  have hb := h.bytes
  clear f1 h
  go_wp2_with (at_builtin; refine wpList_app2 _ rfl _ _ rfl w.heap.size _ l rfl (o1.alloc _) hb _ 2 [n / 256 % 256, n % 256] rfl ?row (fun hh => by cases hh) r HR.out ?c1 ?c2 ?_)
  case row =>
    refine row_at _ 5 [n / 256 % 256, n % 256] _ (by simp) (by simp) ?_
    intro z hz
    simp at hz
    omega
  case c1 => omega
  case c2 => simp; omega
  intro a2 c2 w2 o2 hc2 hn2 r2 b2 _
  go_wp2
  go_ret
  exact ⟨a2, c2, rfl, o2, hc2, hn2, r2, (b1.alloc z1 _).trans b2⟩
set_option maxHeartbeats 400000 in
theorem put32_any (a : Option Addr) (c : Nat) (l : List Int) (n : Int) (w : World) (h : Row w a l) (hnil : a = none → c = 0) (hl : l.length ≤ 140737488351232) (hn : 0 ≤ n ∧ n ≤ 4294967295) :
    Calls Try.prog 50 #[.slice a l.length c, .int .u32 n] w fun e w' => ∃ a' c', e = .returned (.slice a' (put32 l n).length c') ∧ Fresh w w' a' c' (put32 l n) := by
  obtain ⟨r, hr⟩ : ∃ r, put32 l n = r := ⟨_, rfl⟩
  have hrl : r.length ≤ l.length + 4 := by rw [← hr]; simp [put32]
  rw [hr]
  have HR : Hid (l ++ [n / 16777216, n / 65536 % 256, n / 256 % 256, n % 256] = r) := hr
  clear hr
  go_enter Try.func50, Try.ntmps50
  go_wp2_with fail
  refine (longer_any _ _ l _ _ h hnil hl (by omega) (by omega)).mono ?_
  rintro e w1 ⟨a1, c1, rfl, f1⟩
  have b1 := f1.below
  have z1 := b1.size
  have o1 := f1.owns
  have hb := h.bytes
  clear f1 h
  go_wp2_with (at_builtin; refine wpList_app2 _ rfl _ _ rfl w.heap.size _ l rfl (o1.alloc _) hb _ 4 [n / 16777216, n / 65536 % 256, n / 256 % 256, n % 256] rfl ?row (fun hh => by cases hh) r HR.out ?c1 ?c2 ?_)
  case row =>
    refine row_at _ 5 [n / 16777216, n / 65536 % 256, n / 256 % 256, n % 256] _ (by simp) (by simp) ?_
    intro z hz
    simp at hz
    omega
  case c1 => omega
  case c2 => simp; omega
  intro a2 c2 w2 o2 hc2 hn2 r2 b2 _
  go_wp2
  go_ret
  exact ⟨a2, c2, rfl, o2, hc2, hn2, r2, (b1.alloc z1 _).trans b2⟩
end Go.Proofs.Ytmnkdogdligckaa
namespace Go.Proofs.Ytmnkdogdligckaa
open Go.RowKit
set_option linter.unusedVariables false
set_option linter.unusedSimpArgs false
theorem or_one (x : Int) (h0 : 0 ≤ x) (h1 : x ≤ 65535) (h8 : x % 8 = 0) : bits .or .i64 x 1 = x + 1 :=
  bits_join .i64 63 (by decide) (fun n h₀ h₁ => wraps_i64 n h₀ h₁) 3 x 1 h0 (by omega) (by omega) (by omega) (by omega) (by omega)
/-- A fragment's header. -/
def fh (pr of : Int) (mo : Bool) (id : Int) : List Int := put32 (put16 [pr, 0] (of + if mo = true then 1 else 0)) id
set_option maxRecDepth 100000 in
set_option maxHeartbeats 4000000 in
theorem fragmentHead_any (f sf sh sl df dh dl pr ho : Int) (fg : Bool) (id of : Int) (mo : Bool) (xa : Option Addr) (xn xc : Nat) (da : Option Addr) (dn dc : Nat) (w : World) (h0 : 0 ≤ of) (h1 : of ≤ 65535) (h8 : of % 8 = 0) (q0 : 0 ≤ pr) (q1 : pr ≤ 255) (hid : 0 ≤ id ∧ id ≤ 4294967295) :
    Calls Try.prog 33 #[.agg #[.int .i64 f, .int .i64 sf, .int .u64 sh, .int .u64 sl, .int .i64 df, .int .u64 dh, .int .u64 dl, .int .i64 pr, .int .i64 ho, .bool fg, .int .u32 id, .int .i64 of, .bool mo, .slice xa xn xc, .slice da dn dc]] w fun e w' => ∃ a' c', e = .returned (.slice a' (fh pr of mo id).length c') ∧ Fresh w w' a' c' (fh pr of mo id) := by
  obtain ⟨W1, hW1⟩ : ∃ W1, w.alloc (.cells #[.int .i64 f, .int .i64 sf, .int .u64 sh, .int .u64 sl, .int .i64 df, .int .u64 dh, .int .u64 dl, .int .i64 pr, .int .i64 ho, .bool fg, .int .u32 id, .int .i64 of, .bool mo, .slice xa xn xc, .slice da dn dc] 38) = W1 := ⟨_, rfl⟩
  have b1 : Below w.heap.size w W1 := by rw [← hW1]; exact (Below.refl _ _).alloc (Nat.le_refl _) _
  have s1 : SIp W1 w.heap.size (.int .i64 f) (.int .i64 sf) (.int .u64 sh) (.int .u64 sl) (.int .i64 df) (.int .u64 dh) (.int .u64 dl) (.int .i64 pr) (.int .i64 ho) (.bool fg) (.int .u32 id) (.int .i64 of) (.bool mo) (.slice xa xn xc) (.slice da dn dc) := by rw [← hW1]; exact sIp_new w _ _ _ _ _ _ _ _ _ _ _ _ _ _ _
  have d7 := s1.c7
  have d10 := s1.c10
  have d11 := s1.c11
  have d12 := s1.c12
  have lt1 : w.heap.size < W1.heap.size := World.block_lt_of_cell? W1 _ d7
  have ho1 := or_one of h0 h1 h8
  have HBY : Hid (M.Bytes [pr, 0]) := by
    have : M.Bytes [pr, 0] := by
      intro x hx
      simp at hx
      rcases hx with rfl | rfl <;> omega
    exact this
  have wp : IntKind.u8.wrap pr = pr := by rw [IntKind.wrap_u8]; omega
  clear s1
  cases mo with
  | false =>
    have e : fh pr of false id = put32 (put16 [pr, 0] of) id := by simp [fh]
    rw [e]
    clear e
    obtain ⟨M1, hM1⟩ : ∃ M1, put16 [pr, 0] of = M1 := ⟨_, rfl⟩
    obtain ⟨M2, hM2⟩ : ∃ M2, put32 M1 id = M2 := ⟨_, rfl⟩
    have l1 : M1.length = 4 := by rw [← hM1]; simp [put16]
    rw [hM1, hM2]
    have K1 : Hid (∀ W, Below W1.heap.size W1 W → Row W (some ⟨W1.heap.size, 0, none⟩) [pr, 0] → Calls Try.prog 34 #[.slice (some ⟨W1.heap.size, 0, none⟩) 2 2, .int .i64 (of)] W fun e w' => ∃ a' c', e = .returned (.slice a' 4 c') ∧ w'.cell? ⟨w.heap.size, 7, none⟩ = some (.int .i64 pr) ∧ w'.cell? ⟨w.heap.size, 10, none⟩ = some (.int .u32 id) ∧ Row w' a' M1 ∧ (a' = none → c' = 0) ∧ Below W1.heap.size W1 w') := by
      intro W hW hR
      have := put16_any (some ⟨W1.heap.size, 0, none⟩) 2 [pr, 0] (of) W hR (fun e => by cases e) (by simp)
      rw [hM1, l1] at this
      refine Calls.mono this ?_
      rintro e w' ⟨a', c', rfl, fr⟩
      have hb := hW.trans (fr.below.mono hW.size)
      exact ⟨a', c', rfl, kept hb d7, kept hb d10, fr.row, fr.nil, hb⟩
    have K2 : Hid (∀ W a' c', Below W1.heap.size W1 W → Row W a' M1 → (a' = none → c' = 0) → Calls Try.prog 50 #[.slice a' 4 c', .int .u32 id] W fun e w' => ∃ a2 c2, e = .returned (.slice a2 M2.length c2) ∧ w'.cell? ⟨w.heap.size, 7, none⟩ = some (.int .i64 pr) ∧ w'.cell? ⟨w.heap.size, 10, none⟩ = some (.int .u32 id) ∧ Fresh W w' a2 c2 M2 ∧ Below W1.heap.size W1 w') := by
      intro W a' c' hW hR hn
      have := put32_any a' c' M1 id W hR hn (by omega) hid
      rw [hM2, l1] at this
      refine Calls.mono this ?_
      rintro e w' ⟨a2, c2, rfl, fr⟩
      have hb := hW.trans (fr.below.mono hW.size)
      exact ⟨a2, c2, rfl, kept hb d7, kept hb d10, fr, hb⟩
    clear hM1 hM2
    go_enter Try.func33, Try.ntmps33
    go_wp2_with fail
    go_region_held3 (fun w' => w'.cell? ⟨w.heap.size, 7, none⟩ = some (.int .i64 pr) ∧ w'.cell? ⟨w.heap.size, 10, none⟩ = some (.int .u32 id)) (go_keep) (first
      | (go_at_call 34; refine (K1.out _ (((Below.refl _ _).drew).alloc (by simp) _) (row_at W1.drew 5 [pr, 0] W1.heap.size (by simp) (by simp) HBY.out)).mono ?_; rintro e W2 ⟨a2, c2, rfl, g7, g10, r2, n2, b2⟩)
      | (go_at_call 50; refine (K2.out _ a2 c2 b2 r2 n2).mono ?_; rintro e W3 ⟨a3, c3, rfl, h7, h10, f3, b3⟩))
    go_wp2
    go_ret
    exact ⟨a3, c3, rfl, ⟨owns_le (Nat.le_trans b1.size b2.size) f3.owns, f3.room, f3.nil, f3.row, b1.trans (b3.mono b1.size)⟩⟩
  | true =>
    have e : fh pr of true id = put32 (put16 [pr, 0] (of + 1)) id := by simp [fh]
    rw [e]
    clear e
    obtain ⟨M1, hM1⟩ : ∃ M1, put16 [pr, 0] (of + 1) = M1 := ⟨_, rfl⟩
    obtain ⟨M2, hM2⟩ : ∃ M2, put32 M1 id = M2 := ⟨_, rfl⟩
    have l1 : M1.length = 4 := by rw [← hM1]; simp [put16]
    rw [hM1, hM2]
    have K1 : Hid (∀ W, Below W1.heap.size W1 W → Row W (some ⟨W1.heap.size, 0, none⟩) [pr, 0] → Calls Try.prog 34 #[.slice (some ⟨W1.heap.size, 0, none⟩) 2 2, .int .i64 ((of + 1))] W fun e w' => ∃ a' c', e = .returned (.slice a' 4 c') ∧ w'.cell? ⟨w.heap.size, 7, none⟩ = some (.int .i64 pr) ∧ w'.cell? ⟨w.heap.size, 10, none⟩ = some (.int .u32 id) ∧ Row w' a' M1 ∧ (a' = none → c' = 0) ∧ Below W1.heap.size W1 w') := by
      intro W hW hR
      have := put16_any (some ⟨W1.heap.size, 0, none⟩) 2 [pr, 0] ((of + 1)) W hR (fun e => by cases e) (by simp)
      rw [hM1, l1] at this
      refine Calls.mono this ?_
      rintro e w' ⟨a', c', rfl, fr⟩
      have hb := hW.trans (fr.below.mono hW.size)
      exact ⟨a', c', rfl, kept hb d7, kept hb d10, fr.row, fr.nil, hb⟩
    have K2 : Hid (∀ W a' c', Below W1.heap.size W1 W → Row W a' M1 → (a' = none → c' = 0) → Calls Try.prog 50 #[.slice a' 4 c', .int .u32 id] W fun e w' => ∃ a2 c2, e = .returned (.slice a2 M2.length c2) ∧ w'.cell? ⟨w.heap.size, 7, none⟩ = some (.int .i64 pr) ∧ w'.cell? ⟨w.heap.size, 10, none⟩ = some (.int .u32 id) ∧ Fresh W w' a2 c2 M2 ∧ Below W1.heap.size W1 w') := by
      intro W a' c' hW hR hn
      have := put32_any a' c' M1 id W hR hn (by omega) hid
      rw [hM2, l1] at this
      refine Calls.mono this ?_
      rintro e w' ⟨a2, c2, rfl, fr⟩
      have hb := hW.trans (fr.below.mono hW.size)
      exact ⟨a2, c2, rfl, kept hb d7, kept hb d10, fr, hb⟩
    clear hM1 hM2
    go_enter Try.func33, Try.ntmps33
    go_wp2_with fail
    go_region_held3 (fun w' => w'.cell? ⟨w.heap.size, 7, none⟩ = some (.int .i64 pr) ∧ w'.cell? ⟨w.heap.size, 10, none⟩ = some (.int .u32 id)) (go_keep) (first
      | (go_at_call 34; refine (K1.out _ (((Below.refl _ _).drew).alloc (by simp) _) (row_at W1.drew 5 [pr, 0] W1.heap.size (by simp) (by simp) HBY.out)).mono ?_; rintro e W2 ⟨a2, c2, rfl, g7, g10, r2, n2, b2⟩)
      | (go_at_call 50; refine (K2.out _ a2 c2 b2 r2 n2).mono ?_; rintro e W3 ⟨a3, c3, rfl, h7, h10, f3, b3⟩))
    go_wp2
    go_ret
    exact ⟨a3, c3, rfl, ⟨owns_le (Nat.le_trans b1.size b2.size) f3.owns, f3.room, f3.nil, f3.row, b1.trans (b3.mono b1.size)⟩⟩
end Go.Proofs.Ytmnkdogdligckaa
