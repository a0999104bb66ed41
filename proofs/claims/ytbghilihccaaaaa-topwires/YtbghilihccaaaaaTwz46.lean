/- Texts joined: Ip6O Ip6Ba -/
import Derived.Test.YtbghilihccaaaaaTwz38
import Derived.Test.YtbghilihccaaaaaTwz45
namespace Go.Proofs.Ytbghilihccaaaaa
open Go.RowKit
set_option linter.unusedVariables false
set_option linter.unusedSimpArgs false
theorem or_one (x : Int) (h0 : 0 ≤ x) (h1 : x ≤ 65535) (h8 : x % 8 = 0) : bits .or .i64 x 1 = x + 1 :=
  bits_join .i64 63 (by decide) (fun n h₀ h₁ => wraps_i64 n h₀ h₁) 3 x 1 h0 (by omega) (by omega) (by omega) (by omega) (by omega)
/-- A fragment's header. -/
def fh (pr of : Int) (mo : Bool) (id : Int) : List Int := put32 (put16 [pr, 0] (of + if mo = true then 1 else 0)) id
set_option maxRecDepth 100000 in
set_option maxHeartbeats 4000000 in
theorem fragmentHead_any (f sf sh sl df dh dl pr ho : Int) (fg : Bool) (id of : Int) (mo : Bool) (xa : Option Addr) (xn xc : Nat) (da : Option Addr) (dn dc : Nat) (w : World) (h0 : 0 ≤ of) (h1 : of ≤ 65535) (h8 : of % 8 = 0) (q0 : 0 ≤ pr) (q1 : pr ≤ 255) (hid : 0 ≤ id ∧ id ≤ 4294967295) :
    Calls Try.prog 67 #[.agg #[.int .i64 f, .int .i64 sf, .int .u64 sh, .int .u64 sl, .int .i64 df, .int .u64 dh, .int .u64 dl, .int .i64 pr, .int .i64 ho, .bool fg, .int .u32 id, .int .i64 of, .bool mo, .slice xa xn xc, .slice da dn dc]] w fun e w' => ∃ a' c', e = .returned (.slice a' (fh pr of mo id).length c') ∧ Fresh w w' a' c' (fh pr of mo id) := by
  obtain ⟨W1, hW1⟩ : ∃ W1, w.alloc (.cells #[.int .i64 f, .int .i64 sf, .int .u64 sh, .int .u64 sl, .int .i64 df, .int .u64 dh, .int .u64 dl, .int .i64 pr, .int .i64 ho, .bool fg, .int .u32 id, .int .i64 of, .bool mo, .slice xa xn xc, .slice da dn dc] 42) = W1 := ⟨_, rfl⟩
  have b1 : Below w.heap.size w W1 := by rw [← hW1]; exact (Below.refl _ _).alloc (Nat.le_refl _) _
  have s1 : SIp W1 w.heap.size (.int .i64 f) (.int .i64 sf) (.int .u64 sh) (.int .u64 sl) (.int .i64 df) (.int .u64 dh) (.int .u64 dl) (.int .i64 pr) (.int .i64 ho) (.bool fg) (.int .u32 id) (.int .i64 of) (.bool mo) (.slice xa xn xc) (.slice da dn dc) := by rw [← hW1]; exact sIp_new w _ _ _ _ _ _ _ _ _ _ _ _ _ _ _
  have d7 := s1.c7
  have d10 := s1.c10
  have d11 := s1.c11
  have d12 := s1.c12
  have lt1 : w.heap.size < W1.heap.size := World.block_lt_of_cell? W1 _ d7
  have ho1 := or_one of h0 h1 h8
  have HBY : Hid (M.Bytes [pr, 0]) := by
    have : M.Bytes [pr, 0] := by
      intro x hx
      simp at hx
      rcases hx with rfl | rfl <;> omega
    exact this
  have wp : IntKind.u8.wrap pr = pr := by rw [IntKind.wrap_u8]; omega
  clear s1
  cases mo with
  | false =>
    have e : fh pr of false id = put32 (put16 [pr, 0] of) id := by simp [fh]
    rw [e]
    clear e
    obtain ⟨M1, hM1⟩ : ∃ M1, put16 [pr, 0] of = M1 := ⟨_, rfl⟩
    obtain ⟨M2, hM2⟩ : ∃ M2, put32 M1 id = M2 := ⟨_, rfl⟩
    have l1 : M1.length = 4 := by rw [← hM1]; simp [put16]
    rw [hM1, hM2]
    have K1 : Hid (∀ W, Below W1.heap.size W1 W → Row W (some ⟨W1.heap.size, 0, none⟩) [pr, 0] → Calls Try.prog 53 #[.slice (some ⟨W1.heap.size, 0, none⟩) 2 2, .int .i64 (of)] W fun e w' => ∃ a' c', e = .returned (.slice a' 4 c') ∧ w'.cell? ⟨w.heap.size, 7, none⟩ = some (.int .i64 pr) ∧ w'.cell? ⟨w.heap.size, 10, none⟩ = some (.int .u32 id) ∧ Row w' a' M1 ∧ (a' = none → c' = 0) ∧ Below W1.heap.size W1 w') := by
      intro W hW hR
      have := put16_any (some ⟨W1.heap.size, 0, none⟩) 2 [pr, 0] (of) W hR (fun e => by cases e) (by simp)
      rw [hM1, l1] at this
      refine Calls.mono this ?_
      rintro e w' ⟨a', c', rfl, fr⟩
      have hb := hW.trans (fr.below.mono hW.size)
      exact ⟨a', c', rfl, kept hb d7, kept hb d10, fr.row, fr.nil, hb⟩
    have K2 : Hid (∀ W a' c', Below W1.heap.size W1 W → Row W a' M1 → (a' = none → c' = 0) → Calls Try.prog 81 #[.slice a' 4 c', .int .u32 id] W fun e w' => ∃ a2 c2, e = .returned (.slice a2 M2.length c2) ∧ w'.cell? ⟨w.heap.size, 7, none⟩ = some (.int .i64 pr) ∧ w'.cell? ⟨w.heap.size, 10, none⟩ = some (.int .u32 id) ∧ Fresh W w' a2 c2 M2 ∧ Below W1.heap.size W1 w') := by
      intro W a' c' hW hR hn
      have := put32_any a' c' M1 id W hR hn (by omega) hid
      rw [hM2, l1] at this
      refine Calls.mono this ?_
      rintro e w' ⟨a2, c2, rfl, fr⟩
      have hb := hW.trans (fr.below.mono hW.size)
      exact ⟨a2, c2, rfl, kept hb d7, kept hb d10, fr, hb⟩
    clear hM1 hM2
    go_enter Try.func67, Try.ntmps67
    go_wp2_with fail
    go_region_held3 (fun w' => w'.cell? ⟨w.heap.size, 7, none⟩ = some (.int .i64 pr) ∧ w'.cell? ⟨w.heap.size, 10, none⟩ = some (.int .u32 id)) (go_keep) (first
      | (go_at_call 53; refine (K1.out _ (((Below.refl _ _).drew).alloc (by simp) _) (row_at W1.drew 5 [pr, 0] W1.heap.size (by simp) (by simp) HBY.out)).mono ?_; rintro e W2 ⟨a2, c2, rfl, g7, g10, r2, n2, b2⟩)
      | (go_at_call 81; refine (K2.out _ a2 c2 b2 r2 n2).mono ?_; rintro e W3 ⟨a3, c3, rfl, h7, h10, f3, b3⟩))
    go_wp2
    go_ret
    exact ⟨a3, c3, rfl, ⟨owns_le (Nat.le_trans b1.size b2.size) f3.owns, f3.room, f3.nil, f3.row, b1.trans (b3.mono b1.size)⟩⟩
  | true =>
    have e : fh pr of true id = put32 (put16 [pr, 0] (of + 1)) id := by simp [fh]
    rw [e]
    clear e
    obtain ⟨M1, hM1⟩ : ∃ M1, put16 [pr, 0] (of + 1) = M1 := ⟨_, rfl⟩
    obtain ⟨M2, hM2⟩ : ∃ M2, put32 M1 id = M2 := ⟨_, rfl⟩
    have l1 : M1.length = 4 := by rw [← hM1]; simp [put16]
    rw [hM1, hM2]
    have K1 : Hid (∀ W, Below W1.heap.size W1 W → Row W (some ⟨W1.heap.size, 0, none⟩) [pr, 0] → Calls Try.prog 53 #[.slice (some ⟨W1.heap.size, 0, none⟩) 2 2, .int .i64 ((of + 1))] W fun e w' => ∃ a' c', e = .returned (.slice a' 4 c') ∧ w'.cell? ⟨w.heap.size, 7, none⟩ = some (.int .i64 pr) ∧ w'.cell? ⟨w.heap.size, 10, none⟩ = some (.int .u32 id) ∧ Row w' a' M1 ∧ (a' = none → c' = 0) ∧ Below W1.heap.size W1 w') := by
      intro W hW hR
      have := put16_any (some ⟨W1.heap.size, 0, none⟩) 2 [pr, 0] ((of + 1)) W hR (fun e => by cases e) (by simp)
      rw [hM1, l1] at this
      refine Calls.mono this ?_
      rintro e w' ⟨a', c', rfl, fr⟩
      have hb := hW.trans (fr.below.mono hW.size)
      exact ⟨a', c', rfl, kept hb d7, kept hb d10, fr.row, fr.nil, hb⟩
    have K2 : Hid (∀ W a' c', Below W1.heap.size W1 W → Row W a' M1 → (a' = none → c' = 0) → Calls Try.prog 81 #[.slice a' 4 c', .int .u32 id] W fun e w' => ∃ a2 c2, e = .returned (.slice a2 M2.length c2) ∧ w'.cell? ⟨w.heap.size, 7, none⟩ = some (.int .i64 pr) ∧ w'.cell? ⟨w.heap.size, 10, none⟩ = some (.int .u32 id) ∧ Fresh W w' a2 c2 M2 ∧ Below W1.heap.size W1 w') := by
      intro W a' c' hW hR hn
      have := put32_any a' c' M1 id W hR hn (by omega) hid
      rw [hM2, l1] at this
      refine Calls.mono this ?_
      rintro e w' ⟨a2, c2, rfl, fr⟩
      have hb := hW.trans (fr.below.mono hW.size)
      exact ⟨a2, c2, rfl, kept hb d7, kept hb d10, fr, hb⟩
    clear hM1 hM2
    go_enter Try.func67, Try.ntmps67
    go_wp2_with fail
    go_region_held3 (fun w' => w'.cell? ⟨w.heap.size, 7, none⟩ = some (.int .i64 pr) ∧ w'.cell? ⟨w.heap.size, 10, none⟩ = some (.int .u32 id)) (go_keep) (first
      | (go_at_call 53; refine (K1.out _ (((Below.refl _ _).drew).alloc (by simp) _) (row_at W1.drew 5 [pr, 0] W1.heap.size (by simp) (by simp) HBY.out)).mono ?_; rintro e W2 ⟨a2, c2, rfl, g7, g10, r2, n2, b2⟩)
      | (go_at_call 81; refine (K2.out _ a2 c2 b2 r2 n2).mono ?_; rintro e W3 ⟨a3, c3, rfl, h7, h10, f3, b3⟩))
    go_wp2
    go_ret
    exact ⟨a3, c3, rfl, ⟨owns_le (Nat.le_trans b1.size b2.size) f3.owns, f3.room, f3.nil, f3.row, b1.trans (b3.mono b1.size)⟩⟩
theorem rowss_five (w : World) (t : TypeId) (n : Nat) (hn : n = w.heap.size) (a b c d g : Option Addr) (ca cb cc cd cg : Nat) (la lb lc ld lg : List Int) (ha : Row w a la) (hb : Row w b lb) (hc : Row w c lc) (hd : Row w d ld) (hg : Row w g lg) :
    Rowss (w.alloc (.cells #[.slice a la.length ca, .slice b lb.length cb, .slice c lc.length cc, .slice d ld.length cd, .slice g lg.length cg] t)) (some ⟨n, 0, none⟩) [la, lb, lc, ld, lg] := by
  subst hn
  refine ⟨by simp, fun _ => ⟨w.heap.size, 0, rfl, fun i hi => ?_⟩⟩
  have hi' : i < 5 := by simpa using hi
  match i, hi' with
  | 0, _ => exact ⟨a, ca, by simp, ha.alloc _⟩
  | 1, _ => exact ⟨b, cb, by simp, hb.alloc _⟩
  | 2, _ => exact ⟨c, cc, by simp, hc.alloc _⟩
  | 3, _ => exact ⟨d, cd, by simp, hd.alloc _⟩
  | 4, _ => exact ⟨g, cg, by simp, hg.alloc _⟩
theorem five_nil (w : World) (t : TypeId) (a b c d g : Option Addr) (ca cb cc cd cg : Nat) (la lb lc ld lg : List Int) (ha : a = none → ca = 0) (hb : b = none → cb = 0) (hc : c = none → cc = 0) (hd : d = none → cd = 0) (hg : g = none → cg = 0) :
    ∀ i, i < ([la, lb, lc, ld, lg] : List (List Int)).length → ∀ a' c', (∃ b' off, (some (⟨w.heap.size, 0, none⟩ : Addr)) = some ⟨b', off, none⟩ ∧ (w.alloc (.cells #[.slice a la.length ca, .slice b lb.length cb, .slice c lc.length cc, .slice d ld.length cd, .slice g lg.length cg] t)).cell? ⟨b', off + i, none⟩ = some (.slice a' (([la, lb, lc, ld, lg] : List (List Int)).getD i []).length c')) → a' = none → c' = 0 := by
  rintro i hi a' c' ⟨b', off, e, h⟩
  simp only [Option.some.injEq, Addr.mk.injEq] at e
  obtain ⟨rfl, rfl, _⟩ := e
  have hi' : i < 5 := by simpa using hi
  match i, hi', h with
  | 0, _, h => simp at h; obtain ⟨rfl, rfl⟩ := h; exact ha
  | 1, _, h => simp at h; obtain ⟨rfl, rfl⟩ := h; exact hb
  | 2, _, h => simp at h; obtain ⟨rfl, rfl⟩ := h; exact hc
  | 3, _, h => simp at h; obtain ⟨rfl, rfl⟩ := h; exact hd
  | 4, _, h => simp at h; obtain ⟨rfl, rfl⟩ := h; exact hg
/-- The bytes of a packet that may be. -/
def made6 (nx ho : Int) (SB DB E dat : List Int) : List Int := [put16 [96, 0, 0, 0] ((E.length : Int) + dat.length) ++ [nx, ho], SB, DB, E, dat].flatten
theorem bytes_le (a : Ad) : (Ad.bytes a).length ≤ 16 := by
  unfold Ad.bytes
  split
  · split
    · simp [bytesGo_length]
    · simp [bytesGo_length]
  · simp
set_option maxRecDepth 100000 in
set_option maxHeartbeats 4000000 in
theorem build6_na (f sf sh sl df dh dl pr ho : Int) (fg : Bool) (id of : Int) (mo : Bool) (xa : Option Addr) (xc : Nat) (X : List Int) (da : Option Addr) (dat : List Int) (dc : Nat) (w : World) (hx : RowI w xa X) (hdr : Row w da dat) (hdn : da = none → dc = 0) (hsrc : Ad.ok ⟨sf, sh, sl⟩) (hdst : Ad.ok ⟨df, dh, dl⟩) (hid : 0 ≤ id ∧ id ≤ 4294967295) (hof : -9223372036854775808 ≤ of ∧ of ≤ 9223372036854775807) (hn : (rn f sf df pr ho && rx fg X && decide (dat.length ≤ 65000)) = false) :
    Calls Try.prog 41 #[.agg #[.int .i64 f, .int .i64 sf, .int .u64 sh, .int .u64 sl, .int .i64 df, .int .u64 dh, .int .u64 dl, .int .i64 pr, .int .i64 ho, .bool fg, .int .u32 id, .int .i64 of, .bool mo, .slice xa X.length xc, .slice da dat.length dc]] w fun e w' => e = .returned (.tuple #[.slice none 0 0, .int .i64 1]) ∧ Below w.heap.size w w' := by
  obtain ⟨W1, hW1⟩ : ∃ W1, w.alloc (.cells #[.int .i64 f, .int .i64 sf, .int .u64 sh, .int .u64 sl, .int .i64 df, .int .u64 dh, .int .u64 dl, .int .i64 pr, .int .i64 ho, .bool fg, .int .u32 id, .int .i64 of, .bool mo, .slice xa X.length xc, .slice da dat.length dc] 42) = W1 := ⟨_, rfl⟩
  have b1 : Below w.heap.size w W1 := by rw [← hW1]; exact (Below.refl _ _).alloc (Nat.le_refl _) _
  have P1 : Blk W1 w.heap.size 42 #[.int .i64 f, .int .i64 sf, .int .u64 sh, .int .u64 sl, .int .i64 df, .int .u64 dh, .int .u64 dl, .int .i64 pr, .int .i64 ho, .bool fg, .int .u32 id, .int .i64 of, .bool mo, .slice xa X.length xc, .slice da dat.length dc] := by rw [← hW1]; exact blk_new _ _ _
  have hdl := hdr.small
  have KH : Hid _ := rightHead6_any f sf sh sl df dh dl pr ho fg id of mo xa xc X da dat.length dc W1 (hx.below b1) hdl
  rw [hn] at KH
  clear hn hx hsrc hdst
  go_enter Try.func41, Try.ntmps41
  go_wp2_with (refine wpList_load_row rfl _ _ rfl w.heap.size (by rfl) _ _ _ _ P1 Try.underlying42 rfl (by kernel_rfl) ?_)
  refine Calls.mono KH.out ?_
  rintro e W2 ⟨rfl, bb⟩
  have b2 : Below w.heap.size w W2 := b1.trans (bb.mono b1.size)
  clear KH bb P1 b1 hW1
  go_wp2_with fail
  go_ret2
  exact ⟨rfl, b2⟩
set_option maxRecDepth 100000 in
set_option maxHeartbeats 4000000 in
theorem build6_nb (f sf sh sl df dh dl pr ho : Int) (id of : Int) (mo : Bool) (xa : Option Addr) (xc : Nat) (X : List Int) (da : Option Addr) (dat : List Int) (dc : Nat) (w : World) (hx : RowI w xa X) (hdr : Row w da dat) (hdn : da = none → dc = 0) (hsrc : Ad.ok ⟨sf, sh, sl⟩) (hdst : Ad.ok ⟨df, dh, dl⟩) (hid : 0 ≤ id ∧ id ≤ 4294967295) (hof : -9223372036854775808 ≤ of ∧ of ≤ 9223372036854775807) (hn : (rn f sf df pr ho && rx true X && decide (dat.length ≤ 65000)) = true) (hp : rp of mo dat.length = false) :
    Calls Try.prog 41 #[.agg #[.int .i64 f, .int .i64 sf, .int .u64 sh, .int .u64 sl, .int .i64 df, .int .u64 dh, .int .u64 dl, .int .i64 pr, .int .i64 ho, .bool true, .int .u32 id, .int .i64 of, .bool mo, .slice xa X.length xc, .slice da dat.length dc]] w fun e w' => e = .returned (.tuple #[.slice none 0 0, .int .i64 1]) ∧ Below w.heap.size w w' := by
  obtain ⟨W1, hW1⟩ : ∃ W1, w.alloc (.cells #[.int .i64 f, .int .i64 sf, .int .u64 sh, .int .u64 sl, .int .i64 df, .int .u64 dh, .int .u64 dl, .int .i64 pr, .int .i64 ho, .bool true, .int .u32 id, .int .i64 of, .bool mo, .slice xa X.length xc, .slice da dat.length dc] 42) = W1 := ⟨_, rfl⟩
  have b1 : Below w.heap.size w W1 := by rw [← hW1]; exact (Below.refl _ _).alloc (Nat.le_refl _) _
  have P1 : Blk W1 w.heap.size 42 #[.int .i64 f, .int .i64 sf, .int .u64 sh, .int .u64 sl, .int .i64 df, .int .u64 dh, .int .u64 dl, .int .i64 pr, .int .i64 ho, .bool true, .int .u32 id, .int .i64 of, .bool mo, .slice xa X.length xc, .slice da dat.length dc] := by rw [← hW1]; exact blk_new _ _ _
  have hdl := hdr.small
  have KH : Hid _ := rightHead6_any f sf sh sl df dh dl pr ho true id of mo xa xc X da dat.length dc W1 (hx.below b1) hdl
  rw [hn] at KH
  clear hn hx hsrc hdst
  go_enter Try.func41, Try.ntmps41
  go_wp2_with (refine wpList_load_row rfl _ _ rfl w.heap.size (by rfl) _ _ _ _ P1 Try.underlying42 rfl (by kernel_rfl) ?_)
  refine Calls.mono KH.out ?_
  rintro e W2 ⟨rfl, bb⟩
  have b2 : Below w.heap.size w W2 := b1.trans (bb.mono b1.size)
  have P2 := P1.kept bb
  have d9 := P2.cell 9 (.bool true) rfl
  have KP : Hid _ := rightPlace6_any f sf sh sl df dh dl pr ho true id of mo xa X.length xc da dat.length dc W2 hdl hof
  rw [hp] at KP
  clear KH bb P1 b1 hW1 hp
  go_wp2_with (refine wpList_load_blk_w (by kernel_rfl) _ _ rfl w.heap.size (by rfl) _ P2 Try.underlying42 (by kernel_rfl) ?_)
  refine Calls.mono KP.out ?_
  rintro e W3 ⟨rfl, bb⟩
  have b3 : Below w.heap.size w W3 := b2.trans (bb.mono b2.size)
  clear KP bb P2 b2 d9
  go_wp2_with fail
  go_ret2
  exact ⟨rfl, b3⟩
end Go.Proofs.Ytbghilihccaaaaa
