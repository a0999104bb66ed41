/- The same packets; a small packet; it is built and read. -/
import Derived.Test.YtpcdmjjlgoeglaaIp4P
import Derived.Test.YtpcdmjjlgoeglaaIp4E
import Derived.Deep.RegionHeld3
namespace Go.Proofs.Ytpcdmjjlgoeglaa
open Go.RowKit
set_option linter.unusedVariables false
set_option linter.unusedSimpArgs false

theorem Fresh.cap_le {w w' : World} {a : Option Addr} {c : Nat} {l : List Int} (f : Fresh w w' a c l) : c ≤ 9223372036854775807 := by
  obtain ⟨_, h⟩ := f.owns
  rcases h with ⟨h3, _⟩ | ⟨g, cap, cur, h3, h4, h5, h6, h7, _⟩
  · simp only [Value.slice.injEq] at h3
    omega
  · simp only [Value.slice.injEq] at h3
    obtain ⟨_, _, rfl⟩ := h3
    unfold maxLen at h7
    omega

set_option maxRecDepth 100000 in
set_option maxHeartbeats 4000000 in
theorem same_ip (f sf sh sl df dh dl pr ho : Int) (fg : Bool) (id of : Int) (mo : Bool) (xa : Option Addr) (xc : Nat) (ya : Option Addr) (yc : Nat) (a : Option Addr) (c : Nat) (b : Option Addr) (d : Nat) (l : List Int) (w : World) (ha : Row w a l) (hb : Row w b l) :
    Calls Try.prog 11 #[.agg #[.int .i64 f, .int .i64 sf, .int .u64 sh, .int .u64 sl, .int .i64 df, .int .u64 dh, .int .u64 dl, .int .i64 pr, .int .i64 ho, .bool fg, .int .u32 id, .int .i64 of, .bool mo, .slice xa 0 xc, .slice a l.length c], .agg #[.int .i64 f, .int .i64 sf, .int .u64 sh, .int .u64 sl, .int .i64 df, .int .u64 dh, .int .u64 dl, .int .i64 pr, .int .i64 ho, .bool fg, .int .u32 id, .int .i64 of, .bool mo, .slice ya 0 yc, .slice b l.length d]] w fun e w' => e = .returned (.bool true) ∧ Below w.heap.size w w' := by
  have bb : Below w.heap.size w ((w.alloc (.cells #[.int .i64 f, .int .i64 sf, .int .u64 sh, .int .u64 sl, .int .i64 df, .int .u64 dh, .int .u64 dl, .int .i64 pr, .int .i64 ho, .bool fg, .int .u32 id, .int .i64 of, .bool mo, .slice xa 0 xc, .slice a l.length c] 29)).alloc (.cells #[.int .i64 f, .int .i64 sf, .int .u64 sh, .int .u64 sl, .int .i64 df, .int .u64 dh, .int .u64 dl, .int .i64 pr, .int .i64 ho, .bool fg, .int .u32 id, .int .i64 of, .bool mo, .slice ya 0 yc, .slice b l.length d] 29)) := ((Below.refl _ _).alloc (Nat.le_refl _) _).alloc (by simp) _
  have ha2 := ha.below bb
  have hb2 := hb.below bb
  have KK : Hid (Calls Try.prog 7 #[.slice a l.length c, .slice b l.length d] ((w.alloc (.cells #[.int .i64 f, .int .i64 sf, .int .u64 sh, .int .u64 sl, .int .i64 df, .int .u64 dh, .int .u64 dl, .int .i64 pr, .int .i64 ho, .bool fg, .int .u32 id, .int .i64 of, .bool mo, .slice xa 0 xc, .slice a l.length c] 29)).alloc (.cells #[.int .i64 f, .int .i64 sf, .int .u64 sh, .int .u64 sl, .int .i64 df, .int .u64 dh, .int .u64 dl, .int .i64 pr, .int .i64 ho, .bool fg, .int .u32 id, .int .i64 of, .bool mo, .slice ya 0 yc, .slice b l.length d] 29)) _) := same_any a b c d l _ ha2 hb2
  have BB : Hid _ := bb
  clear ha hb ha2 hb2 bb
  go_enter Try.func11, Try.ntmps11
  go_wp2
  go_loop [5] (fun i => i = .int .i64 0) (fun _ => 0)
  case atStart => rfl
  case round =>
    subst hrel
    go_wp2_with fail
    refine KK.out.mono ?_
    rintro e w' ⟨rfl, rfl⟩
    go_wp2
    go_ret
    exact ⟨rfl, BB.out⟩

theorem small_ret {R : Ending → World → Prop} {a : Act} {w : World} {g : Nat} {v0 v1 v2 v3 v4 v5 v6 v7 v8 v9 v10 v11 v12 v13 v14 : Value} (s : SIp w g v0 v1 v2 v3 v4 v5 v6 v7 v8 v9 v10 v11 v12 v13 v14) (h2 : a.tmps[0]?.getD undef = .pointer (some ⟨g, 0, none⟩)) (hd : a.defers = [])
    (hR : R (.returned (.agg #[v0, v1, v2, v3, v4, v5, v6, v7, v8, v9, v10, v11, v12, v13, v14])) w) : bodyPost Try.prog Try.f23 R .ret a w := by
  obtain ⟨c0, c1, c2, c3, c4, c5, c6, c7, c8, c9, c10, c11, c12, c13, c14⟩ := s
  refine bodyPost_ret (v := .agg #[v0, v1, v2, v3, v4, v5, v6, v7, v8, v9, v10, v11, v12, v13, v14]) ?_ hd hR
  simp [results, Try.results23, go_sem, h2, c0, c1, c2, c3, c4, c5, c6, c7, c8, c9, c10, c11, c12, c13, c14]

set_option maxRecDepth 100000 in
set_option maxHeartbeats 2000000 in
theorem small_any (w : World) :
    Calls Try.prog 23 #[] w fun e w' => ∃ g, e = .returned (.agg #[.int .i64 4, .int .i64 4, .int .u64 0, .int .u64 167772161, .int .i64 4, .int .u64 0, .int .u64 167772162, .int .i64 17, .int .i64 64, .bool false, .int .u32 0, .int .i64 0, .bool false, .slice none 0 0, .slice (some ⟨g, 0, none⟩) 4 4]) ∧ Row w' (some ⟨g, 0, none⟩) [1, 2, 3, 4] ∧ Below w.heap.size w w' := by
  obtain ⟨g, hg⟩ : ∃ g, w.heap.size = g := ⟨_, rfl⟩
  obtain ⟨W0, hW0⟩ : ∃ W0, (w.alloc (.cells zIp 29)).alloc (.cells #[.int .u8 1, .int .u8 2, .int .u8 3, .int .u8 4] 5) = W0 := ⟨_, rfl⟩
  have b1 : Below (w.alloc (.cells zIp 29)).heap.size (w.alloc (.cells zIp 29)) W0 := by rw [← hW0]; exact (Below.refl _ _).alloc (Nat.le_refl _) _
  have zz : ZIp W0 w.heap.size := (zIp_new w).below (by simp) b1
  have bb : Hid (Below w.heap.size w W0) := ((Below.refl _ _).alloc (Nat.le_refl _) _).trans (b1.mono (by simp))
  have rr : Hid (Row W0 (some ⟨w.heap.size + 1, 0, none⟩) [1, 2, 3, 4]) := by
    rw [← hW0]
    exact row_at (w.alloc (.cells zIp 29)) 5 [1, 2, 3, 4] (w.heap.size + 1) (by simp) (by simp) (M.Bytes.of rfl)
  have Z : Hid (ZIp W0 w.heap.size) := zz
  obtain ⟨d0, d1, d2, d3, d4, d5, d6, d7, d8, d9, d10, d11, d12, d13, d14, dz⟩ := zz
  clear b1 hg
  go_enter Try.func23, Try.ntmps23
  go_wp2
  refine small_ret (sIp_set Z.out _ _ _ _ _ _ _ _ _ _ _ _ _ _ _) rfl rfl ⟨w.heap.size + 1, rfl, ?_, set15_below bb.out (Nat.le_refl _) _ _ _ _ _ _ _ _ _ _ _ _ _ _ _⟩
  exact ⟨by simp, M.Bytes.of rfl, fun _ => ⟨_, _, rfl, fun i hi => by
    obtain ⟨b', off', e', hc⟩ := rr.out.cells (by simp)
    simp only [Option.some.injEq, Addr.mk.injEq] at e'
    obtain ⟨rfl, rfl, _⟩ := e'
    iterate 15 (rw [put_other (by simp)])
    exact hc i hi⟩⟩

/-- The small packet. -/
def sPk : Pk := ⟨4, ⟨4, 0, 167772161⟩, ⟨4, 0, 167772162⟩, 17, 64, false, 0, 0, false, [1, 2, 3, 4]⟩
theorem sPk_ok : sPk.ok := by
  constructor <;> first | exact M.Bytes.of rfl | (simp [sPk, Ad.ok])
theorem sPk_may : May sPk := (may_iff (x := 0)).1 (by decide) |>.1
theorem sPk_bare : sPk.bare = sPk := rfl
theorem sPk_read : perr sPk.made = 0 ∧ parsed sPk.made = sPk := by
  have h := made_reads sPk_may
  refine ⟨h, ?_⟩
  unfold parsed
  rw [if_pos h]
  exact made_pkt sPk_may sPk_ok (bare_isBare sPk)
theorem sPk_len : sPk.made.length = 24 := by rw [made_len sPk_may]; rfl
theorem sPk_0 : sPk.made.getD 0 0 = 69 := by rw [made_at 0 (by omega)]; rfl
theorem sPk_9 : sPk.made.getD 9 0 = 17 := by rw [made_at 9 (by omega)]; rfl

set_option maxRecDepth 100000 in
set_option maxHeartbeats 4000000 in
theorem alive_any (w : World) :
    Calls Try.prog 8 #[] w fun e w' => e = .returned (.bool true) ∧ Below w.heap.size w w' := by
  go_enter Try.func8, Try.ntmps8
  go_wp2_with fail
  refine (small_any w).mono ?_
  rintro e W0 ⟨g0, rfl, r0, b0⟩
  have KB : Hid (Calls Try.prog 5 #[.agg #[.int .i64 4, .int .i64 4, .int .u64 0, .int .u64 167772161, .int .i64 4, .int .u64 0, .int .u64 167772162, .int .i64 17, .int .i64 64, .bool false, .int .u32 0, .int .i64 0, .bool false, .slice none 0 0, .slice (some ⟨g0, 0, none⟩) 4 4]] W0 fun e w' => ∃ a' c', e = .returned (.tuple #[.slice a' 24 c', .int .i64 0]) ∧ Fresh W0 w' a' c' sPk.made) := by
    have := build_yes 4 4 0 167772161 4 0 167772162 17 64 false 0 0 false none 0 (some ⟨g0, 0, none⟩) [1, 2, 3, 4] 4 W0 r0 (fun h => by cases h) sPk_ok sPk_may
    refine this.mono ?_
    rintro e w' ⟨a', c', rfl, fr⟩
    have fr' : Fresh W0 w' a' c' sPk.made := fr
    exact ⟨a', c', by show Ending.returned (.tuple #[.slice a' sPk.made.length c', _]) = _; rw [sPk_len], fr'⟩
  clear r0
  go_wp2_with fail
  refine KB.out.mono ?_
  rintro e W1 ⟨a1, c1, rfl, f1⟩
  have b1 := b0.trans (f1.below.mono b0.size)
  obtain ⟨gb, rfl, _⟩ := Owns.at f1.owns f1.row (by rw [sPk_len]; omega)
  have c0 := f1.row.cell 0 (by rw [sPk_len]; omega)
  have c9 := f1.row.cell 9 (by rw [sPk_len]; omega)
  rw [sPk_0] at c0
  rw [sPk_9] at c9
  have KP : Hid (Calls Try.prog 9 #[.slice (some ⟨gb, 0, none⟩) 24 c1] W1 fun e w' => ∃ a' c', e = .returned (.tuple #[.agg #[.int .i64 4, .int .i64 4, .int .u64 0, .int .u64 167772161, .int .i64 4, .int .u64 0, .int .u64 167772162, .int .i64 17, .int .i64 64, .bool false, .int .u32 0, .int .i64 0, .bool false, .slice none 0 0, .slice a' 4 c'], .int .i64 0]) ∧ Fresh W1 w' a' c' [1, 2, 3, 4]) := by
    have hcap := f1.cap_le
    have := parse_any (some ⟨gb, 0, none⟩) c1 sPk.made W1 f1.row (fun h => by cases h) (by rw [sPk_len]; omega) f1.room hcap
    rw [sPk_len, sPk_read.1, sPk_read.2] at this
    exact this
  have B1 : Hid (Below w.heap.size w W1) := b1
  clear f1 b0 b1 KB
  go_wp2_with fail
  refine KP.out.mono ?_
  rintro e W2 ⟨a2, c2, rfl, f2⟩
  obtain ⟨gp, hgp⟩ : ∃ gp, W2.heap.size = gp := ⟨_, rfl⟩
  obtain ⟨W3, hW3⟩ : ∃ W3, W2.alloc (.cells #[.int .i64 4, .int .i64 4, .int .u64 0, .int .u64 167772161, .int .i64 4, .int .u64 0, .int .u64 167772162, .int .i64 17, .int .i64 64, .bool false, .int .u32 0, .int .i64 0, .bool false, .slice none 0 0, .slice a2 4 c2] 29) = W3 := ⟨_, rfl⟩
  have b23 : Below W2.heap.size W2 W3 := by rw [← hW3]; exact (Below.refl _ _).alloc (Nat.le_refl _) _
  have s3 : SIp W3 gp (.int .i64 4) (.int .i64 4) (.int .u64 0) (.int .u64 167772161) (.int .i64 4) (.int .u64 0) (.int .u64 167772162) (.int .i64 17) (.int .i64 64) (.bool false) (.int .u32 0) (.int .i64 0) (.bool false) (.slice none 0 0) (.slice a2 4 c2) := by rw [← hW3, ← hgp]; exact sIp_new W2 _ _ _ _ _ _ _ _ _ _ _ _ _ _ _
  have b13 : Below W1.heap.size W1 W3 := f2.below.trans (b23.mono f2.below.size)
  have x0 := kept b13 c0
  have x9 := kept b13 c9
  have r3 : Hid (Row W3 a2 [1, 2, 3, 4]) := f2.row.below b23
  have B3 : Hid (Below w.heap.size w W3) := B1.out.trans (b13.mono B1.out.size)
  have st : ∀ W, Below W3.heap.size W3 W → W.cell? ⟨gb, 0, none⟩ = some (.int .u8 69) ∧ W.cell? ⟨gb, 9, none⟩ = some (.int .u8 17) ∧ W.cell? ⟨gp, 0, none⟩ = some (.int .i64 4) ∧ W.cell? ⟨gp, 1, none⟩ = some (.int .i64 4) ∧ W.cell? ⟨gp, 2, none⟩ = some (.int .u64 0) ∧ W.cell? ⟨gp, 3, none⟩ = some (.int .u64 167772161) ∧ W.cell? ⟨gp, 4, none⟩ = some (.int .i64 4) ∧ W.cell? ⟨gp, 5, none⟩ = some (.int .u64 0) ∧ W.cell? ⟨gp, 6, none⟩ = some (.int .u64 167772162) ∧ W.cell? ⟨gp, 7, none⟩ = some (.int .i64 17) ∧ W.cell? ⟨gp, 8, none⟩ = some (.int .i64 64) ∧ W.cell? ⟨gp, 9, none⟩ = some (.bool false) ∧ W.cell? ⟨gp, 10, none⟩ = some (.int .u32 0) ∧ W.cell? ⟨gp, 11, none⟩ = some (.int .i64 0) ∧ W.cell? ⟨gp, 12, none⟩ = some (.bool false) ∧ W.cell? ⟨gp, 13, none⟩ = some (.slice none 0 0) ∧ W.cell? ⟨gp, 14, none⟩ = some (.slice a2 4 c2) := fun W hW => by
    obtain ⟨d0, d1, d2, d3, d4, d5, d6, d7, d8, d9, d10, d11, d12, d13, d14⟩ := s3.below (by rw [← hgp, ← hW3]; simp) hW
    exact ⟨kept hW x0, kept hW x9, d0, d1, d2, d3, d4, d5, d6, d7, d8, d9, d10, d11, d12, d13, d14⟩
  have K1 : Hid (∀ W, Below W3.heap.size W3 W → Calls Try.prog 23 #[] W fun e w' => ∃ g, e = .returned (.agg #[.int .i64 4, .int .i64 4, .int .u64 0, .int .u64 167772161, .int .i64 4, .int .u64 0, .int .u64 167772162, .int .i64 17, .int .i64 64, .bool false, .int .u32 0, .int .i64 0, .bool false, .slice none 0 0, .slice (some ⟨g, 0, none⟩) 4 4]) ∧ (w'.cell? ⟨gb, 0, none⟩ = some (.int .u8 69) ∧ w'.cell? ⟨gb, 9, none⟩ = some (.int .u8 17) ∧ w'.cell? ⟨gp, 0, none⟩ = some (.int .i64 4) ∧ w'.cell? ⟨gp, 1, none⟩ = some (.int .i64 4) ∧ w'.cell? ⟨gp, 2, none⟩ = some (.int .u64 0) ∧ w'.cell? ⟨gp, 3, none⟩ = some (.int .u64 167772161) ∧ w'.cell? ⟨gp, 4, none⟩ = some (.int .i64 4) ∧ w'.cell? ⟨gp, 5, none⟩ = some (.int .u64 0) ∧ w'.cell? ⟨gp, 6, none⟩ = some (.int .u64 167772162) ∧ w'.cell? ⟨gp, 7, none⟩ = some (.int .i64 17) ∧ w'.cell? ⟨gp, 8, none⟩ = some (.int .i64 64) ∧ w'.cell? ⟨gp, 9, none⟩ = some (.bool false) ∧ w'.cell? ⟨gp, 10, none⟩ = some (.int .u32 0) ∧ w'.cell? ⟨gp, 11, none⟩ = some (.int .i64 0) ∧ w'.cell? ⟨gp, 12, none⟩ = some (.bool false) ∧ w'.cell? ⟨gp, 13, none⟩ = some (.slice none 0 0) ∧ w'.cell? ⟨gp, 14, none⟩ = some (.slice a2 4 c2)) ∧ Row w' (some ⟨g, 0, none⟩) [1, 2, 3, 4] ∧ Below W3.heap.size W3 w') := by
    intro W hW
    refine (small_any W).mono ?_
    rintro e w' ⟨g, rfl, hr, hb⟩
    have hb' := hW.trans (hb.mono hW.size)
    exact ⟨g, rfl, st w' hb', hr, hb'⟩
  have K2 : Hid (∀ (g : Nat) (W : World), Row W (some ⟨g, 0, none⟩) [1, 2, 3, 4] → Below W3.heap.size W3 W → Calls Try.prog 11 #[.agg #[.int .i64 4, .int .i64 4, .int .u64 0, .int .u64 167772161, .int .i64 4, .int .u64 0, .int .u64 167772162, .int .i64 17, .int .i64 64, .bool false, .int .u32 0, .int .i64 0, .bool false, .slice none 0 0, .slice a2 4 c2], .agg #[.int .i64 4, .int .i64 4, .int .u64 0, .int .u64 167772161, .int .i64 4, .int .u64 0, .int .u64 167772162, .int .i64 17, .int .i64 64, .bool false, .int .u32 0, .int .i64 0, .bool false, .slice none 0 0, .slice (some ⟨g, 0, none⟩) 4 4]] W fun e w' => e = .returned (.bool true) ∧ (w'.cell? ⟨gb, 0, none⟩ = some (.int .u8 69) ∧ w'.cell? ⟨gb, 9, none⟩ = some (.int .u8 17) ∧ w'.cell? ⟨gp, 0, none⟩ = some (.int .i64 4) ∧ w'.cell? ⟨gp, 1, none⟩ = some (.int .i64 4) ∧ w'.cell? ⟨gp, 2, none⟩ = some (.int .u64 0) ∧ w'.cell? ⟨gp, 3, none⟩ = some (.int .u64 167772161) ∧ w'.cell? ⟨gp, 4, none⟩ = some (.int .i64 4) ∧ w'.cell? ⟨gp, 5, none⟩ = some (.int .u64 0) ∧ w'.cell? ⟨gp, 6, none⟩ = some (.int .u64 167772162) ∧ w'.cell? ⟨gp, 7, none⟩ = some (.int .i64 17) ∧ w'.cell? ⟨gp, 8, none⟩ = some (.int .i64 64) ∧ w'.cell? ⟨gp, 9, none⟩ = some (.bool false) ∧ w'.cell? ⟨gp, 10, none⟩ = some (.int .u32 0) ∧ w'.cell? ⟨gp, 11, none⟩ = some (.int .i64 0) ∧ w'.cell? ⟨gp, 12, none⟩ = some (.bool false) ∧ w'.cell? ⟨gp, 13, none⟩ = some (.slice none 0 0) ∧ w'.cell? ⟨gp, 14, none⟩ = some (.slice a2 4 c2)) ∧ Below W3.heap.size W3 w') := by
    intro g W hg hW
    refine (same_ip 4 4 0 167772161 4 0 167772162 17 64 false 0 0 false none 0 none 0 a2 c2 (some ⟨g, 0, none⟩) 4 [1, 2, 3, 4] W (r3.out.below hW) hg).mono ?_
    rintro e w' ⟨rfl, hb⟩
    have hb' := hW.trans (hb.mono hW.size)
    exact ⟨rfl, st w' hb', hb'⟩
  obtain ⟨q0, q1, q2, q3, q4, q5, q6, q7, q8, q9, q10, q11, q12, q13, q14, q15, q16⟩ := st W3 (Below.refl _ _)
  clear f2 b23 s3 b13 x0 x9 c0 c9 KP st
  go_wp2
  go_region_held3 (fun w'' => w''.cell? ⟨gb, 0, none⟩ = some (.int .u8 69) ∧ w''.cell? ⟨gb, 9, none⟩ = some (.int .u8 17) ∧ w''.cell? ⟨gp, 0, none⟩ = some (.int .i64 4) ∧ w''.cell? ⟨gp, 1, none⟩ = some (.int .i64 4) ∧ w''.cell? ⟨gp, 2, none⟩ = some (.int .u64 0) ∧ w''.cell? ⟨gp, 3, none⟩ = some (.int .u64 167772161) ∧ w''.cell? ⟨gp, 4, none⟩ = some (.int .i64 4) ∧ w''.cell? ⟨gp, 5, none⟩ = some (.int .u64 0) ∧ w''.cell? ⟨gp, 6, none⟩ = some (.int .u64 167772162) ∧ w''.cell? ⟨gp, 7, none⟩ = some (.int .i64 17) ∧ w''.cell? ⟨gp, 8, none⟩ = some (.int .i64 64) ∧ w''.cell? ⟨gp, 9, none⟩ = some (.bool false) ∧ w''.cell? ⟨gp, 10, none⟩ = some (.int .u32 0) ∧ w''.cell? ⟨gp, 11, none⟩ = some (.int .i64 0) ∧ w''.cell? ⟨gp, 12, none⟩ = some (.bool false) ∧ w''.cell? ⟨gp, 13, none⟩ = some (.slice none 0 0) ∧ w''.cell? ⟨gp, 14, none⟩ = some (.slice a2 4 c2)) (go_keep) (first
    | (go_at_call 23; refine (K1.out _ (Below.refl _ _).drew).mono ?_; rintro e W4 ⟨g4, rfl, ⟨r0, r1, r2, r3, r4, r5, r6, r7, r8, r9, r10, r11, r12, r13, r14, r15, r16⟩, r4, b4⟩)
    | (go_at_call 11; refine (K2.out _ _ r4 b4).mono ?_; rintro e W5 ⟨rfl, ⟨s0, s1, s2, s3, s4, s5, s6, s7, s8, s9, s10, s11, s12, s13, s14, s15, s16⟩, b5⟩))
  all_goals go_wp2
  all_goals go_ret
  all_goals exact ⟨rfl, B3.out.trans (b5.mono B3.out.size)⟩
end Go.Proofs.Ytpcdmjjlgoeglaa
