/- Texts joined: Byt MaskLaw Back RefReads Anys Ip4M -/
import Derived.Test.YtpjjkdgmfjhfiaaSgrR1
import Derived.Laws.OwnMore
namespace Go.Proofs.Ytpjjkdgmfjhfiaa
open Go.RowKit
set_option linter.unusedVariables false
set_option linter.unusedSimpArgs false
/-- The n lowest bytes of two words, the highest first. -/
def bytesGo : Nat → Int → Int → List Int
  | 0, _, _ => []
  | n + 1, h, l => bytesGo n (h / 256) (l / 256 + h * 72057594037927936 % 18446744073709551616) ++ [l % 256]
theorem bytesGo_length : ∀ (n : Nat) (h l : Int), (bytesGo n h l).length = n
  | 0, _, _ => rfl
  | n + 1, h, l => by simp [bytesGo, bytesGo_length n]
def Ad.bytes (a : Ad) : List Int := if a.right then bytesGo (if a.fam = 4 then 4 else 16) a.hi a.lo else []
theorem or_comm64 (x y : Int) : bits .or .u64 x y = bits .or .u64 y x := by
  show IntKind.u64.wrap ((BitVec.ofInt 64 x ||| BitVec.ofInt 64 y).toNat : Int) = IntKind.u64.wrap ((BitVec.ofInt 64 y ||| BitVec.ofInt 64 x).toNat : Int)
  rw [BitVec.or_comm]
theorem or_high (x y : Int) (hx0 : 0 ≤ x) (hx1 : x < 72057594037927936) (hy0 : 0 ≤ y) : bits .or .u64 x (IntKind.u64.wrap (y * 72057594037927936)) = x + y * 72057594037927936 % 18446744073709551616 := by
  rw [IntKind.wrap_u64, or_comm64]
  rw [bits_join .u64 64 (by decide) (fun n h₀ h₁ => by rw [IntKind.wrap_u64]; omega) 56 _ x (by omega) (by omega) (by omega) hx0 (by omega) (by omega)]
  omega
theorem owns_new {w : World} {B g : Nat} {l : List Int} (hb : B ≤ g) (hm : l.length ≤ maxLen) (hg : w.heap[g]? = some (.cells (l.map (Value.int .u8)).toArray 5 (0, 0))) :
    Owns w B (.slice (some ⟨g, 0, none⟩) l.length l.length) l :=
  ⟨by simp, .inr ⟨g, l.length, _, rfl, hb, hg, Nat.le_refl _, hm, by simp, by rw [Nat.mul_one]; exact List.take_of_length_le (by simp)⟩⟩
theorem put_other {w : World} {a b : Addr} {v : Value} (h : a ≠ b) : (w.setCell a v).cell? b = w.cell? b := by
  apply World.cell?_setCell_other
  exact h
theorem put_same {w : World} {a : Addr} {v u : Value} (h : w.cell? a = some u) : (w.setCell a v).cell? a = some v := by
  apply World.cell?_setCell_same
  exact h
theorem made_zeros (N : Nat) : (madeCells #[Value.int .u8 0] N).toList = List.replicate N (Value.int .u8 0) := by
  apply List.ext_getElem
  · simp [madeCells]
  · intro i h1 h2
    simp [madeCells, Nat.mod_one]
theorem owns_le {w : World} {B B' : Nat} {v : Value} {l : List Int} (h : B' ≤ B) (o : Owns w B v l) : Owns w B' v l := by
  obtain ⟨h1, h2⟩ := o
  refine ⟨h1, ?_⟩
  rcases h2 with h2 | ⟨g, cap, cur, h3, h4, h5⟩
  · exact .inl h2
  · exact .inr ⟨g, cap, cur, h3, Nat.le_trans h h4, h5⟩
theorem World.heap_new (w : World) (o : Obj) : (w.alloc o).heap[w.heap.size]? = some o := by
  show (w.heap.push o)[w.heap.size]? = _
  simp
set_option maxRecDepth 100000 in
set_option maxHeartbeats 1000000 in
theorem bytes_any (f h l : Int) (w : World) (ho : Ad.ok ⟨f, h, l⟩) :
    Calls Try.prog 25 #[.agg #[.int .i64 f, .int .u64 h, .int .u64 l]] w fun e w' => ∃ a c, e = .returned (.slice a (Ad.bytes ⟨f, h, l⟩).length c) ∧ Fresh w w' a c (Ad.bytes ⟨f, h, l⟩) := by
  obtain ⟨i0, hi, hz0, hz1, hz2⟩ := info_parts info_u8
  have hr := right_any f h l
  have hwd := width_any f h l
  cases hR : Ad.right ⟨f, h, l⟩ with
  | false =>
    rw [hR] at hr
    have e0 : Ad.bytes ⟨f, h, l⟩ = [] := by simp [Ad.bytes, hR]
    rw [e0]
    go_enter Try.func25, Try.ntmps25
    go_wp2_with (go_at_call 48; refine (hr _).mono ?_; rintro e w' ⟨rfl, rfl⟩)
    go_ret
    exact ⟨none, 0, rfl, Owns.nil _ _, Nat.le_refl _, fun _ => rfl, ⟨by simp, M.Bytes.nil, fun h => by simp at h⟩, ((Below.refl _ _).alloc (Nat.le_refl _) _).alloc (by simp) _⟩
  | true =>
    rw [hR] at hr
    obtain ⟨N, hN⟩ : ∃ N : Nat, (if f = 4 then 4 else 16) = N := ⟨_, rfl⟩
    have hN16 : N = 4 ∨ N = 16 := by rw [← hN]; split <;> simp
    have e0 : Ad.bytes ⟨f, h, l⟩ = bytesGo N h l := by simp [Ad.bytes, hR, hN]
    have ew : Ad.width ⟨f, h, l⟩ = (N : Int) * 8 := by unfold Ad.width; simp only; rw [← hN]; split <;> simp
    rw [e0]
    rw [ew] at hwd
    have hdiv : ((N : Int) * 8).tdiv 8 = N := by rw [Int.mul_tdiv_cancel _ (by decide)]
    clear e0 ew hR hN
    have hmk : ∀ W, (Instr.makeSlice 28 (.int .i64 (N : Int)) (.int .i64 (N : Int))).run Try.prog W = .ok (.slice (some ⟨W.heap.size, 0, none⟩) N N) (W.alloc (.cells (madeCells #[Value.int .u8 0] N) 5)) := fun W => by
      have hr := run_make (P := Try.prog) W 28 5 i0 (.int .u8 0) Try.underlying28 hi hz0 .i64 .i64 (N : Int) (N : Int) (by omega) (Int.le_refl _) (by rw [hz2]; omega) (by omega)
      rw [Int.toNat_natCast, hz1, Nat.mul_one] at hr
      exact hr
    obtain ⟨Z, hZ⟩ : ∃ Z, madeCells #[Value.int .u8 0] N = Z := ⟨_, rfl⟩
    rw [hZ] at hmk
    have ZL : Hid (Z = ((List.replicate N (0 : Int)).map (Value.int .u8)).toArray) := by
      show _ = _
      apply Array.ext'
      rw [← hZ, made_zeros]
      simp
    obtain ⟨⟨_, _⟩, ⟨hh0, hh1⟩, ⟨hl0, hl1⟩⟩ := ho
    simp only at hh0 hh1 hl0 hl1
    have hNle : N ≤ 16 := by omega
    clear hZ hi hz0 hz1 hz2 hN16
    go_enter Try.func25, Try.ntmps25
    go_wp2_with (first
      | (go_at_call 48; refine (hr _).mono ?_; rintro e w' ⟨rfl, rfl⟩)
      | (go_at_call 50; refine (hwd _).mono ?_; rintro e w' ⟨rfl, rfl⟩))
    obtain ⟨g, hg⟩ : ∃ g, w.heap.size + 1 + 1 + 1 = g := ⟨_, rfl⟩
    obtain ⟨W, hW⟩ : ∃ W, (((w.alloc (.cells #[.int .i64 f, .int .u64 h, .int .u64 l] 24)).alloc (.cells #[.int .i64 f, .int .u64 h, .int .u64 l] 24)).alloc (.cells #[.int .i64 f, .int .u64 h, .int .u64 l] 24)).alloc (.cells Z 5) = W := ⟨_, rfl⟩
    have bA : Below (w.alloc (.cells #[.int .i64 f, .int .u64 h, .int .u64 l] 24)).heap.size (w.alloc (.cells #[.int .i64 f, .int .u64 h, .int .u64 l] 24)) W := by rw [← hW]; exact (((Below.refl _ _).alloc (Nat.le_refl _) _).alloc (by simp) _).alloc (by simp <;> omega) _
    have k1 : W.cell? ⟨w.heap.size, 1, none⟩ = some (.int .u64 h) := kept bA (by simp)
    have k2 : W.cell? ⟨w.heap.size, 2, none⟩ = some (.int .u64 l) := kept bA (by simp)
    have kf : ∀ o, W.frozen? ⟨w.heap.size, o, none⟩ = false := fun o => (bA.frozen (p := ⟨w.heap.size, o, none⟩) (by simp)).trans (by simp)
    have bW : Below w.heap.size w W := by rw [← hW]; exact ((((Below.refl _ _).alloc (Nat.le_refl _) _).alloc (by simp) _).alloc (by simp; omega) _).alloc (by simp; omega) _
    have oW : Owns W (w.heap.size + 1) (.slice (some ⟨g, 0, none⟩) (List.replicate N (0 : Int)).length N) (List.replicate N 0) := by
      have h1 : W.heap[g]? = some (.cells ((List.replicate N (0 : Int)).map (Value.int .u8)).toArray 5 (0, 0)) := by
        rw [← hW, ← hg]
        have e := World.heap_new (((w.alloc (.cells #[.int .i64 f, .int .u64 h, .int .u64 l] 24)).alloc (.cells #[.int .i64 f, .int .u64 h, .int .u64 l] 24)).alloc (.cells #[.int .i64 f, .int .u64 h, .int .u64 l] 24)) (.cells Z 5)
        simp only [World.size_alloc] at e
        rw [e, ZL.out]
      have := owns_new (B := w.heap.size + 1) (by omega) (by simp [maxLen]; omega) h1
      simpa using this
    have hgne : g ≠ w.heap.size := by omega
    have hgne' : w.heap.size ≠ g := by omega
    rw [hW, hg]
    clear hW ZL hmk hwd hr hdiv
    have hge : w.heap.size + 1 ≤ g := by omega
    clear hg
    go_loopw [4] (fun i w' => ∃ (j : Nat) (h' l' : Int) (L : List Int), i = .int .i64 ((j : Int) - 1) ∧ j ≤ N ∧ (0 ≤ h' ∧ h' ≤ 18446744073709551615) ∧ (0 ≤ l' ∧ l' ≤ 18446744073709551615) ∧
        w'.cell? ⟨w.heap.size, 1, none⟩ = some (.int .u64 h') ∧ w'.cell? ⟨w.heap.size, 2, none⟩ = some (.int .u64 l') ∧ (∀ o, w'.frozen? ⟨w.heap.size, o, none⟩ = false) ∧ Below w.heap.size w w' ∧
        Owns w' (w.heap.size + 1) (.slice (some ⟨g, 0, none⟩) L.length N) L ∧ M.Bytes L ∧ Hid (L.length = N ∧ bytesGo N h l = bytesGo j h' l' ++ L.drop j)) (fun i _ => (intOf i + 1).toNat)
    case atStart => exact ⟨N, h, l, List.replicate N 0, rfl, Nat.le_refl _, ⟨hh0, hh1⟩, ⟨hl0, hl1⟩, k1, k2, kf, bW, oW, fun z hz => by have := List.eq_of_mem_replicate hz; omega, by simp, by rw [List.drop_eq_nil_of_le (by simp)]; simp⟩
    case round =>
      obtain ⟨j, h', l', L, rfl, hj, hh', hl', c1, c2, cf, bel, own, hLb, hr⟩ := hrel
      cases j with
      | zero =>
        go_wp2
        go_ret
        obtain ⟨e1, e2⟩ := hr.out
        simp only [bytesGo, List.nil_append, List.drop_zero] at e2
        rw [e2]
        have ow : Owns wr w.heap.size (.slice (some ⟨g, 0, none⟩) L.length N) L := owns_le (by omega) own
        exact ⟨some ⟨g, 0, none⟩, N, by rw [e1]; rfl, ow, by omega, (fun hh => by cases hh), ow.row (by omega) hLb, bel⟩
      | succ j =>
        have ej : ((j + 1 : Nat) : Int) - 1 = (j : Int) := by omega
        rw [ej]
        have ijn : (j : Int) < (N : Int) := by omega
        have hjL : j < L.length := by rw [hr.out.1]; omega
        have hcj : wr.cell? ⟨g, j, none⟩ = some (.int .u8 (L.getD j 0)) := by
          obtain ⟨b, off, e, hc⟩ := (own.row (by have := hr.out.1; omega) hLb).cells (by omega)
          cases e
          have := hc j hjL
          rwa [Nat.zero_add] at this
        have fz := own.frozen j
        have e1 := or_high (l' / 256) h' (by omega) (by omega) hh'.1
        go_wp2
        refine ⟨⟨j, h' / 256, l' / 256 + h' * 72057594037927936 % 18446744073709551616, L.set j (l' % 256), rfl, by omega, by omega, by omega, ?_, ?_, ?_, ?_, ?_, ?_, ?_⟩, by simp [intOf] <;> omega⟩
        · exact put_same (u := .int .u64 h') (by rw [put_other (by simp), put_other (by simp [hgne])]; exact c1)
        · rw [put_other (by simp)]
          exact put_same (u := .int .u64 l') (by rw [put_other (by simp [hgne])]; exact c2)
        · intro o
          simp [cf]
        · exact ((bel.setCell (by simp; omega) _).setCell (by simp) _).setCell (by simp) _
        · have o1 := own.stored j (l' % 256)
          rw [List.length_set]
          exact ownsRow_setCell_below (ownsRow_setCell_below o1 (by simp) _) (by simp) _
        · intro z hz
          rcases List.mem_or_eq_of_mem_set hz with hz | rfl
          · exact hLb z hz
          · omega
        · obtain ⟨e2, e3⟩ := hr.out
          refine ⟨by rw [List.length_set]; exact e2, ?_⟩
          rw [e3, List.drop_eq_getElem_cons (l := L.set j (l' % 256)) (by simp; omega), List.getElem_set_self, List.drop_set_of_lt (by omega)]
          simp [bytesGo]
end Go.Proofs.Ytpjjkdgmfjhfiaa
namespace Go.Proofs.Ytpjjkdgmfjhfiaa
set_option linter.unusedVariables false
theorem pow_pos' (k : Nat) : (0 : Int) < 2 ^ k := Int.pow_pos (by decide)
/-- Both words as one number. -/
def num2 (h l : Int) : Int := h * 18446744073709551616 + l
end Go.Proofs.Ytpjjkdgmfjhfiaa
namespace Go.Proofs.Ytpjjkdgmfjhfiaa
open Go.RowKit
set_option linter.unusedVariables false
set_option maxHeartbeats 400000 in
theorem ru16_no (a : Option Addr) (c : Nat) (l : List Int) (x : Int) (w : World) (hl : l.length ≤ 140737488351232) (hx : -9223372036854775808 ≤ x ∧ x ≤ 9223372036854775807) (hn : liesB l.length x 2 = false) :
    Calls Try.prog 60 #[.slice a l.length c, .int .i64 x] w fun e w' => e = .returned (.tuple #[.int .i64 0, .bool false]) ∧ w' = w := by
  go_enter Try.func60, Try.ntmps60
  go_wp2_with (go_at_call 74; refine (rpart_no _ _ _ _ _ _ hl hx hn).mono ?_; rintro e w' ⟨rfl, rfl⟩)
  go_ret2
  exact ⟨rfl, rfl⟩
set_option maxHeartbeats 400000 in
theorem ru16_yes (a : Option Addr) (c : Nat) (l : List Int) (x : Int) (w : World) (h : Row w a l) (hnil : a = none → c = 0) (hl : l.length ≤ 140737488351232) (hc : l.length ≤ c) (hcm : c ≤ 9223372036854775807) (hx : 0 ≤ x) (hn : x + 2 ≤ (l.length : Int)) :
    Calls Try.prog 60 #[.slice a l.length c, .int .i64 x] w fun e w' => e = .returned (.tuple #[.int .i64 (u16 l x), .bool true]) ∧ Below w.heap.size w w' := by
  have hlen : (part l x 2).length = 2 := by unfold part; simp; omega
  have e0 : (part l x 2).getD 0 0 = l.getD x.toNat 0 := by unfold part; simp
  have e1 : (part l x 2).getD 1 0 = l.getD (x.toNat + 1) 0 := by unfold part; simp
  have b0 := h.bytes.get x.toNat
  have b1 := h.bytes.get (x.toNat + 1)
  unfold u16
  rw [← e0] at b0 ⊢
  rw [← e1] at b1 ⊢
  clear e0 e1
  generalize hy0 : (part l x 2).getD 0 0 = y0 at *
  generalize hy1 : (part l x 2).getD 1 0 = y1 at *
  have Y0 : Hid ((part l x 2).getD 0 0 = y0) := hy0
  have Y1 : Hid ((part l x 2).getD 1 0 = y1) := hy1
  clear hy0 hy1
  go_enter Try.func60, Try.ntmps60
  go_wp2_with fail
  refine (rpart_yes _ _ _ _ 2 _ h hnil hl hc hcm hx (by omega) (by omega)).mono ?_
  rintro e w' ⟨a', c', rfl, hf⟩
  have hr := hf.row
  generalize part l x 2 = r at *
  obtain ⟨b, off, rfl, hcc⟩ := hr.cells (by omega)
  have c0 := hcc 0 (by omega)
  rw [Nat.add_zero] at c0
  have c1 := hcc 1 (by omega)
  rw [Y0.out] at c0
  rw [Y1.out] at c1
  clear hcc
  have k0 : (0 : Int) < (r.length : Int) := by omega
  have k1 : (1 : Int) < (r.length : Int) := by omega
  have hb := hf.below
  clear hf hr h hn
  go_wp2_with fail
  go_quiet (fail)
  go_wp2
  go_ret2
  exact ⟨tup_int (i64_or8 _ _ b0.1 b0.2 b1.1 b1.2), below_drewN hb nq⟩
set_option maxHeartbeats 400000 in
theorem ru32_no (a : Option Addr) (c : Nat) (l : List Int) (x : Int) (w : World) (hl : l.length ≤ 140737488351232) (hx : -9223372036854775808 ≤ x ∧ x ≤ 9223372036854775807) (hn : liesB l.length x 4 = false) :
    Calls Try.prog 59 #[.slice a l.length c, .int .i64 x] w fun e w' => e = .returned (.tuple #[.int .u32 0, .bool false]) ∧ w' = w := by
  go_enter Try.func59, Try.ntmps59
  go_wp2_with (go_at_call 74; refine (rpart_no _ _ _ _ _ _ hl hx hn).mono ?_; rintro e w' ⟨rfl, rfl⟩)
  go_ret2
  exact ⟨rfl, rfl⟩
set_option maxHeartbeats 400000 in
theorem ru32_yes (a : Option Addr) (c : Nat) (l : List Int) (x : Int) (w : World) (h : Row w a l) (hnil : a = none → c = 0) (hl : l.length ≤ 140737488351232) (hc : l.length ≤ c) (hcm : c ≤ 9223372036854775807) (hx : 0 ≤ x) (hn : x + 4 ≤ (l.length : Int)) :
    Calls Try.prog 59 #[.slice a l.length c, .int .i64 x] w fun e w' => e = .returned (.tuple #[.int .u32 (u32 l x), .bool true]) ∧ Below w.heap.size w w' := by
  have hlen : (part l x 4).length = 4 := by unfold part; simp; omega
  have e0 : (part l x 4).getD 0 0 = l.getD x.toNat 0 := by unfold part; simp
  have e1 : (part l x 4).getD 1 0 = l.getD (x.toNat + 1) 0 := by unfold part; simp
  have e2 : (part l x 4).getD 2 0 = l.getD (x.toNat + 2) 0 := by unfold part; simp
  have e3 : (part l x 4).getD 3 0 = l.getD (x.toNat + 3) 0 := by unfold part; simp
  have b0 := h.bytes.get x.toNat
  have b1 := h.bytes.get (x.toNat + 1)
  have b2 := h.bytes.get (x.toNat + 2)
  have b3 := h.bytes.get (x.toNat + 3)
  unfold u32
  rw [← e0] at b0 ⊢
  rw [← e1] at b1 ⊢
  rw [← e2] at b2 ⊢
  rw [← e3] at b3 ⊢
  clear e0 e1 e2 e3
  generalize hy0 : (part l x 4).getD 0 0 = y0 at *
  generalize hy1 : (part l x 4).getD 1 0 = y1 at *
  generalize hy2 : (part l x 4).getD 2 0 = y2 at *
  generalize hy3 : (part l x 4).getD 3 0 = y3 at *
  have Y0 : Hid ((part l x 4).getD 0 0 = y0) := hy0
  have Y1 : Hid ((part l x 4).getD 1 0 = y1) := hy1
  have Y2 : Hid ((part l x 4).getD 2 0 = y2) := hy2
  have Y3 : Hid ((part l x 4).getD 3 0 = y3) := hy3
  clear hy0 hy1 hy2 hy3
  go_enter Try.func59, Try.ntmps59
  go_wp2_with fail
  refine (rpart_yes _ _ _ _ 4 _ h hnil hl hc hcm hx (by omega) (by omega)).mono ?_
  rintro e w' ⟨a', c', rfl, hf⟩
  have hr := hf.row
  generalize part l x 4 = r at *
  obtain ⟨b, off, rfl, hcc⟩ := hr.cells (by omega)
  have c0 := hcc 0 (by omega)
  rw [Nat.add_zero] at c0
  have c1 := hcc 1 (by omega)
  have c2 := hcc 2 (by omega)
  have c3 := hcc 3 (by omega)
  rw [Y0.out] at c0
  rw [Y1.out] at c1
  rw [Y2.out] at c2
  rw [Y3.out] at c3
  clear hcc
  have k0 : (0 : Int) < (r.length : Int) := by omega
  have k1 : (1 : Int) < (r.length : Int) := by omega
  have k2 : (2 : Int) < (r.length : Int) := by omega
  have k3 : (3 : Int) < (r.length : Int) := by omega
  have hb := hf.below
  clear hf hr h hn
  go_wp2_with fail
  go_quiet (fail)
  go_wp2
  go_ret2
  exact ⟨tup_int (u32_or4 _ _ _ _ b0.1 b0.2 b1.1 b1.2 b2.1 b2.2 b3.1 b3.2), below_drewN hb nq⟩
def u16v (l : List Int) (x : Int) : Int := if liesB l.length x 2 then u16 l x else 0
def u32v (l : List Int) (x : Int) : Int := if liesB l.length x 4 then u32 l x else 0
def partv (l : List Int) (x n : Int) : List Int := if liesB l.length x n then part l x n else []
theorem lies_yes {len : Nat} {x n : Int} (h : liesB len x n = true) : 0 ≤ x ∧ 0 ≤ n ∧ n ≤ (len : Int) - x := by simpa [liesB] using h
theorem u16_any (a : Option Addr) (c : Nat) (l : List Int) (x : Int) (w : World) (h : Row w a l) (hx : -9223372036854775808 ≤ x ∧ x ≤ 9223372036854775807) :
    Calls Try.prog 83 #[.slice a l.length c, .int .i64 x] w fun e w' => e = .returned (.tuple #[.int .i64 (u16v l x), .bool (liesB l.length x 2)]) ∧ Below w.heap.size w w' := by
  cases hl : liesB l.length x 2 with
  | false =>
    refine (u16_no a c l x w h hx hl).mono ?_
    rintro e w' ⟨rfl, rfl⟩
    unfold u16v; rw [hl]
    exact ⟨rfl, Below.refl _ _⟩
  | true =>
    have := lies_yes hl
    refine (u16_yes a c l x w h (by omega) (by omega)).mono ?_
    rintro e w' ⟨rfl, n, rfl⟩
    unfold u16v; rw [hl]
    exact ⟨rfl, below_drewN (Below.refl _ _) n⟩
theorem u32_any (a : Option Addr) (c : Nat) (l : List Int) (x : Int) (w : World) (h : Row w a l) (hx : -9223372036854775808 ≤ x ∧ x ≤ 9223372036854775807) :
    Calls Try.prog 69 #[.slice a l.length c, .int .i64 x] w fun e w' => e = .returned (.tuple #[.int .u32 (u32v l x), .bool (liesB l.length x 4)]) ∧ Below w.heap.size w w' := by
  cases hl : liesB l.length x 4 with
  | false =>
    refine (u32_no a c l x w h hx hl).mono ?_
    rintro e w' ⟨rfl, rfl⟩
    unfold u32v; rw [hl]
    exact ⟨rfl, Below.refl _ _⟩
  | true =>
    have := lies_yes hl
    refine (u32_yes a c l x w h (by omega) (by omega)).mono ?_
    rintro e w' ⟨rfl, n, rfl⟩
    unfold u32v; rw [hl]
    exact ⟨rfl, below_drewN (Below.refl _ _) n⟩
theorem ru16_any (a : Option Addr) (c : Nat) (l : List Int) (x : Int) (w : World) (h : Row w a l) (hnil : a = none → c = 0) (hll : l.length ≤ 140737488351232) (hc : l.length ≤ c) (hcm : c ≤ 9223372036854775807) (hx : -9223372036854775808 ≤ x ∧ x ≤ 9223372036854775807) :
    Calls Try.prog 60 #[.slice a l.length c, .int .i64 x] w fun e w' => e = .returned (.tuple #[.int .i64 (u16v l x), .bool (liesB l.length x 2)]) ∧ Below w.heap.size w w' := by
  cases hl : liesB l.length x 2 with
  | false =>
    refine (ru16_no a c l x w hll hx hl).mono ?_
    rintro e w' ⟨rfl, rfl⟩
    unfold u16v; rw [hl]
    exact ⟨rfl, Below.refl _ _⟩
  | true =>
    have := lies_yes hl
    refine (ru16_yes a c l x w h hnil hll hc hcm (by omega) (by omega)).mono ?_
    rintro e w' ⟨rfl, hb⟩
    unfold u16v; rw [hl]
    exact ⟨rfl, hb⟩
theorem ru32_any (a : Option Addr) (c : Nat) (l : List Int) (x : Int) (w : World) (h : Row w a l) (hnil : a = none → c = 0) (hll : l.length ≤ 140737488351232) (hc : l.length ≤ c) (hcm : c ≤ 9223372036854775807) (hx : -9223372036854775808 ≤ x ∧ x ≤ 9223372036854775807) :
    Calls Try.prog 59 #[.slice a l.length c, .int .i64 x] w fun e w' => e = .returned (.tuple #[.int .u32 (u32v l x), .bool (liesB l.length x 4)]) ∧ Below w.heap.size w w' := by
  cases hl : liesB l.length x 4 with
  | false =>
    refine (ru32_no a c l x w hll hx hl).mono ?_
    rintro e w' ⟨rfl, rfl⟩
    unfold u32v; rw [hl]
    exact ⟨rfl, Below.refl _ _⟩
  | true =>
    have := lies_yes hl
    refine (ru32_yes a c l x w h hnil hll hc hcm (by omega) (by omega)).mono ?_
    rintro e w' ⟨rfl, hb⟩
    unfold u32v; rw [hl]
    exact ⟨rfl, hb⟩
theorem Fresh.none (w : World) : Fresh w w none 0 [] := ⟨Owns.nil _ _, Nat.le_refl _, fun _ => rfl, ⟨by simp, M.Bytes.nil, fun h => by simp at h⟩, Below.refl _ _⟩
theorem part_any (a : Option Addr) (c : Nat) (l : List Int) (x n : Int) (w : World) (h : Row w a l) (hnil : a = none → c = 0) (hll : l.length ≤ 140737488351232) (hc : l.length ≤ c) (hcm : c ≤ 9223372036854775807) (hx : -9223372036854775808 ≤ x ∧ x ≤ 9223372036854775807) :
    Calls Try.prog 92 #[.slice a l.length c, .int .i64 x, .int .i64 n] w fun e w' => ∃ a' c', e = .returned (.tuple #[.slice a' (partv l x n).length c', .bool (liesB l.length x n)]) ∧ Fresh w w' a' c' (partv l x n) := by
  cases hl : liesB l.length x n with
  | false =>
    refine (part_no a c l x n w hll hx hl).mono ?_
    rintro e w' ⟨rfl, rfl⟩
    unfold partv; rw [hl]
    exact ⟨none, 0, rfl, Fresh.none _⟩
  | true =>
    have := lies_yes hl
    refine (part_yes a c l x n w h hnil hll hc hcm (by omega) (by omega) (by omega)).mono ?_
    rintro e w' ⟨a', c', rfl, hf⟩
    unfold partv; rw [hl]
    exact ⟨a', c', rfl, hf⟩
end Go.Proofs.Ytpjjkdgmfjhfiaa
namespace Go.Proofs.Ytpjjkdgmfjhfiaa
set_option linter.unusedVariables false
set_option linter.unusedSimpArgs false
structure Pk where
  fam : Int
  src : Ad
  dst : Ad
  proto : Int
  hop : Int
  frag : Bool
  id : Int
  off : Int
  more : Bool
  data : List Int
def Pk.none : Pk := ⟨0, ⟨0, 0, 0⟩, ⟨0, 0, 0⟩, 0, 0, false, 0, 0, false, []⟩
/-- A header's options: 0, or the error at the first one that may not be. -/
def optsGo : Nat → List Int → Int
  | 0, _ => 0
  | _ + 1, [] => 0
  | n + 1, x :: r => if x = 0 then 0 else if x = 1 then optsGo n r else if x = 131 ∨ x = 137 then 8
      else if r.length < 1 ∨ r.getD 0 0 < 2 ∨ r.getD 0 0 > r.length + 1 then 7 else optsGo n ((x :: r).drop (r.getD 0 0).toNat)
def opts (b : List Int) : Int := optsGo b.length b
def hd (b : List Int) : Int := b.getD 0 0 % 16 * 4
def sz (b : List Int) : Int := u16 b 2
def pl (b : List Int) : Int := u16 b 6
def mr (b : List Int) : Bool := decide (pl b / 8192 % 2 = 1)
def ofs (b : List Int) : Int := pl b % 8192 * 8
def fr (b : List Int) : Bool := mr b || decide (ofs b ≠ 0)
/-- The first error of bytes, or 0. -/
def perr (b : List Int) : Int :=
  if b.length < 20 then 2
  else if b.getD 0 0 / 16 ≠ 4 then 3
  else if hd b < 20 ∨ hd b > b.length then 4
  else if sz b < hd b ∨ sz b > b.length then 5
  else if M.sumOf [b.take (hd b).toNat] ≠ 65535 then 6
  else if b.getD 8 0 = 0 then 26
  else if pl b / 32768 % 2 ≠ 0 then 10
  else if opts ((b.take (hd b).toNat).drop 20) ≠ 0 then opts ((b.take (hd b).toNat).drop 20)
  else if mr b = true ∧ (sz b - hd b) % 8 ≠ 0 then 5
  else if ofs b + (sz b - hd b) > 65515 then 11 else 0
structure Reads (b : List Int) : Prop where
  long : 20 ≤ b.length
  ver : b.getD 0 0 / 16 = 4
  head0 : 20 ≤ hd b
  head1 : hd b ≤ b.length
  len0 : hd b ≤ sz b
  len1 : sz b ≤ b.length
  sum : M.sumOf [b.take (hd b).toNat] = 65535
  hop : b.getD 8 0 ≠ 0
  flag : pl b / 32768 % 2 = 0
  opt : opts ((b.take (hd b).toNat).drop 20) = 0
  mult : mr b = true → (sz b - hd b) % 8 = 0
  over : ofs b + (sz b - hd b) ≤ 65515
theorem perr_zero {b : List Int} : perr b = 0 ↔ Reads b := by
  constructor
  · intro h
    unfold perr at h
    split at h
    · omega
    split at h
    · omega
    split at h
    · omega
    split at h
    · omega
    split at h
    · omega
    split at h
    · omega
    split at h
    · omega
    split at h
    · next h8 => exact absurd h h8
    split at h
    · omega
    split at h
    · omega
    · next h1 h2 h3 h4 h5 h6 h7 h8 h9 h10 =>
      exact ⟨by omega, by omega, by omega, by omega, by omega, by omega, by simpa using h5, h6, by omega, by simpa using h8, fun hm => by
        have := not_and.1 h9 hm
        omega, by omega⟩
  · rintro ⟨h1, h2, h3, h4, h5, h6, h7, h8, h9, h10, h11, h12⟩
    unfold perr
    rw [if_neg (by omega), if_neg (by omega), if_neg (by omega), if_neg (by omega), if_neg (by simpa using h7), if_neg h8, if_neg (by omega), if_neg (by simpa using h10), if_neg (fun h => h.2 (h11 h.1)), if_neg (by omega)]
def pkt (b : List Int) : Pk :=
  ⟨4, (fromB (part b 12 4)).1, (fromB (part b 16 4)).1, b.getD 9 0, b.getD 8 0, fr b, if fr b then u16 b 4 else 0, ofs b, mr b, part b (hd b) (sz b - hd b)⟩
/-- A packet without Id, Off and More, unless it is a fragment. -/
def Pk.bare (p : Pk) : Pk := if p.frag then p else { p with id := 0, off := 0, more := false }
def Ad.four (a : Ad) : Bool := (a.fam == 4) && a.right
def Pk.mayHead (p : Pk) (exts : Nat) : Bool :=
  (p.fam == 4) && (p.src.four && (p.dst.four && ((exts == 0) && (decide (0 ≤ p.proto) && (decide (p.proto ≤ 255) && (decide (1 ≤ p.hop) && decide (p.hop ≤ 255)))))))
def Pk.mayPlace (p : Pk) : Bool :=
  decide (p.id ≤ 65535) && (decide (0 ≤ p.off) && (decide (p.off % 8 = 0) && (decide (p.off ≤ 65515 - p.data.length) && ((!p.frag || (p.more || decide (p.off ≠ 0))) && (!p.more || decide ((p.data.length : Int) % 8 = 0))))))
structure Pk.ok (p : Pk) : Prop where
  fam : -9223372036854775808 ≤ p.fam ∧ p.fam ≤ 9223372036854775807
  src : p.src.ok
  dst : p.dst.ok
  proto : -9223372036854775808 ≤ p.proto ∧ p.proto ≤ 9223372036854775807
  hop : -9223372036854775808 ≤ p.hop ∧ p.hop ≤ 9223372036854775807
  id : 0 ≤ p.id ∧ p.id ≤ 4294967295
  off : -9223372036854775808 ≤ p.off ∧ p.off ≤ 9223372036854775807
  data : M.Bytes p.data
  len : p.data.length ≤ 140737488351232
def Pk.may (p : Pk) (exts : Nat) : Bool := p.mayHead exts && p.mayPlace
def Pk.place (p : Pk) : Int := p.off / 8 + (if p.more then 8192 else 0)
def Pk.front (p : Pk) : List Int :=
  [69, 0] ++ [(20 + (p.data.length : Int)) / 256 % 256, (20 + (p.data.length : Int)) % 256] ++ [p.id / 256 % 256, p.id % 256] ++ [p.place / 256 % 256, p.place % 256] ++ [p.hop, p.proto]
def Pk.chk (p : Pk) : Int := 65535 - M.sumOf [p.front, p.src.bytes, p.dst.bytes]
def Pk.hdr (p : Pk) : List Int := p.front ++ [p.chk / 256 % 256, p.chk % 256] ++ p.src.bytes ++ p.dst.bytes
def Pk.made (p : Pk) : List Int := p.hdr ++ p.data
def Pk.built (p : Pk) (exts : Nat) : List Int := if p.may exts then p.bare.made else []
structure May (p : Pk) : Prop where
  fam : p.fam = 4
  sf : p.src.fam = 4
  sr : p.src.right = true
  df : p.dst.fam = 4
  dr : p.dst.right = true
  proto : 0 ≤ p.proto ∧ p.proto ≤ 255
  hop : 1 ≤ p.hop ∧ p.hop ≤ 255
  id : p.id ≤ 65535
  off0 : 0 ≤ p.off
  off8 : p.off % 8 = 0
  over : p.off ≤ 65515 - p.data.length
  kind : p.frag = true → p.more = true ∨ p.off ≠ 0
  mult : p.more = true → (p.data.length : Int) % 8 = 0
end Go.Proofs.Ytpjjkdgmfjhfiaa
