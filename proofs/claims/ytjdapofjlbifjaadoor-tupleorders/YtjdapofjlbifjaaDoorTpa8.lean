/- Texts joined: Byt -/
import Derived.Test.YtjdapofjlbifjaaDoorTpa3
import Derived.Test.YtjdapofjlbifjaaDoorTpa7
import Derived.Laws.OwnMore
namespace Go.Proofs.YtjdapofjlbifjaaDoor
open Go.RowKit
set_option linter.unusedVariables false
set_option linter.unusedSimpArgs false
/-- The n lowest bytes of two words, the highest first. -/
def bytesGo : Nat → Int → Int → List Int
  | 0, _, _ => []
  | n + 1, h, l => bytesGo n (h / 256) (l / 256 + h * 72057594037927936 % 18446744073709551616) ++ [l % 256]
theorem bytesGo_length : ∀ (n : Nat) (h l : Int), (bytesGo n h l).length = n
  | 0, _, _ => rfl
  | n + 1, h, l => by simp [bytesGo, bytesGo_length n]
def Ad.bytes (a : Ad) : List Int := if a.right then bytesGo (if a.fam = 4 then 4 else 16) a.hi a.lo else []
theorem or_comm64 (x y : Int) : bits .or .u64 x y = bits .or .u64 y x := by
  show IntKind.u64.wrap ((BitVec.ofInt 64 x ||| BitVec.ofInt 64 y).toNat : Int) = IntKind.u64.wrap ((BitVec.ofInt 64 y ||| BitVec.ofInt 64 x).toNat : Int)
  rw [BitVec.or_comm]
theorem or_high (x y : Int) (hx0 : 0 ≤ x) (hx1 : x < 72057594037927936) (hy0 : 0 ≤ y) : bits .or .u64 x (IntKind.u64.wrap (y * 72057594037927936)) = x + y * 72057594037927936 % 18446744073709551616 := by
  rw [IntKind.wrap_u64, or_comm64]
  rw [bits_join .u64 64 (by decide) (fun n h₀ h₁ => by rw [IntKind.wrap_u64]; omega) 56 _ x (by omega) (by omega) (by omega) hx0 (by omega) (by omega)]
  omega
theorem owns_new {w : World} {B g : Nat} {l : List Int} (hb : B ≤ g) (hm : l.length ≤ maxLen) (hg : w.heap[g]? = some (.cells (l.map (Value.int .u8)).toArray 5 (0, 0))) :
    Owns w B (.slice (some ⟨g, 0, none⟩) l.length l.length) l :=
  ⟨by simp, .inr ⟨g, l.length, _, rfl, hb, hg, Nat.le_refl _, hm, by simp, by rw [Nat.mul_one]; exact List.take_of_length_le (by simp)⟩⟩
theorem put_other {w : World} {a b : Addr} {v : Value} (h : a ≠ b) : (w.setCell a v).cell? b = w.cell? b := by
  apply World.cell?_setCell_other
  exact h
theorem put_same {w : World} {a : Addr} {v u : Value} (h : w.cell? a = some u) : (w.setCell a v).cell? a = some v := by
  apply World.cell?_setCell_same
  exact h
theorem made_zeros (N : Nat) : (madeCells #[Value.int .u8 0] N).toList = List.replicate N (Value.int .u8 0) := by
  apply List.ext_getElem
  · simp [madeCells]
  · intro i h1 h2
    simp [madeCells, Nat.mod_one]
theorem owns_le {w : World} {B B' : Nat} {v : Value} {l : List Int} (h : B' ≤ B) (o : Owns w B v l) : Owns w B' v l := by
  obtain ⟨h1, h2⟩ := o
  refine ⟨h1, ?_⟩
  rcases h2 with h2 | ⟨g, cap, cur, h3, h4, h5⟩
  · exact .inl h2
  · exact .inr ⟨g, cap, cur, h3, Nat.le_trans h h4, h5⟩
theorem World.heap_new (w : World) (o : Obj) : (w.alloc o).heap[w.heap.size]? = some o := by
  show (w.heap.push o)[w.heap.size]? = _
  simp
set_option maxRecDepth 100000 in
set_option maxHeartbeats 1000000 in
theorem bytes_any (f h l : Int) (w : World) (ho : Ad.ok ⟨f, h, l⟩) :
    Calls Tryd.prog 49 #[.agg #[.int .i64 f, .int .u64 h, .int .u64 l]] w fun e w' => ∃ a c, e = .returned (.slice a (Ad.bytes ⟨f, h, l⟩).length c) ∧ Fresh w w' a c (Ad.bytes ⟨f, h, l⟩) := by
  obtain ⟨i0, hi, hz0, hz1, hz2⟩ := info_parts info_u8
  have hr := right_any f h l
  have hwd := width_any f h l
  cases hR : Ad.right ⟨f, h, l⟩ with
  | false =>
    rw [hR] at hr
    have e0 : Ad.bytes ⟨f, h, l⟩ = [] := by simp [Ad.bytes, hR]
    rw [e0]
    go_enter Tryd.func49, Tryd.ntmps49
    go_wp2_with (go_at_call 38; refine (hr _).mono ?_; rintro e w' ⟨rfl, rfl⟩)
    go_ret
    exact ⟨none, 0, rfl, Owns.nil _ _, Nat.le_refl _, fun _ => rfl, ⟨by simp, M.Bytes.nil, fun h => by simp at h⟩, ((Below.refl _ _).alloc (Nat.le_refl _) _).alloc (by simp) _⟩
  | true =>
    rw [hR] at hr
    obtain ⟨N, hN⟩ : ∃ N : Nat, (if f = 4 then 4 else 16) = N := ⟨_, rfl⟩
    have hN16 : N = 4 ∨ N = 16 := by rw [← hN]; split <;> simp
    have e0 : Ad.bytes ⟨f, h, l⟩ = bytesGo N h l := by simp [Ad.bytes, hR, hN]
    have ew : Ad.width ⟨f, h, l⟩ = (N : Int) * 8 := by unfold Ad.width; simp only; rw [← hN]; split <;> simp
    rw [e0]
    rw [ew] at hwd
    have hdiv : ((N : Int) * 8).tdiv 8 = N := by rw [Int.mul_tdiv_cancel _ (by decide)]
    clear e0 ew hR hN
    have hmk : ∀ W, (Instr.makeSlice 59 (.int .i64 (N : Int)) (.int .i64 (N : Int))).run Tryd.prog W = .ok (.slice (some ⟨W.heap.size, 0, none⟩) N N) (W.alloc (.cells (madeCells #[Value.int .u8 0] N) 5)) := fun W => by
      have hr := run_make (P := Tryd.prog) W 59 5 i0 (.int .u8 0) Tryd.underlying59 hi hz0 .i64 .i64 (N : Int) (N : Int) (by omega) (Int.le_refl _) (by rw [hz2]; omega) (by omega)
      rw [Int.toNat_natCast, hz1, Nat.mul_one] at hr
      exact hr
    obtain ⟨Z, hZ⟩ : ∃ Z, madeCells #[Value.int .u8 0] N = Z := ⟨_, rfl⟩
    rw [hZ] at hmk
    have ZL : Hid (Z = ((List.replicate N (0 : Int)).map (Value.int .u8)).toArray) := by
      show _ = _
      apply Array.ext'
      rw [← hZ, made_zeros]
      simp
    obtain ⟨⟨_, _⟩, ⟨hh0, hh1⟩, ⟨hl0, hl1⟩⟩ := ho
    simp only at hh0 hh1 hl0 hl1
    have hNle : N ≤ 16 := by omega
    clear hZ hi hz0 hz1 hz2 hN16
    go_enter Tryd.func49, Tryd.ntmps49
    go_wp2_with (first
      | (go_at_call 38; refine (hr _).mono ?_; rintro e w' ⟨rfl, rfl⟩)
      | (go_at_call 56; refine (hwd _).mono ?_; rintro e w' ⟨rfl, rfl⟩))
    obtain ⟨g, hg⟩ : ∃ g, w.heap.size + 1 + 1 + 1 = g := ⟨_, rfl⟩
    obtain ⟨W, hW⟩ : ∃ W, (((w.alloc (.cells #[.int .i64 f, .int .u64 h, .int .u64 l] 24)).alloc (.cells #[.int .i64 f, .int .u64 h, .int .u64 l] 24)).alloc (.cells #[.int .i64 f, .int .u64 h, .int .u64 l] 24)).alloc (.cells Z 5) = W := ⟨_, rfl⟩
    have bA : Below (w.alloc (.cells #[.int .i64 f, .int .u64 h, .int .u64 l] 24)).heap.size (w.alloc (.cells #[.int .i64 f, .int .u64 h, .int .u64 l] 24)) W := by rw [← hW]; exact (((Below.refl _ _).alloc (Nat.le_refl _) _).alloc (by simp) _).alloc (by simp <;> omega) _
    have k1 : W.cell? ⟨w.heap.size, 1, none⟩ = some (.int .u64 h) := kept bA (by simp)
    have k2 : W.cell? ⟨w.heap.size, 2, none⟩ = some (.int .u64 l) := kept bA (by simp)
    have kf : ∀ o, W.frozen? ⟨w.heap.size, o, none⟩ = false := fun o => (bA.frozen (p := ⟨w.heap.size, o, none⟩) (by simp)).trans (by simp)
    have bW : Below w.heap.size w W := by rw [← hW]; exact ((((Below.refl _ _).alloc (Nat.le_refl _) _).alloc (by simp) _).alloc (by simp; omega) _).alloc (by simp; omega) _
    have oW : Owns W (w.heap.size + 1) (.slice (some ⟨g, 0, none⟩) (List.replicate N (0 : Int)).length N) (List.replicate N 0) := by
      have h1 : W.heap[g]? = some (.cells ((List.replicate N (0 : Int)).map (Value.int .u8)).toArray 5 (0, 0)) := by
        rw [← hW, ← hg]
        have e := World.heap_new (((w.alloc (.cells #[.int .i64 f, .int .u64 h, .int .u64 l] 24)).alloc (.cells #[.int .i64 f, .int .u64 h, .int .u64 l] 24)).alloc (.cells #[.int .i64 f, .int .u64 h, .int .u64 l] 24)) (.cells Z 5)
        simp only [World.size_alloc] at e
        rw [e, ZL.out]
      have := owns_new (B := w.heap.size + 1) (by omega) (by simp [maxLen]; omega) h1
      simpa using this
    have hgne : g ≠ w.heap.size := by omega
    have hgne' : w.heap.size ≠ g := by omega
    rw [hW, hg]
    clear hW ZL hmk hwd hr hdiv
    have hge : w.heap.size + 1 ≤ g := by omega
    clear hg
    go_loopw [4] (fun i w' => ∃ (j : Nat) (h' l' : Int) (L : List Int), i = .int .i64 ((j : Int) - 1) ∧ j ≤ N ∧ (0 ≤ h' ∧ h' ≤ 18446744073709551615) ∧ (0 ≤ l' ∧ l' ≤ 18446744073709551615) ∧
        w'.cell? ⟨w.heap.size, 1, none⟩ = some (.int .u64 h') ∧ w'.cell? ⟨w.heap.size, 2, none⟩ = some (.int .u64 l') ∧ (∀ o, w'.frozen? ⟨w.heap.size, o, none⟩ = false) ∧ Below w.heap.size w w' ∧
        Owns w' (w.heap.size + 1) (.slice (some ⟨g, 0, none⟩) L.length N) L ∧ M.Bytes L ∧ Hid (L.length = N ∧ bytesGo N h l = bytesGo j h' l' ++ L.drop j)) (fun i _ => (intOf i + 1).toNat)
    case atStart => exact ⟨N, h, l, List.replicate N 0, rfl, Nat.le_refl _, ⟨hh0, hh1⟩, ⟨hl0, hl1⟩, k1, k2, kf, bW, oW, fun z hz => by have := List.eq_of_mem_replicate hz; omega, by simp, by rw [List.drop_eq_nil_of_le (by simp)]; simp⟩
    case round =>
      obtain ⟨j, h', l', L, rfl, hj, hh', hl', c1, c2, cf, bel, own, hLb, hr⟩ := hrel
      cases j with
      | zero =>
        go_wp2
        go_ret
        obtain ⟨e1, e2⟩ := hr.out
        simp only [bytesGo, List.nil_append, List.drop_zero] at e2
        rw [e2]
        have ow : Owns wr w.heap.size (.slice (some ⟨g, 0, none⟩) L.length N) L := owns_le (by omega) own
        exact ⟨some ⟨g, 0, none⟩, N, by rw [e1]; rfl, ow, by omega, (fun hh => by cases hh), ow.row (by omega) hLb, bel⟩
      | succ j =>
        have ej : ((j + 1 : Nat) : Int) - 1 = (j : Int) := by omega
        rw [ej]
        have ijn : (j : Int) < (N : Int) := by omega
        have hjL : j < L.length := by rw [hr.out.1]; omega
        have hcj : wr.cell? ⟨g, j, none⟩ = some (.int .u8 (L.getD j 0)) := by
          obtain ⟨b, off, e, hc⟩ := (own.row (by have := hr.out.1; omega) hLb).cells (by omega)
          cases e
          have := hc j hjL
          rwa [Nat.zero_add] at this
        have fz := own.frozen j
        have e1 := or_high (l' / 256) h' (by omega) (by omega) hh'.1
        go_wp2
        refine ⟨⟨j, h' / 256, l' / 256 + h' * 72057594037927936 % 18446744073709551616, L.set j (l' % 256), rfl, by omega, by omega, by omega, ?_, ?_, ?_, ?_, ?_, ?_, ?_⟩, by simp [intOf] <;> omega⟩
        · exact put_same (u := .int .u64 h') (by rw [put_other (by simp), put_other (by simp [hgne])]; exact c1)
        · rw [put_other (by simp)]
          exact put_same (u := .int .u64 l') (by rw [put_other (by simp [hgne])]; exact c2)
        · intro o
          simp [cf]
        · exact ((bel.setCell (by simp; omega) _).setCell (by simp) _).setCell (by simp) _
        · have o1 := own.stored j (l' % 256)
          rw [List.length_set]
          exact ownsRow_setCell_below (ownsRow_setCell_below o1 (by simp) _) (by simp) _
        · intro z hz
          rcases List.mem_or_eq_of_mem_set hz with hz | rfl
          · exact hLb z hz
          · omega
        · obtain ⟨e2, e3⟩ := hr.out
          refine ⟨by rw [List.length_set]; exact e2, ?_⟩
          rw [e3, List.drop_eq_getElem_cons (l := L.set j (l' % 256)) (by simp; omega), List.getElem_set_self, List.drop_set_of_lt (by omega)]
          simp [bytesGo]
end Go.Proofs.YtjdapofjlbifjaaDoor
