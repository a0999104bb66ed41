/- Texts joined: RMsk Room BlkX RMasA -/
import Derived.Test.YtmfgjicfdjjihaaGreatDoorLxa2
import Derived.Laws.MakeOwn
import Derived.Deep.WholeRow
import Derived.BigRegion
import Derived.Deep.RegionHeld3
import Derived.Deep.DeepCutAuto
namespace Go.Proofs.YtmfgjicfdjjihaaGreatDoor
open Go.RowKit
set_option linter.unusedVariables false
set_option linter.unusedSimpArgs false
theorem cut_byte (V m s : Nat) : (V / 2 ^ m * 2 ^ m) / 2 ^ s % 256 = if m ≤ s then V / 2 ^ s % 256 else if s + 8 ≤ m then 0 else (V / 2 ^ s % 256) / 2 ^ (m - s) * 2 ^ (m - s) := by
 by_cases h : m ≤ s
 ·rw [if_pos h]
  obtain ⟨d, rfl⟩ : ∃ d, s = m + d := ⟨s - m, by omega⟩
  rw [Nat.pow_add, ← Nat.div_div_eq_div_mul, Nat.mul_div_cancel _ (Nat.pow_pos (by decide)), Nat.div_div_eq_div_mul, ← Nat.div_div_eq_div_mul]
 ·rw [if_neg h]
  obtain ⟨j, rfl⟩ : ∃ j, m = s + j := ⟨m - s, by omega⟩
  rw [Nat.add_sub_cancel_left]
  have e : V / 2 ^ (s + j) * 2 ^ (s + j) / 2 ^ s = V / 2 ^ s / 2 ^ j * 2 ^ j := by
   rw [Nat.pow_add, ← Nat.div_div_eq_div_mul, Nat.mul_comm (2 ^ s) (2 ^ j), ← Nat.mul_assoc, Nat.mul_div_cancel _ (Nat.pow_pos (by decide))]
  rw [e]
  generalize V / 2 ^ s = U
  by_cases h8 : s + 8 ≤ s + j
  ·rw [if_pos h8]
   obtain ⟨d, rfl⟩ : ∃ d, j = 8 + d := ⟨j - 8, by omega⟩
   rw [Nat.pow_add, ← Nat.mul_assoc, Nat.mul_right_comm]
   show (U / (2 ^ 8 * 2 ^ d) * 2 ^ d * 256) % 256 = 0
   exact Nat.mul_mod_left _ _
  ·rw [if_neg h8]
   have hj : j < 8 := by omega
   match j, hj with
   | 0, _ => omega
   | 1, _ => omega
   | 2, _ => omega
   | 3, _ => omega
   | 4, _ => omega
   | 5, _ => omega
   | 6, _ => omega
   | 7, _ => omega
theorem num2_shift (h l : Int) (h0 : 0 ≤ h) (l0 : 0 ≤ l) (l1 : l < 18446744073709551616) : num2 (h / 256) (l / 256 + h * 72057594037927936 % 18446744073709551616) = num2 h l / 256 := by
 unfold num2
 omega
theorem bytesGo_get : ∀ (n : Nat) (h l : Int) (i : Nat), i < n → 0 ≤ h → 0 ≤ l → l < 18446744073709551616 → (bytesGo n h l).getD i 0 = num2 h l / 256 ^ (n - 1 - i) % 256
 | 0, _, _, _, hi, _, _, _ => by omega
 | n + 1, h, l, i, hi, h0, l0, l1 => by
  unfold bytesGo
  have hlen : (bytesGo n (h / 256) (l / 256 + h * 72057594037927936 % 18446744073709551616)).length = n := bytesGo_length ..
  by_cases e : i = n
  ·subst e
   rw [List.getD_eq_getElem?_getD, List.getElem?_append_right (by omega), hlen]
   simp only [Nat.sub_self, List.getElem?_cons_zero, Option.getD_some, Nat.add_sub_cancel, Int.pow_zero, Int.ediv_one]
   unfold num2
   omega
  ·rw [List.getD_eq_getElem?_getD, List.getElem?_append_left (by omega), ← List.getD_eq_getElem?_getD]
   rw [bytesGo_get n _ _ i (by omega) (by omega) (by omega) (by omega), num2_shift h l h0 l0 l1]
   rw [Int.ediv_ediv_of_nonneg (by decide)]
   have : n + 1 - 1 - i = (n - 1 - i) + 1 := by omega
   rw [this, Int.pow_succ, Int.mul_comm]
/-- The byte x, its highest t bits alone. -/
def keepT (x : Int) (t : Nat) : Int := x / 2 ^ (8 - t) * 2 ^ (8 - t)
theorem masked_val {a : Ad} {b : Int} (h : a.ok) (hr : a.right = true) (h0 : 0 ≤ b) (h1 : b ≤ a.width) : (a.masked b).val = a.val / 2 ^ (a.width - b).toNat * 2 ^ (a.width - b).toNat := by
 obtain ⟨_, ⟨hh0, hh1⟩, ⟨hl0, hl1⟩⟩ := h
 unfold Ad.val Ad.masked
 show num2 (cutLow a.hi _) (cutLow a.lo _) = _
 by_cases h4 : a.fam = 4
 ·have hw : a.width = 32 := by unfold Ad.width; rw [if_pos h4]
  unfold Ad.right at hr
  rw [if_pos h4] at hr
  simp only [Bool.and_eq_true, beq_iff_eq] at hr
  rw [hw] at h1 ⊢
  have e1 : (64 - min (b + 128 - 32) 64).toNat = 0 := by omega
  have e2 : (64 - max (b + 128 - 32 - 64) 0).toNat = (32 - b).toNat := by omega
  rw [e1, e2, hr.1]
  unfold num2 cutLow
  simp
 ·have hw : a.width = 128 := by unfold Ad.width; rw [if_neg h4]
  rw [hw] at h1 ⊢
  by_cases h64 : 64 ≤ b
  ·have e1 : (64 - min (b + 128 - 128) 64).toNat = 0 := by omega
   have e2 : (64 - max (b + 128 - 128 - 64) 0).toNat = (128 - b).toNat := by omega
   rw [e1, e2]
   obtain ⟨m, hm⟩ : ∃ m, (128 - b).toNat = m := ⟨_, rfl⟩
   rw [hm]
   have hm64 : m ≤ 64 := by omega
   unfold num2 cutLow
   obtain ⟨d, hd⟩ : ∃ d, 64 = m + d := ⟨64 - m, by omega⟩
   have hp : (18446744073709551616 : Int) = 2 ^ m * 2 ^ d := by rw [← Int.pow_add, ← hd]; rfl
   have hpm := pow_pos' m
   rw [hp, Int.pow_zero, Int.ediv_one, Int.mul_one]
   have e3 : (a.hi * (2 ^ m * 2 ^ d) + a.lo) / 2 ^ m = a.hi * 2 ^ d + a.lo / 2 ^ m := by
    rw [show a.hi * (2 ^ m * 2 ^ d) = (a.hi * 2 ^ d) * 2 ^ m by rw [Int.mul_comm (2 ^ m) (2 ^ d), Int.mul_assoc], Int.add_comm, Int.add_mul_ediv_right _ _ (by omega), Int.add_comm]
   rw [e3, Int.add_mul, Int.mul_assoc, Int.mul_comm (2 ^ d) (2 ^ m)]
  ·have e1 : (64 - min (b + 128 - 128) 64).toNat = (64 - b).toNat := by omega
   have e2 : (64 - max (b + 128 - 128 - 64) 0).toNat = 64 := by omega
   have e3 : (128 - b).toNat = 64 + (64 - b).toNat := by omega
   rw [e1, e2, e3]
   obtain ⟨m, hm⟩ : ∃ m, (64 - b).toNat = m := ⟨_, rfl⟩
   rw [hm]
   have e4 := hi_bit a.hi a.lo m hl0 (by omega)
   rw [e4]
   unfold num2 cutLow
   have e5 : a.lo / 2 ^ 64 * 2 ^ 64 = 0 := by
    have : a.lo / 2 ^ 64 = 0 := Int.ediv_eq_zero_of_lt hl0 (by omega)
    rw [this]; simp
   rw [e5, Int.pow_add, Int.add_zero, Int.mul_assoc, Int.mul_comm (2 ^ m)]
   rfl
theorem mask_byte {a : Ad} {b : Int} (h : a.ok) (hr : a.right = true) (h0 : 0 ≤ b) (h1 : b ≤ a.width) (i : Nat) (hi : i < a.bytes.length) : (a.masked b).bytes.getD i 0 = keepT (a.bytes.getD i 0) (min (b - 8 * i).toNat 8) := by
 have ho := h
 have hmo := masked_ok (b := b) h
 have hmr := masked_right (b := b) h hr
 obtain ⟨n, hn⟩ : ∃ n : Nat, (if a.fam = 4 then 4 else 16 : Nat) = n := ⟨_, rfl⟩
 have hw : a.width = 8 * (n : Int) := by unfold Ad.width; rw [← hn]; split <;> rfl
 have e1 : a.bytes = bytesGo n a.hi a.lo := by unfold Ad.bytes; rw [if_pos hr, hn]
 have e2 : (a.masked b).bytes = bytesGo n (a.masked b).hi (a.masked b).lo := by
  unfold Ad.bytes; rw [if_pos hmr]; show bytesGo (if a.fam = 4 then 4 else 16) _ _ = _; rw [hn]
 rw [e1, bytesGo_length] at hi
 have hv := masked_val h hr h0 h1
 obtain ⟨_, ⟨hh0, hh1⟩, ⟨hl0, hl1⟩⟩ := h
 obtain ⟨_, ⟨mh0, mh1⟩, ⟨ml0, ml1⟩⟩ := hmo
 rw [e1, e2, bytesGo_get n _ _ i hi hh0 hl0 (by omega), bytesGo_get n _ _ i hi mh0 ml0 (by omega)]
 unfold Ad.val at hv
 rw [hv]
 have hV0 : 0 ≤ num2 a.hi a.lo := by unfold num2; omega
 obtain ⟨V, hV⟩ := Int.eq_ofNat_of_zero_le hV0
 rw [hV]
 obtain ⟨bb, rfl⟩ := Int.eq_ofNat_of_zero_le h0
 have e3 : (a.width - (bb : Int)).toNat = 8 * n - bb := by omega
 rw [e3]
 have e4 : (256 : Int) ^ (n - 1 - i) = ((2 ^ (8 * (n - 1 - i)) : Nat) : Int) := by
  rw [Nat.pow_mul]
  simp
 rw [e4]
 have e5 : ((V : Int) / 2 ^ (8 * n - bb) * 2 ^ (8 * n - bb)) = ((V / 2 ^ (8 * n - bb) * 2 ^ (8 * n - bb) : Nat) : Int) := by simp
 rw [e5]
 have e6 : ((V / 2 ^ (8 * n - bb) * 2 ^ (8 * n - bb) : Nat) : Int) / ((2 ^ (8 * (n - 1 - i)) : Nat) : Int) % 256 = ((V / 2 ^ (8 * n - bb) * 2 ^ (8 * n - bb) / 2 ^ (8 * (n - 1 - i)) % 256 : Nat) : Int) := by simp
 have e7 : (V : Int) / ((2 ^ (8 * (n - 1 - i)) : Nat) : Int) % 256 = ((V / 2 ^ (8 * (n - 1 - i)) % 256 : Nat) : Int) := by simp
 rw [e6, e7, cut_byte]
 unfold keepT
 obtain ⟨U, hU⟩ : ∃ U, V / 2 ^ (8 * (n - 1 - i)) % 256 = U := ⟨_, rfl⟩
 have hU8 : U < 256 := by rw [← hU]; exact Nat.mod_lt _ (by decide)
 rw [hU]
 by_cases c1 : 8 * n - bb ≤ 8 * (n - 1 - i)
 ·rw [if_pos c1]
  have : min ((bb : Int) - 8 * (i : Int)).toNat 8 = 8 := by omega
  rw [this]
  simp
 ·rw [if_neg c1]
  by_cases c2 : 8 * (n - 1 - i) + 8 ≤ 8 * n - bb
  ·rw [if_pos c2]
   have : min ((bb : Int) - 8 * (i : Int)).toNat 8 = 0 := by omega
   rw [this]
   have : (U : Int) / 2 ^ (8 - 0) = 0 := Int.ediv_eq_zero_of_lt (by omega) (by show (U : Int) < 256; omega)
   rw [this]
   simp
  ·rw [if_neg c2]
   obtain ⟨j, hj⟩ : ∃ j, 8 * n - bb - 8 * (n - 1 - i) = j := ⟨_, rfl⟩
   have : 8 - min ((bb : Int) - 8 * (i : Int)).toNat 8 = j := by omega
   rw [this, hj]
   simp
end Go.Proofs.YtmfgjicfdjjihaaGreatDoor
namespace Go.Proofs.YtmfgjicfdjjihaaGreatDoor
open Go.RowKit
set_option linter.unusedVariables false
/-- One byte of a slice of the call's own: where it lies, and what writing it does. -/
theorem Owns.write {w : World} {B n c : Nat} {a : Option Addr} {l : List Int} (h : Owns w B (.slice a n c) l) (hl : l.length = n) (k : Nat) (hk : k < n) :
  ∃ g, a = some ⟨g, 0, none⟩ ∧ B ≤ g ∧ g < w.heap.size ∧ w.cell? ⟨g, k, none⟩ = some (.int .u8 (l.getD k 0)) ∧ w.frozen? ⟨g, k, none⟩ = false ∧ ∀ y, Owns (w.setCell ⟨g, k, none⟩ (.int .u8 y)) B (.slice a n c) (l.set k y) := by
 subst hl
 obtain ⟨a', c', h1, _, h2, h3, h4⟩ := h.form
 cases h1
 cases a with
 | none =>
  obtain ⟨_, hh⟩ := h
  rcases hh with ⟨_, h6⟩ | ⟨g, cap, cur, h6, _⟩
  ·omega
  ·cases h6
 | some x =>
  obtain ⟨g, off, spot⟩ := x
  have := h3 _ rfl
  simp at this
  obtain ⟨h5, rfl, rfl⟩ := this
  have hc := World.ownsRow.cellAt (e := 5) (size := 1) h k (by omega)
  refine ⟨g, rfl, h5, ?_, ?_, h.frozen k, fun y => h.stored k y⟩
  ·exact (World.ownsRow.lt h g rfl).2
  ·rw [hc]; simp [hk]
theorem Owns.other {w : World} {B : Nat} {v : Value} {l : List Int} (h : Owns w B v l) {ad : Addr} (ha : ad.block < B) (u : Value) : Owns (w.setCell ad u) B v l := ownsRow_setCell_below h ha u
end Go.Proofs.YtmfgjicfdjjihaaGreatDoor
namespace Go.Proofs.YtmfgjicfdjjihaaGreatDoor
open Go.RowKit
set_option linter.unusedVariables false
set_option linter.unusedSimpArgs false
/-- The block g holds these cells. -/
def Blk (W : World) (g : Nat) (t : TypeId) (cs : Array Value) : Prop := W.heap[g]? = some (.cells cs t (0, 0))
theorem blk_new (w : World) (cs : Array Value) (t : TypeId) : Blk (w.alloc (.cells cs t)) w.heap.size t cs := heap_alloc_last w _
theorem Blk.lt {W : World} {g : Nat} {t : TypeId} {cs : Array Value} (h : Blk W g t cs) : g < W.heap.size := (Array.getElem?_eq_some_iff.1 h).1
theorem Blk.below {W W' : World} {g B : Nat} {t : TypeId} {cs : Array Value} (h : Blk W g t cs) (hb : Below B W W') (hg : g < B) : Blk W' g t cs := (hb.block g hg).trans h
theorem Blk.kept {W W' : World} {g : Nat} {t : TypeId} {cs : Array Value} (h : Blk W g t cs) (hb : Below W.heap.size W W') : Blk W' g t cs := h.below hb h.lt
theorem Blk.alloc {W : World} {g : Nat} {t : TypeId} {cs : Array Value} (h : Blk W g t cs) (X : Obj) : Blk (W.alloc X) g t cs := h.kept ((Below.refl _ _).alloc (Nat.le_refl _) _)
theorem Blk.drew {W : World} {g : Nat} {t : TypeId} {cs : Array Value} (h : Blk W g t cs) : Blk W.drew g t cs := h.kept ((Below.refl _ _).drew)
theorem Blk.cell {W : World} {g : Nat} {t : TypeId} {cs : Array Value} (h : Blk W g t cs) (i : Nat) (v : Value) (hv : cs[i]? = some v) : W.cell? ⟨g, i, none⟩ = some v :=
 (cell_of_row W g i cs t (0, 0) h).trans hv
theorem Blk.set {W : World} {g : Nat} {t : TypeId} {cs : Array Value} (h : Blk W g t cs) (cs' : Array Value) : Blk (W.setRow g cs') g t cs' := setRow_heap W g cs cs' t (0, 0) h
theorem setRow_heap_ne (W : World) (g k : Nat) (cs : Array Value) (h : k ≠ g) : (W.setRow g cs).heap[k]? = W.heap[k]? := by
 show (W.heap.modify g _)[k]? = _
 rw [Array.getElem?_modify, if_neg (fun e => h e.symm)]
theorem below_setRow {B : Nat} {w W : World} (hb : Below B w W) {g : Nat} (hg : B ≤ g) (cs : Array Value) : Below B w (W.setRow g cs) :=
 ⟨hb.os, hb.tape, hb.output, by rw [setRow_size]; exact hb.size, fun k hk => (setRow_heap_ne W g k cs (by omega)).trans (hb.block k hk)⟩
theorem Blk.other {W : World} {g g' : Nat} {t : TypeId} {cs : Array Value} (h : Blk W g t cs) (hn : g ≠ g') (cs' : Array Value) : Blk (W.setRow g' cs') g t cs := (setRow_heap_ne W g' g cs' hn).trans h
theorem Blk.put {W : World} {g : Nat} {t : TypeId} {cs : Array Value} (h : Blk W g t cs) (i : Nat) (v : Value) : Blk (W.setCell ⟨g, i, none⟩ v) g t (cs.setIfInBounds i v) := by
 rw [setCell_eq_setRow W g i cs t (0, 0) v h]
 exact h.set _
theorem Blk.put_other {W : World} {g g' : Nat} {t t' : TypeId} {cs cs' : Array Value} (h : Blk W g t cs) (h' : Blk W g' t' cs') (hn : g ≠ g') (i : Nat) (v : Value) : Blk (W.setCell ⟨g', i, none⟩ v) g t cs := by
 rw [setCell_eq_setRow W g' i cs' t' (0, 0) v h']
 exact h.other hn _
theorem Blk.frozen {W : World} {g : Nat} {t : TypeId} {cs : Array Value} (h : Blk W g t cs) (i : Nat) : W.frozen? ⟨g, i, none⟩ = false := by
 have h' : W.heap[g]? = some (.cells cs t (0, 0)) := h
 simp [World.frozen?, h']
/-- A whole struct out of its block. -/
theorem load_blk {W : World} {g : Nat} {t : TypeId} {cs : Array Value} (h : Blk W g t cs) {fs : _} (hu : Tryz.prog.underlying t = some (.struct fs)) (hi : (Tryz.prog.info? t).map (·.size) = some cs.size) :
  (loadVar t ⟨g, 0, none⟩).run Tryz.prog W = .ok (.agg cs) W := run_loadVar_row W g t t cs (0, 0) (.struct fs) h hu rfl hi
/-- The answer of a function whose one result lies in a block. -/
theorem ret_cell {R : Ending → World → Prop} {a : Act} {w : World} {g k : Nat} {t : TypeId} {cs : Array Value} (fn : Func) (hf : fn.results = #[.cell k t]) (h : Blk w g t cs) {fs : _} (hu : Tryz.prog.underlying t = some (.struct fs)) (hi : (Tryz.prog.info? t).map (·.size) = some cs.size)
  (h2 : a.tmps[k]?.getD undef = .pointer (some ⟨g, 0, none⟩)) (hdf : a.defers = []) (hR : R (.returned (.agg cs)) w) : bodyPost Tryz.prog fn R .ret a w := by
 refine bodyPost_ret (v := .agg cs) ?_ hdf hR
 have hl := load_blk h hu hi
 simp [results, hf, h2, asAddr, hl, Array.mapM_eq_mapM_toList]
theorem ret_cell_tmp {R : Ending → World → Prop} {a : Act} {w : World} {g k j : Nat} {t : TypeId} {cs : Array Value} {v : Value} (fn : Func) (hf : fn.results = #[.cell k t, .tmp j]) (h : Blk w g t cs) {fs : _} (hu : Tryz.prog.underlying t = some (.struct fs)) (hi : (Tryz.prog.info? t).map (·.size) = some cs.size)
  (h2 : a.tmps[k]?.getD undef = .pointer (some ⟨g, 0, none⟩)) (h3 : a.tmps[j]?.getD undef = v) (hdf : a.defers = []) (hR : R (.returned (.tuple #[.agg cs, v])) w) : bodyPost Tryz.prog fn R .ret a w := by
 refine bodyPost_ret (v := .tuple #[.agg cs, v]) ?_ hdf hR
 have hl := load_blk h hu hi
 simp [results, hf, h2, h3, asAddr, hl, Array.mapM_eq_mapM_toList]
/-- A whole struct out of its block, in a region that draws its order. -/
theorem yieldsIf_blk {ops : Array Oper} {S : World → Prop} {o : Oper} {ac : Act} (hgd : o.guard = none) (t : TypeId) (p : Operand) (ho : o.op = Op.load t p) (g : Nat) (hp : ac.eval p = .pointer (some ⟨g, 0, none⟩)) (cs : Array Value)
  (hS : ∀ w, S w → Blk w g t cs) {fs : _} (hu : Tryz.prog.underlying t = some (.struct fs)) (hi : (Tryz.prog.info? t).map (·.size) = some cs.size) : YieldsIf Tryz.prog ops S o (.agg cs) ac := by
 refine .inl ⟨by simp [Region.wanted, hgd], fun w hw => ?_⟩
 have hl := load_blk (hS w hw) hu hi
 simp [execOp, ho, hp, Instr.loadAt, Instr.sureAddr, hl, Result.andThen]
theorem step_store_blk {ops : Array Oper} {o : Oper} {ac : Act} {K : Act → World → Prop} {Q : Exit → Act → World → Prop} {Z : Prop} {w : World} (hgd : o.guard = none) (t : TypeId) (p x : Operand) (ho : o.op = Op.store t p x) (g : Nat) (cs old : Array Value)
  (hp : ac.eval p = .pointer (some ⟨g, 0, none⟩)) (hx : ac.eval x = .agg cs) (hb : Blk w g t old) (hi : (Tryz.prog.info? t).map (·.size) = some cs.size) (ho' : old.size = cs.size) (h1 : cs.all (·.oneCell') = true) (h : K (ac.put o.dst undef) (w.setRow g cs)) :
  if Region.wanted o (yielded ops ac.tmps) = true then Oper.wp Tryz.prog o ac w K Q else Z := by
 have hw : Region.wanted o (yielded ops ac.tmps) = true := by simp [Region.wanted, hgd]
 rw [if_pos hw]
 exact wp_store_row t p x ho g cs hp hx t old hb hi ho' h1 h
theorem fresh_nil {w w' : World} (h : Below w.heap.size w w') : Fresh w w' none 0 [] :=
 ⟨Owns.nil _ _, Nat.le_refl _, fun _ => rfl, ⟨by simp, M.Bytes.nil, fun h => by simp at h⟩, h⟩
theorem load_sub {W : World} {g : Nat} {t ty : TypeId} {cs : Array Value} (h : Blk W g t cs) (k : Nat) (sub : Array Value) (hs : (cs.toList.drop k).take sub.size = sub.toList) {fs : _} (hu : Tryz.prog.underlying ty = some (.struct fs)) (hi : (Tryz.prog.info? ty).map (·.size) = some sub.size) :
  (loadVar ty ⟨g, k, none⟩).run Tryz.prog W = .ok (.agg sub) W := by
 have hl : (loadCells ⟨g, k, none⟩ sub.toList.length).run Tryz.prog W = .ok sub.toList.toArray W :=
  run_loadCells_list (P := Tryz.prog) W ⟨g, k, none⟩ sub.toList (fun j v hv => by
   have hadd : (⟨g, k, none⟩ : Addr).add j = ⟨g, k + j, none⟩ := Go.WideShapes.add_plain ..
   rw [hadd]
   refine h.cell (k + j) v ?_
   rw [← hs] at hv
   rw [List.getElem?_take] at hv
   split at hv
   ·rw [List.getElem?_drop] at hv
    simpa using hv
   ·cases hv)
 cases hq : Tryz.prog.info? ty with
 | none => simp [hq] at hi
 | some i =>
  have hs' : i.size = sub.size := by simpa [hq] using hi
  have hagg : (isAgg ty).run Tryz.prog W = .ok true W := by
   unfold isAgg
   rw [Sem.run_bind, run_underlying hu W]
   rfl
  simp only [Array.length_toList, Array.toArray_toList] at hl
  simp [loadVar, Sem.run_bind, hagg, sizeOf, typeInfo, hq, hs', hl]
theorem yieldsIf_sub {ops : Array Oper} {S : World → Prop} {o : Oper} {ac : Act} (hgd : o.guard = none) (ty : TypeId) (p : Operand) (ho : o.op = Op.load ty p) (g k : Nat) (t : TypeId) (hp : ac.eval p = .pointer (some ⟨g, k, none⟩)) (cs sub : Array Value)
  (hS : ∀ w, S w → Blk w g t cs) (hs : (cs.toList.drop k).take sub.size = sub.toList) {fs : _} (hu : Tryz.prog.underlying ty = some (.struct fs)) (hi : (Tryz.prog.info? ty).map (·.size) = some sub.size) : YieldsIf Tryz.prog ops S o (.agg sub) ac := by
 refine .inl ⟨by simp [Region.wanted, hgd], fun w hw => ?_⟩
 have hl := load_sub (hS w hw) k sub hs hu hi
 simp [execOp, ho, hp, Instr.loadAt, Instr.sureAddr, hl, Result.andThen]
theorem wpList_load_sub {ops : Array Oper} {rest : List Oper} {o : Oper} {ac : Act} {w : World} {Q : Exit → Act → World → Prop} (hgd : o.guard = none) (ty : TypeId) (p : Operand) (ho : o.op = Op.load ty p) (g k : Nat) (t : TypeId) (hp : ac.eval p = .pointer (some ⟨g, k, none⟩)) (cs sub : Array Value)
  (hb : Blk w g t cs) (hs : (cs.toList.drop k).take sub.size = sub.toList) {fs : _} (hu : Tryz.prog.underlying ty = some (.struct fs)) (hi : (Tryz.prog.info? ty).map (·.size) = some sub.size) (h : wpList Tryz.prog ops Q rest (ac.put o.dst (.agg sub)) w) : wpList Tryz.prog ops Q (o :: rest) ac w := by
 refine wpList_plain hgd fun K hK => ?_
 have hl := load_sub hb k sub hs hu hi
 unfold Oper.wp
 simp [execOp, ho, hp, Instr.loadAt, Instr.sureAddr, hl, Result.andThen]
 exact hK _ _ h
theorem wpList_load_blk_w {ops : Array Oper} {rest : List Oper} {o : Oper} {ac : Act} {w : World} {Q : Exit → Act → World → Prop} (hw : Region.wanted o (yielded ops ac.tmps) = true) (ty : TypeId) (x : Operand) (ho : o.op = .load ty x)
  (g : Nat) (hx : ac.eval x = .pointer (some ⟨g, 0, none⟩)) (cs : Array Value) (hg : Blk w g ty cs) {fs : _} (hu : Tryz.prog.underlying ty = some (.struct fs)) (hi : (Tryz.prog.info? ty).map (·.size) = some cs.size)
  (h : wpList Tryz.prog ops Q rest (ac.put o.dst (.agg cs)) w) : wpList Tryz.prog ops Q (o :: rest) ac w :=
 wpList_step fun K hK => by rw [if_pos hw]; exact wp_load_row ty x ho g hx ty cs (0, 0) (.struct fs) hg hu rfl hi (hK _ _ h)
theorem blk_nw {W W' : World} {cs : Array Value} {t : TypeId} (e : W.alloc (.cells cs t) = W') : Blk W' W.heap.size t cs := e ▸ blk_new _ _ _
theorem Blk.al {W W' : World} {g : Nat} {t : TypeId} {cs : Array Value} {o : Obj} (h : Blk W g t cs) (e : W.alloc o = W') : Blk W' g t cs := e ▸ h.alloc _
theorem tk {P : Program} {md : Region.Mode} {ops : Array Oper} {Q : Exit → Act → World → Prop} {S : World → Prop} {i : Nat} {oi : Oper} {v : Value} {fuel : Nat} {listed : Array Bool} {a : Act} {w : World} (hS : S w)
  (hv : ∀ w, S w → (execOp a.eval oi).run P w = .ok (.value v) w) (h : wpAnyH P md ops Q S fuel (listed.setIfInBounds i true) (a.put oi.dst v) w) (hi : ops[i]? = some oi := by rfl)
  (hs : Region.noSelect ops = true := by kernel_rfl) (hf : Region.free md ops listed i = true := by kernel_rfl) (hr : (Region.ready md ops listed).contains i = true := by kernel_rfl)
  (hQ : ∀ c a w, Q (.panic c) (a.put oi.dst v) w → Q (.panic c) a w := by exact fun _ _ _ h => h) (hw : Region.wanted oi (yielded ops a.tmps) = true := by rfl) : wpAnyH P md ops Q S (fuel + 1) listed a w :=
 wpAnyH_take hi hs hf hr hQ (Or.inl ⟨hw, hv⟩) hS h
theorem bel_nw {w W : World} {o : Obj} (e : w.alloc o = W) : Below w.heap.size w W := e ▸ (Below.refl _ _).alloc (Nat.le_refl _) _
theorem bel_al {w W W' : World} {o : Obj} (h : Below w.heap.size w W) (e : W.alloc o = W') : Below w.heap.size w W' := e ▸ h.alloc h.size _
theorem bel_tr {w W W' : World} (h : Below w.heap.size w W) (k : Below W.heap.size W W') : Below w.heap.size w W' := h.trans (k.mono h.size)
end Go.Proofs.YtmfgjicfdjjihaaGreatDoor
namespace Go.Proofs.YtmfgjicfdjjihaaGreatDoor
open Go.RowKit
theorem qpu : (∀ (a : Act) (d : Tmp) (v : Value), a.put (some d) v = { a with tmps := a.tmps.setIfInBounds d v }) ∧ (∀ (a : Act) (v : Value), a.put none v = a) ∧ (∀ (l : List Value) (i : Nat) (v : Value), l.toArray.setIfInBounds i v = (l.set i v).toArray) ∧ (∀ (a b : Value) (l : List Value), (a :: l).set 0 b = b :: l) ∧ (∀ (a b : Value) (l : List Value) (i : Nat), (a :: l).set (i + 1) b = a :: l.set i b) :=
 ⟨fun _ _ _ => rfl, fun _ _ => rfl, fun _ _ _ => List.setIfInBounds_toArray .., fun _ _ _ => rfl, fun _ _ _ _ => rfl⟩
theorem qtk {P : Program} {md : Region.Mode} {ops : Array Oper} {Q : Exit → Act → World → Prop} {S : World → Prop} {i : Nat} {oi : Oper} {v : Value} {fuel : Nat} {listed : Array Bool} {a : Act} {w : World} (hS : S w)
  (hv : ∀ w, S w → (execOp a.eval oi).run P w = .ok (.value v) w) (h : wpAnyH P md ops Q S fuel (listed.setIfInBounds i true) (a.put oi.dst v) w) (hi : ops[i]? = some oi := by rfl)
  (hs : Region.noSelect ops = true := by kernel_rfl) (hf : Region.free md ops listed i = true := by kernel_rfl) (hr : (Region.ready md ops listed).contains i = true := by kernel_rfl)
  (hQ : ∀ c a w, Q (.panic c) (a.put oi.dst v) w → Q (.panic c) a w := by exact fun _ _ _ h => h) (hw : Region.wanted oi (yielded ops a.tmps) = true := by rfl) : wpAnyH P md ops Q S (fuel + 1) listed a w :=
 wpAnyH_take hi hs hf hr hQ (Or.inl ⟨hw, hv⟩) hS h
theorem qty {P : Program} {md : Region.Mode} {ops : Array Oper} {Q : Exit → Act → World → Prop} {S : World → Prop} {i : Nat} {oi : Oper} {v : Value} {fuel : Nat} {listed : Array Bool} {a : Act} {w : World} (hy : YieldsIf P ops S oi v a) (hS : S w)
  (h : wpAnyH P md ops Q S fuel (listed.setIfInBounds i true) (a.put oi.dst v) w) (hi : ops[i]? = some oi := by rfl)
  (hs : Region.noSelect ops = true := by kernel_rfl) (hf : Region.free md ops listed i = true := by kernel_rfl) (hr : (Region.ready md ops listed).contains i = true := by kernel_rfl)
  (hQ : ∀ c a w, Q (.panic c) (a.put oi.dst v) w → Q (.panic c) a w := by exact fun _ _ _ h => h) : wpAnyH P md ops Q S (fuel + 1) listed a w :=
 wpAnyH_take hi hs hf hr hQ hy hS h
theorem qtn {P : Program} {md : Region.Mode} {ops : Array Oper} {Q : Exit → Act → World → Prop} {S : World → Prop} {i : Nat} {oi : Oper} {fuel : Nat} {listed : Array Bool} {a : Act} {w : World} (hS : S w)
  (h : wpAnyH P md ops Q S fuel (listed.setIfInBounds i true) (a.put oi.dst undef) w) (hi : ops[i]? = some oi := by rfl)
  (hs : Region.noSelect ops = true := by kernel_rfl) (hf : Region.free md ops listed i = true := by kernel_rfl) (hr : (Region.ready md ops listed).contains i = true := by kernel_rfl)
  (hQ : ∀ c a w, Q (.panic c) (a.put oi.dst undef) w → Q (.panic c) a w := by exact fun _ _ _ h => h) (hw : Region.wanted oi (yielded ops a.tmps) = false := by rfl) : wpAnyH P md ops Q S (fuel + 1) listed a w :=
 wpAnyH_take hi hs hf hr hQ (Or.inr ⟨hw, rfl⟩) hS h
end Go.Proofs.YtmfgjicfdjjihaaGreatDoor
namespace Go.Proofs.YtmfgjicfdjjihaaGreatDoor
open Go.RowKit
set_option linter.unusedVariables false
set_option linter.unusedSimpArgs false
/-- A byte behind m rounds: its bits from t to m are cleared. -/
def yk (x : Int) (t m : Nat) : Int := if m ≤ t then x else x / 2 ^ (8 - t) * 2 ^ (8 - t) + x % 2 ^ (8 - m)
theorem yk_0 (x : Int) (t : Nat) : yk x t 0 = x := by unfold yk; rw [if_pos (Nat.zero_le _)]
theorem yk_8 (x : Int) (t : Nat) (ht : t ≤ 8) : yk x t 8 = keepT x t := by
 unfold yk keepT
 by_cases h : 8 ≤ t
 ·rw [if_pos h, show t = 8 by omega]; simp
 ·rw [if_neg h]; simp
theorem yk_skip (x : Int) (t m : Nat) (h : m < t) : yk x t (m + 1) = yk x t m := by
 unfold yk
 rw [if_pos (by omega), if_pos (by omega)]
theorem yk_bd (x : Int) (t m : Nat) (h0 : 0 ≤ x) (h1 : x ≤ 255) : 0 ≤ yk x t m ∧ yk x t m ≤ 255 := by
 unfold yk
 split
 ·omega
 ·rename_i h
  have hp := pow_pos' (8 - t)
  have hq := pow_pos' (8 - m)
  have e1 : 0 ≤ x / 2 ^ (8 - t) := Int.ediv_nonneg h0 (by omega)
  have e2 := Int.mul_nonneg e1 (Int.le_of_lt hp)
  have e3 := Int.emod_nonneg x (show (2 : Int) ^ (8 - m) ≠ 0 by omega)
  have e4 : x % 2 ^ (8 - m) ≤ x % 2 ^ (8 - t) := by
   obtain ⟨d, hd⟩ : ∃ d, 8 - t = (8 - m) + d := ⟨(8 - t) - (8 - m), by omega⟩
   have : x % 2 ^ (8 - m) = (x % 2 ^ (8 - t)) % 2 ^ (8 - m) := by rw [hd, Int.pow_add, Int.emod_emod_of_dvd _ (Int.dvd_mul_right ..)]
   rw [this]
   have z1 := Int.emod_nonneg x (show (2 : Int) ^ (8 - t) ≠ 0 by omega)
   have z2 := Int.mul_ediv_add_emod (x % 2 ^ (8 - t)) (2 ^ (8 - m))
   have z3 := Int.mul_nonneg (Int.le_of_lt hq) (Int.ediv_nonneg z1 (Int.le_of_lt hq))
   omega
  have e5 := Int.mul_ediv_add_emod x (2 ^ (8 - t))
  have e6 : 2 ^ (8 - t) * (x / 2 ^ (8 - t)) = x / 2 ^ (8 - t) * 2 ^ (8 - t) := Int.mul_comm ..
  omega
set_option maxRecDepth 100000 in
theorem clr_nat : ∀ m : Nat, m < 8 → ∀ y : Nat, y < 256 → bits .and .u8 (y : Int) (bits .xor .u8 255 (128 / 2 ^ m)) = (y : Int) - (y : Int) / 2 ^ (7 - m) % 2 * 2 ^ (7 - m) := by
 intro m hm
 match m, hm with
 | 0, _ => decide +kernel
 | 1, _ => decide +kernel
 | 2, _ => decide +kernel
 | 3, _ => decide +kernel
 | 4, _ => decide +kernel
 | 5, _ => decide +kernel
 | 6, _ => decide +kernel
 | 7, _ => decide +kernel
theorem yk_step (x : Int) (t m : Nat) (h : t ≤ m) (hm : m < 8) (h0 : 0 ≤ x) (h1 : x ≤ 255) : bits .and .u8 (yk x t m) (bits .xor .u8 255 (128 / 2 ^ m)) = yk x t (m + 1) := by
 have hb := yk_bd x t m h0 h1
 obtain ⟨y, hy⟩ := Int.eq_ofNat_of_zero_le hb.1
 have hc := clr_nat m hm y (by omega)
 rw [hy, hc, ← hy]
 clear hc hy hb
 unfold yk
 rw [if_neg (show ¬ m + 1 ≤ t by omega)]
 match m, hm with
 | 0, _ =>
  match t, h with
  | 0, _ =>
   rw [if_pos (by omega)]
   show x - x / 128 % 2 * 128 = x / 256 * 256 + x % 128
   omega
 | 1, _ =>
  match t, h with
  | 0, _ =>
   rw [if_neg (by omega)]
   show (x / 256 * 256 + x % 128) - (x / 256 * 256 + x % 128) / 64 % 2 * 64 = x / 256 * 256 + x % 64
   omega
  | 1, _ =>
   rw [if_pos (by omega)]
   show x - x / 64 % 2 * 64 = x / 128 * 128 + x % 64
   omega
 | 2, _ =>
  match t, h with
  | 0, _ =>
   rw [if_neg (by omega)]
   show (x / 256 * 256 + x % 64) - (x / 256 * 256 + x % 64) / 32 % 2 * 32 = x / 256 * 256 + x % 32
   omega
  | 1, _ =>
   rw [if_neg (by omega)]
   show (x / 128 * 128 + x % 64) - (x / 128 * 128 + x % 64) / 32 % 2 * 32 = x / 128 * 128 + x % 32
   omega
  | 2, _ =>
   rw [if_pos (by omega)]
   show x - x / 32 % 2 * 32 = x / 64 * 64 + x % 32
   omega
 | 3, _ =>
  match t, h with
  | 0, _ =>
   rw [if_neg (by omega)]
   show (x / 256 * 256 + x % 32) - (x / 256 * 256 + x % 32) / 16 % 2 * 16 = x / 256 * 256 + x % 16
   omega
  | 1, _ =>
   rw [if_neg (by omega)]
   show (x / 128 * 128 + x % 32) - (x / 128 * 128 + x % 32) / 16 % 2 * 16 = x / 128 * 128 + x % 16
   omega
  | 2, _ =>
   rw [if_neg (by omega)]
   show (x / 64 * 64 + x % 32) - (x / 64 * 64 + x % 32) / 16 % 2 * 16 = x / 64 * 64 + x % 16
   omega
  | 3, _ =>
   rw [if_pos (by omega)]
   show x - x / 16 % 2 * 16 = x / 32 * 32 + x % 16
   omega
 | 4, _ =>
  match t, h with
  | 0, _ =>
   rw [if_neg (by omega)]
   show (x / 256 * 256 + x % 16) - (x / 256 * 256 + x % 16) / 8 % 2 * 8 = x / 256 * 256 + x % 8
   omega
  | 1, _ =>
   rw [if_neg (by omega)]
   show (x / 128 * 128 + x % 16) - (x / 128 * 128 + x % 16) / 8 % 2 * 8 = x / 128 * 128 + x % 8
   omega
  | 2, _ =>
   rw [if_neg (by omega)]
   show (x / 64 * 64 + x % 16) - (x / 64 * 64 + x % 16) / 8 % 2 * 8 = x / 64 * 64 + x % 8
   omega
  | 3, _ =>
   rw [if_neg (by omega)]
   show (x / 32 * 32 + x % 16) - (x / 32 * 32 + x % 16) / 8 % 2 * 8 = x / 32 * 32 + x % 8
   omega
  | 4, _ =>
   rw [if_pos (by omega)]
   show x - x / 8 % 2 * 8 = x / 16 * 16 + x % 8
   omega
 | 5, _ =>
  match t, h with
  | 0, _ =>
   rw [if_neg (by omega)]
   show (x / 256 * 256 + x % 8) - (x / 256 * 256 + x % 8) / 4 % 2 * 4 = x / 256 * 256 + x % 4
   omega
  | 1, _ =>
   rw [if_neg (by omega)]
   show (x / 128 * 128 + x % 8) - (x / 128 * 128 + x % 8) / 4 % 2 * 4 = x / 128 * 128 + x % 4
   omega
  | 2, _ =>
   rw [if_neg (by omega)]
   show (x / 64 * 64 + x % 8) - (x / 64 * 64 + x % 8) / 4 % 2 * 4 = x / 64 * 64 + x % 4
   omega
  | 3, _ =>
   rw [if_neg (by omega)]
   show (x / 32 * 32 + x % 8) - (x / 32 * 32 + x % 8) / 4 % 2 * 4 = x / 32 * 32 + x % 4
   omega
  | 4, _ =>
   rw [if_neg (by omega)]
   show (x / 16 * 16 + x % 8) - (x / 16 * 16 + x % 8) / 4 % 2 * 4 = x / 16 * 16 + x % 4
   omega
  | 5, _ =>
   rw [if_pos (by omega)]
   show x - x / 4 % 2 * 4 = x / 8 * 8 + x % 4
   omega
 | 6, _ =>
  match t, h with
  | 0, _ =>
   rw [if_neg (by omega)]
   show (x / 256 * 256 + x % 4) - (x / 256 * 256 + x % 4) / 2 % 2 * 2 = x / 256 * 256 + x % 2
   omega
  | 1, _ =>
   rw [if_neg (by omega)]
   show (x / 128 * 128 + x % 4) - (x / 128 * 128 + x % 4) / 2 % 2 * 2 = x / 128 * 128 + x % 2
   omega
  | 2, _ =>
   rw [if_neg (by omega)]
   show (x / 64 * 64 + x % 4) - (x / 64 * 64 + x % 4) / 2 % 2 * 2 = x / 64 * 64 + x % 2
   omega
  | 3, _ =>
   rw [if_neg (by omega)]
   show (x / 32 * 32 + x % 4) - (x / 32 * 32 + x % 4) / 2 % 2 * 2 = x / 32 * 32 + x % 2
   omega
  | 4, _ =>
   rw [if_neg (by omega)]
   show (x / 16 * 16 + x % 4) - (x / 16 * 16 + x % 4) / 2 % 2 * 2 = x / 16 * 16 + x % 2
   omega
  | 5, _ =>
   rw [if_neg (by omega)]
   show (x / 8 * 8 + x % 4) - (x / 8 * 8 + x % 4) / 2 % 2 * 2 = x / 8 * 8 + x % 2
   omega
  | 6, _ =>
   rw [if_pos (by omega)]
   show x - x / 2 % 2 * 2 = x / 4 * 4 + x % 2
   omega
 | 7, _ =>
  match t, h with
  | 0, _ =>
   rw [if_neg (by omega)]
   show (x / 256 * 256 + x % 2) - (x / 256 * 256 + x % 2) / 1 % 2 * 1 = x / 256 * 256 + x % 1
   omega
  | 1, _ =>
   rw [if_neg (by omega)]
   show (x / 128 * 128 + x % 2) - (x / 128 * 128 + x % 2) / 1 % 2 * 1 = x / 128 * 128 + x % 1
   omega
  | 2, _ =>
   rw [if_neg (by omega)]
   show (x / 64 * 64 + x % 2) - (x / 64 * 64 + x % 2) / 1 % 2 * 1 = x / 64 * 64 + x % 1
   omega
  | 3, _ =>
   rw [if_neg (by omega)]
   show (x / 32 * 32 + x % 2) - (x / 32 * 32 + x % 2) / 1 % 2 * 1 = x / 32 * 32 + x % 1
   omega
  | 4, _ =>
   rw [if_neg (by omega)]
   show (x / 16 * 16 + x % 2) - (x / 16 * 16 + x % 2) / 1 % 2 * 1 = x / 16 * 16 + x % 1
   omega
  | 5, _ =>
   rw [if_neg (by omega)]
   show (x / 8 * 8 + x % 2) - (x / 8 * 8 + x % 2) / 1 % 2 * 1 = x / 8 * 8 + x % 1
   omega
  | 6, _ =>
   rw [if_neg (by omega)]
   show (x / 4 * 4 + x % 2) - (x / 4 * 4 + x % 2) / 1 % 2 * 1 = x / 4 * 4 + x % 1
   omega
  | 7, _ =>
   rw [if_pos (by omega)]
   show x - x / 1 % 2 * 1 = x / 2 * 2 + x % 1
   omega
theorem bytes_bytesM (a : Ad) : M.Bytes a.bytes := by
 unfold Ad.bytes
 split
 ·exact bytesGo_bytes _ _ _
 ·exact M.Bytes.nil
theorem wpList_buildM {ops : Array Oper} {rest : List Oper} {o : Oper} {ac : Act} {Q : Exit → Act → World → Prop} (w : World) (hgd : o.guard = none) (t : TypeId) (parts : Array (Nat × Operand)) (ho : o.op = Op.build t parts)
  (vs : Array (Nat × Value)) (hv : parts.map (fun p => (p.1, ac.eval p.2)) = vs) (r : Value) (hrun : (Instr.build t vs).run Tryz.prog w = .ok r w) (h : wpList Tryz.prog ops Q rest (ac.put o.dst r) w) : wpList Tryz.prog ops Q (o :: rest) ac w := by
 refine wpList_plain hgd fun K hK => ?_
 unfold Oper.wp
 subst hv
 simp [execOp, ho, hrun, Result.andThen]
 exact hK _ _ h
set_option maxRecDepth 100000 in
set_option maxHeartbeats 4000000 in
theorem rmask_n1 (f h l b : Int) (w : World) (ho : Ad.ok ⟨f, h, l⟩) (hr : Ad.right ⟨f, h, l⟩ = false) :
  Calls Tryz.prog 113 #[.agg #[.int .i64 f, .int .u64 h, .int .u64 l], .int .i64 b] w fun e w' => e = .returned (.tuple #[.agg #[.int .i64 0, .int .u64 0, .int .u64 0], .int .i64 1]) ∧ Below w.heap.size w w' := by
 obtain ⟨W1, hW1⟩ : ∃ W1, w.alloc (.cells #[.int .i64 f, .int .u64 h, .int .u64 l] 31) = W1 := ⟨_, rfl⟩
 have b1 := bel_nw hW1
 have P1 := blk_nw hW1
 obtain ⟨W2, hW2⟩ : ∃ W2, W1.alloc (.cells #[.int .i64 0, .int .u64 0, .int .u64 0] 31) = W2 := ⟨_, rfl⟩
 have b2 := bel_al b1 hW2
 have P2 := P1.al hW2
 have R2 := blk_nw hW2
 have g1 : w.heap.size < W1.heap.size := P1.lt
 have KR : Hid (∀ W, Calls Tryz.prog 41 #[.agg #[.int .i64 f, .int .u64 h, .int .u64 l]] W fun e w' => e = .returned (.bool false) ∧ Below W.heap.size W w') := fun W => by
  have := rright_any f h l W ho.2.2.1
  rw [hr] at this
  exact Calls.mono this (by rintro e w' ⟨rfl, rfl⟩; exact ⟨rfl, (Below.refl _ _).alloc (Nat.le_refl _) _⟩)
 obtain ⟨WD, hWD⟩ : ∃ W, Ad.width ⟨f, h, l⟩ = W := ⟨_, rfl⟩
 have KS : Hid (∀ W, Calls Tryz.prog 127 #[.int .i64 f] W fun e w' => e = .returned (.int .i64 WD) ∧ w' = W) := fun W => by
  have := rsize_any f W
  have e : (if f = 4 then (32 : Int) else 128) = WD := hWD
  rw [e] at this
  exact this
 clear hr KS hWD
 go_enter Tryz.func113, Tryz.ntmps113
 go_wp2_with (refine wpList_load_row rfl _ _ rfl w.heap.size (by rfl) _ _ _ _ P2 Tryz.underlying31 rfl (by kernel_rfl) ?_)
 refine Calls.mono (KR.out _) ?_
 rintro e W3 ⟨rfl, bb⟩
 have P3 := P2.kept bb
 have R3 := R2.kept bb
 have b3 := bel_tr b2 bb
 clear KR bb P2 R2 b2 hW1 hW2 P1 b1
 have hbz : (Instr.build 31 #[]).run Tryz.prog W3 = .ok (.agg #[.int .i64 0, .int .u64 0, .int .u64 0]) W3 := by kernel_rfl
 have Rf := R3.set #[.int .i64 0, .int .u64 0, .int .u64 0]
 have bf := below_setRow b3 (Nat.le_of_lt g1) #[.int .i64 0, .int .u64 0, .int .u64 0]
 go_wp2_with (first
  | (refine wpList_buildM _ rfl _ _ rfl _ (by rfl) _ hbz ?_)
  | (refine wpList_store_row rfl _ _ _ rfl W1.heap.size #[.int .i64 0, .int .u64 0, .int .u64 0] (by rfl) (by rfl) _ _ R3 (by kernel_rfl) (by rfl) (by kernel_rfl) ?_))
 exact ret_cell_tmp (k := 4) (j := 5) Tryz.f113 (by kernel_rfl) Rf Tryz.underlying31 (by kernel_rfl) (by rfl) (by rfl) rfl ⟨rfl, bf⟩
set_option maxRecDepth 100000 in
set_option maxHeartbeats 4000000 in
theorem rmask_n2 (f h l b : Int) (w : World) (ho : Ad.ok ⟨f, h, l⟩) (hr : Ad.right ⟨f, h, l⟩ = true) (hb : b < 0) :
  Calls Tryz.prog 113 #[.agg #[.int .i64 f, .int .u64 h, .int .u64 l], .int .i64 b] w fun e w' => e = .returned (.tuple #[.agg #[.int .i64 0, .int .u64 0, .int .u64 0], .int .i64 1]) ∧ Below w.heap.size w w' := by
 obtain ⟨W1, hW1⟩ : ∃ W1, w.alloc (.cells #[.int .i64 f, .int .u64 h, .int .u64 l] 31) = W1 := ⟨_, rfl⟩
 have b1 := bel_nw hW1
 have P1 := blk_nw hW1
 obtain ⟨W2, hW2⟩ : ∃ W2, W1.alloc (.cells #[.int .i64 0, .int .u64 0, .int .u64 0] 31) = W2 := ⟨_, rfl⟩
 have b2 := bel_al b1 hW2
 have P2 := P1.al hW2
 have R2 := blk_nw hW2
 have g1 : w.heap.size < W1.heap.size := P1.lt
 have KR : Hid (∀ W, Calls Tryz.prog 41 #[.agg #[.int .i64 f, .int .u64 h, .int .u64 l]] W fun e w' => e = .returned (.bool true) ∧ Below W.heap.size W w') := fun W => by
  have := rright_any f h l W ho.2.2.1
  rw [hr] at this
  exact Calls.mono this (by rintro e w' ⟨rfl, rfl⟩; exact ⟨rfl, (Below.refl _ _).alloc (Nat.le_refl _) _⟩)
 obtain ⟨WD, hWD⟩ : ∃ W, Ad.width ⟨f, h, l⟩ = W := ⟨_, rfl⟩
 have KS : Hid (∀ W, Calls Tryz.prog 127 #[.int .i64 f] W fun e w' => e = .returned (.int .i64 WD) ∧ w' = W) := fun W => by
  have := rsize_any f W
  have e : (if f = 4 then (32 : Int) else 128) = WD := hWD
  rw [e] at this
  exact this
 clear hr KS hWD
 go_enter Tryz.func113, Tryz.ntmps113
 go_wp2_with (refine wpList_load_row rfl _ _ rfl w.heap.size (by rfl) _ _ _ _ P2 Tryz.underlying31 rfl (by kernel_rfl) ?_)
 refine Calls.mono (KR.out _) ?_
 rintro e W3 ⟨rfl, bb⟩
 have P3 := P2.kept bb
 have R3 := R2.kept bb
 have b3 := bel_tr b2 bb
 clear KR bb P2 R2 b2 hW1 hW2 P1 b1
 have hbz : (Instr.build 31 #[]).run Tryz.prog W3 = .ok (.agg #[.int .i64 0, .int .u64 0, .int .u64 0]) W3 := by kernel_rfl
 have Rf := R3.set #[.int .i64 0, .int .u64 0, .int .u64 0]
 have bf := below_setRow b3 (Nat.le_of_lt g1) #[.int .i64 0, .int .u64 0, .int .u64 0]
 go_wp2_with (first
  | (refine wpList_buildM _ rfl _ _ rfl _ (by rfl) _ hbz ?_)
  | (refine wpList_store_row rfl _ _ _ rfl W1.heap.size #[.int .i64 0, .int .u64 0, .int .u64 0] (by rfl) (by rfl) _ _ R3 (by kernel_rfl) (by rfl) (by kernel_rfl) ?_))
 exact ret_cell_tmp (k := 4) (j := 5) Tryz.f113 (by kernel_rfl) Rf Tryz.underlying31 (by kernel_rfl) (by rfl) (by rfl) rfl ⟨rfl, bf⟩
set_option maxRecDepth 100000 in
set_option maxHeartbeats 4000000 in
theorem rmask_n3 (f h l b : Int) (w : World) (ho : Ad.ok ⟨f, h, l⟩) (hr : Ad.right ⟨f, h, l⟩ = true) (hb : ¬ b < 0) (hw : b > Ad.width ⟨f, h, l⟩) :
  Calls Tryz.prog 113 #[.agg #[.int .i64 f, .int .u64 h, .int .u64 l], .int .i64 b] w fun e w' => e = .returned (.tuple #[.agg #[.int .i64 0, .int .u64 0, .int .u64 0], .int .i64 1]) ∧ Below w.heap.size w w' := by
 obtain ⟨W1, hW1⟩ : ∃ W1, w.alloc (.cells #[.int .i64 f, .int .u64 h, .int .u64 l] 31) = W1 := ⟨_, rfl⟩
 have b1 := bel_nw hW1
 have P1 := blk_nw hW1
 obtain ⟨W2, hW2⟩ : ∃ W2, W1.alloc (.cells #[.int .i64 0, .int .u64 0, .int .u64 0] 31) = W2 := ⟨_, rfl⟩
 have b2 := bel_al b1 hW2
 have P2 := P1.al hW2
 have R2 := blk_nw hW2
 have g1 : w.heap.size < W1.heap.size := P1.lt
 have KR : Hid (∀ W, Calls Tryz.prog 41 #[.agg #[.int .i64 f, .int .u64 h, .int .u64 l]] W fun e w' => e = .returned (.bool true) ∧ Below W.heap.size W w') := fun W => by
  have := rright_any f h l W ho.2.2.1
  rw [hr] at this
  exact Calls.mono this (by rintro e w' ⟨rfl, rfl⟩; exact ⟨rfl, (Below.refl _ _).alloc (Nat.le_refl _) _⟩)
 obtain ⟨WD, hWD⟩ : ∃ W, Ad.width ⟨f, h, l⟩ = W := ⟨_, rfl⟩
 have KS : Hid (∀ W, Calls Tryz.prog 127 #[.int .i64 f] W fun e w' => e = .returned (.int .i64 WD) ∧ w' = W) := fun W => by
  have := rsize_any f W
  have e : (if f = 4 then (32 : Int) else 128) = WD := hWD
  rw [e] at this
  exact this
 rw [hWD] at hw
 clear hr hWD
 go_enter Tryz.func113, Tryz.ntmps113
 go_wp2_with (refine wpList_load_row rfl _ _ rfl w.heap.size (by rfl) _ _ _ _ P2 Tryz.underlying31 rfl (by kernel_rfl) ?_)
 refine Calls.mono (KR.out _) ?_
 rintro e W3 ⟨rfl, bb⟩
 have P3 := P2.kept bb
 have R3 := R2.kept bb
 have b3 := bel_tr b2 bb
 clear KR bb P2 R2 b2 hW1 hW2 P1 b1
 have d0 := P3.cell 0 (.int .i64 f) rfl
 go_wp2_with fail
 refine Calls.mono (KS.out _) ?_
 rintro e W4 ⟨rfl, hW4⟩
 rw [hW4]
 clear hW4 W4 KS d0
 have hbz : (Instr.build 31 #[]).run Tryz.prog W3 = .ok (.agg #[.int .i64 0, .int .u64 0, .int .u64 0]) W3 := by kernel_rfl
 have Rf := R3.set #[.int .i64 0, .int .u64 0, .int .u64 0]
 have bf := below_setRow b3 (Nat.le_of_lt g1) #[.int .i64 0, .int .u64 0, .int .u64 0]
 go_wp2_with (first
  | (refine wpList_buildM _ rfl _ _ rfl _ (by rfl) _ hbz ?_)
  | (refine wpList_store_row rfl _ _ _ rfl W1.heap.size #[.int .i64 0, .int .u64 0, .int .u64 0] (by rfl) (by rfl) _ _ R3 (by kernel_rfl) (by rfl) (by kernel_rfl) ?_))
 exact ret_cell_tmp (k := 4) (j := 5) Tryz.f113 (by kernel_rfl) Rf Tryz.underlying31 (by kernel_rfl) (by rfl) (by rfl) rfl ⟨rfl, bf⟩
end Go.Proofs.YtmfgjicfdjjihaaGreatDoor
