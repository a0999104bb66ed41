/- Texts joined: ChunkCutsWalk RfF -/
import Derived.Test.YtmfgjicfdjjihaaGreatDoorLxa25
import Derived.Test.YtmfgjicfdjjihaaGreatDoorLxa27
namespace Go.Proofs.YtmfgjicfdjjihaaGreatDoor
open Go.RowKit
set_option linter.unusedVariables false
set_option linter.unusedSimpArgs false
/-- What a cut must be. -/
def Cuts (l : List Rl) (dim : Int) (L : List Pt) (K : List Nat) (S : List (List Nat)) : Prop := (errC l dim ≠ 0 ∧ L = [] ∧ K = [] ∧ S = []) ∨ (errC l dim = 0 ∧ CutP l dim.toNat L K S)
theorem Cuts.few {l : List Rl} {dim : Int} {L : List Pt} {K : List Nat} {S : List (List Nat)} (h : Cuts l dim L K S) : L.length ≤ 129 ∧ K.length = L.length ∧ S.length ≤ 129 := by
 rcases h with ⟨h0, h1, h2, h3⟩ | ⟨h0, h1⟩
 ·simp [h1, h2, h3]
 ·obtain ⟨d, _, _, h4, _⟩ := err_ok h0
  have := h1.few
  have := h1.num
  exact ⟨by omega, h1.len, by omega⟩
theorem rowi_nil (w : World) : RowI w none [] := ⟨by simp, fun h => by simp at h⟩
/-- A cut in memory of one's own. -/
structure ChM where
 g1 : Nat
 c1 : Nat
 ka : Option Addr
 kc : Nat
 sa : Option Addr
 sc : Nat
 vs : List Value
 L : List Pt
 K : List Nat
 S : List (List Nat)
abbrev ChM.v (x : ChM) : Array Value := #[.slice (some ⟨x.g1, 0, none⟩) x.L.length x.c1, .slice x.ka x.L.length x.kc, .slice x.sa x.S.length x.sc]
def ChM.own (w : World) (B : Nat) (x : ChM) : Prop := CutIn w B x.g1 x.c1 x.ka x.kc x.sa x.sc x.vs x.L x.K x.S
theorem CutIn.tc {T : TypeId → Bool} {w w' : World} {B g1 c1 : Nat} {ka : Option Addr} {kc : Nat} {sa : Option Addr} {sc : Nat} {vs : List Value} {L : List Pt} {K : List Nat} {S : List (List Nat)} (h : CutIn w B g1 c1 ka kc sa sc vs L K S) (hb : Tc T w w') (h1 : T 86 = false) (h2 : T 3 = false) (h3 : T 24 = false) : CutIn w' B g1 c1 ka kc sa sc vs L K S :=
 ⟨ownsRow_tc h.sts hb h1, ownsRow_tc h.cls hb h2, h.set.tc hb h3 h2⟩
theorem CutIn.base {w : World} {B B' g1 c1 : Nat} {ka : Option Addr} {kc : Nat} {sa : Option Addr} {sc : Nat} {vs : List Value} {L : List Pt} {K : List Nat} {S : List (List Nat)} (h : CutIn w B g1 c1 ka kc sa sc vs L K S) (hb : B' ≤ B) : CutIn w B' g1 c1 ka kc sa sc vs L K S :=
 ⟨ownsRow_base h.sts hb, ownsRow_base h.cls hb, ⟨ownsRow_base h.set.row hb, fun i s hi => by
  obtain ⟨ai, ci, e1, e2⟩ := h.set.each i s hi
  exact ⟨ai, ci, e1, ownsRow_base e2 hb⟩⟩⟩
theorem SetsO.base {w : World} {B B' : Nat} {a : Option Addr} {c : Nat} {S : List (List Nat)} {vs : List Value} (h : SetsO w B a c S vs) (hb : B' ≤ B) : SetsO w B' a c S vs :=
 ⟨ownsRow_base h.row hb, fun i s hi => by
  obtain ⟨ai, ci, e1, e2⟩ := h.each i s hi
  exact ⟨ai, ci, e1, ownsRow_base e2 hb⟩⟩
/-- A cross in memory of one's own. -/
structure CrM where
 wd : Nat
 ka : Option Addr
 kc : Nat
 sa : Option Addr
 sc : Nat
 vs : List Value
 K : List Nat
 S : List (List Nat)
abbrev CrM.v (x : CrM) : Array Value := #[.int .i64 (x.wd : Int), .slice x.ka x.K.length x.kc, .slice x.sa x.S.length x.sc]
structure CrM.own (w : World) (B : Nat) (x : CrM) : Prop where
 i : OwnI w B x.ka x.kc x.K
 s : SetsO w B x.sa x.sc x.S x.vs
/-- A side's numbered sets in memory of one's own. -/
structure ClM where
 ua : Option Addr
 uc : Nat
 A : List (List Nat)
abbrev ClM.v (x : ClM) : Array Value := #[.slice x.ua x.A.length x.uc]
def ClM.own (w : World) (B : Nat) (x : ClM) : Prop := OwnU w B x.ua x.uc (x.A.map bitsN)
abbrev fl {α : Type} (v : α → Array Value) (L : List α) : List Value := L.flatMap fun q => (v q).toList
theorem fl_snoc {α : Type} (v : α → Array Value) (L : List α) (x : α) : fl v (L ++ [x]) = fl v L ++ (v x).toList := by simp [fl]
/-- A slice of cuts of one's own. -/
structure OwnD (w : World) (B : Nat) (a : Option Addr) (c : Nat) (D : List ChM) : Prop where
 row : w.ownsRow B 63 3 (.slice a D.length c) D.length (fl ChM.v D)
 each : ∀ x ∈ D, x.own w B
structure OwnX (w : World) (B : Nat) (a : Option Addr) (c : Nat) (D : List CrM) : Prop where
 row : w.ownsRow B 60 3 (.slice a D.length c) D.length (fl CrM.v D)
 each : ∀ x ∈ D, x.own w B
structure OwnC (w : World) (B : Nat) (a : Option Addr) (c : Nat) (D : List ClM) : Prop where
 row : w.ownsRow B 93 1 (.slice a D.length c) D.length (fl ClM.v D)
 each : ∀ x ∈ D, x.own w B
theorem OwnD.nil (w : World) (B : Nat) : OwnD w B none 0 [] := ⟨World.ownsRow_nil _ _ _ _, fun x hx => by cases hx⟩
theorem OwnX.nil (w : World) (B : Nat) : OwnX w B none 0 [] := ⟨World.ownsRow_nil _ _ _ _, fun x hx => by cases hx⟩
theorem OwnC.nil (w : World) (B : Nat) : OwnC w B none 0 [] := ⟨World.ownsRow_nil _ _ _ _, fun x hx => by cases hx⟩
/-- The kinds that tables and sides are made of. -/
theorem OwnD.tc {T : TypeId → Bool} {w w' : World} {B : Nat} {a : Option Addr} {c : Nat} {D : List ChM} (h : OwnD w B a c D) (hb : Tc T w w') (h0 : T 63 = false) (h1 : T 86 = false) (h2 : T 3 = false) (h3 : T 24 = false) : OwnD w' B a c D :=
 ⟨ownsRow_tc h.row hb h0, fun x hx => CutIn.tc (h.each x hx) hb h1 h2 h3⟩
theorem OwnX.tc {T : TypeId → Bool} {w w' : World} {B : Nat} {a : Option Addr} {c : Nat} {D : List CrM} (h : OwnX w B a c D) (hb : Tc T w w') (h0 : T 60 = false) (h2 : T 3 = false) (h3 : T 24 = false) : OwnX w' B a c D :=
 ⟨ownsRow_tc h.row hb h0, fun x hx => ⟨(h.each x hx).i.tc hb h2, (h.each x hx).s.tc hb h3 h2⟩⟩
theorem OwnC.tc {T : TypeId → Bool} {w w' : World} {B : Nat} {a : Option Addr} {c : Nat} {D : List ClM} (h : OwnC w B a c D) (hb : Tc T w w') (h0 : T 93 = false) (h2 : T 99 = false) : OwnC w' B a c D :=
 ⟨ownsRow_tc h.row hb h0, fun x hx => OwnU.tc (h.each x hx) hb h2⟩
theorem OwnD.below {w w' : World} {B : Nat} {a : Option Addr} {c : Nat} {D : List ChM} (h : OwnD w B a c D) (hb : Below w.heap.size w w') : OwnD w' B a c D := h.tc (Tc.of_below (fun _ => false) hb) rfl rfl rfl rfl
theorem OwnX.below {w w' : World} {B : Nat} {a : Option Addr} {c : Nat} {D : List CrM} (h : OwnX w B a c D) (hb : Below w.heap.size w w') : OwnX w' B a c D := h.tc (Tc.of_below (fun _ => false) hb) rfl rfl rfl
theorem OwnC.below {w w' : World} {B : Nat} {a : Option Addr} {c : Nat} {D : List ClM} (h : OwnC w B a c D) (hb : Below w.heap.size w w') : OwnC w' B a c D := h.tc (Tc.of_below (fun _ => false) hb) rfl rfl
theorem own_lt {w : World} {B : Nat} {t : TypeId} {k n c : Nat} {a : Option Addr} {xs : List Value} (h : w.ownsRow B t k (.slice a n c) n xs) : ∀ g, a.map (·.block) = some g → B ≤ g ∧ g < w.heap.size := by
 intro g hg
 rcases h.2 with ⟨h3, _⟩ | ⟨g', cap, cur, h3, h4, h5, _⟩
 ·cases h3; cases hg
 ·cases h3; cases hg; exact ⟨h4, (Array.getElem?_eq_some_iff.1 h5).1⟩
theorem Tc.put {T : TypeId → Bool} {w : World} {g : Nat} {t : TypeId} {cs : Array Value} (h : Blk w g t cs) (ht : T t = true) (i : Nat) (v : Value) : Tc T w (w.setCell ⟨g, i, none⟩ v) := by
 rw [setCell_eq_setRow w g i cs t (0, 0) v h]
 exact Tc.set h ht _
theorem run_appD1 (w : World) (ty : TypeId) (B : Nat) (a : Option Addr) (c : Nat) (D : List ChM) (h : OwnD w B a c D) (x : ChM) (hx : x.own w B) (g0 cc : Nat) (t0 : TypeId) (hy : Blk w g0 t0 x.v) (h63 : D.length + 1 ≤ 1000) (hB : B ≤ w.heap.size) :
  ∃ g c' w', (Builtin.append_ #[22, 22] ty #[.slice a D.length c, .slice (some ⟨g0, 0, none⟩) 1 cc]).run Tryz.prog w = .ok (.slice (some ⟨g, 0, none⟩) (D.length + 1) c') w' ∧ OwnD w' B (some ⟨g, 0, none⟩) c' (D ++ [x]) ∧ Tc (· == 63) w w' ∧ w.grownBy w' (a.map (·.block)) ∧ Below B w w' := by
 obtain ⟨g, c', w', h1, h2, h3, h4, h5⟩ := run_app1 w 22 ty 63 (.agg zc3) 3 72 Tryz.underlying22 info_chunk rfl (by decide) B a c D.length _ h.row g0 cc t0 _ hy rfl (by intro u hu; simp [ChM.v] at hu; rcases hu with hu | hu | hu <;> (rw [hu]; rfl)) (by omega) (by omega) hB
 have hT : Tc (· == 63) w w' := Tc.of_own h3 h.row (by rfl)
 refine ⟨g, c', w', h1, ⟨?_, fun y hy' => ?_⟩, hT, h3, h5⟩
 ·rw [List.length_append, fl_snoc]; exact h2
 ·rcases List.mem_append.1 hy' with h' | h'
  ·exact CutIn.tc (h.each y h') hT (by rfl) (by rfl) (by rfl)
  ·rw [List.mem_singleton.1 h']; exact CutIn.tc hx hT (by rfl) (by rfl) (by rfl)
theorem run_appX1 (w : World) (ty : TypeId) (B : Nat) (a : Option Addr) (c : Nat) (D : List CrM) (h : OwnX w B a c D) (x : CrM) (hx : x.own w B) (g0 cc : Nat) (t0 : TypeId) (hy : Blk w g0 t0 x.v) (h63 : D.length + 1 ≤ 1000) (hB : B ≤ w.heap.size) :
  ∃ g c' w', (Builtin.append_ #[23, 23] ty #[.slice a D.length c, .slice (some ⟨g0, 0, none⟩) 1 cc]).run Tryz.prog w = .ok (.slice (some ⟨g, 0, none⟩) (D.length + 1) c') w' ∧ OwnX w' B (some ⟨g, 0, none⟩) c' (D ++ [x]) ∧ Tc (· == 60) w w' ∧ w.grownBy w' (a.map (·.block)) ∧ Below B w w' := by
 obtain ⟨g, c', w', h1, h2, h3, h4, h5⟩ := run_app1 w 23 ty 60 (.agg zx3) 3 56 Tryz.underlying23 info_cross rfl (by decide) B a c D.length _ h.row g0 cc t0 _ hy rfl (by intro u hu; simp [CrM.v] at hu; rcases hu with hu | hu | hu <;> (rw [hu]; rfl)) (by omega) (by omega) hB
 have hT : Tc (· == 60) w w' := Tc.of_own h3 h.row (by rfl)
 refine ⟨g, c', w', h1, ⟨?_, fun y hy' => ?_⟩, hT, h3, h5⟩
 ·rw [List.length_append, fl_snoc]; exact h2
 ·rcases List.mem_append.1 hy' with h' | h'
  ·exact ⟨(h.each y h').i.tc hT (by rfl), (h.each y h').s.tc hT (by rfl) (by rfl)⟩
  ·rw [List.mem_singleton.1 h']; exact ⟨hx.i.tc hT (by rfl), hx.s.tc hT (by rfl) (by rfl)⟩
theorem run_appC1 (w : World) (ty : TypeId) (B : Nat) (a : Option Addr) (c : Nat) (D : List ClM) (h : OwnC w B a c D) (x : ClM) (hx : x.own w B) (g0 cc : Nat) (t0 : TypeId) (hy : Blk w g0 t0 x.v) (h63 : D.length + 1 ≤ 1000) (hB : B ≤ w.heap.size) :
  ∃ g c' w', (Builtin.append_ #[90, 90] ty #[.slice a D.length c, .slice (some ⟨g0, 0, none⟩) 1 cc]).run Tryz.prog w = .ok (.slice (some ⟨g, 0, none⟩) (D.length + 1) c') w' ∧ OwnC w' B (some ⟨g, 0, none⟩) c' (D ++ [x]) ∧ Tc (· == 93) w w' ∧ w.grownBy w' (a.map (·.block)) ∧ Below B w w' := by
 obtain ⟨g, c', w', h1, h2, h3, h4, h5⟩ := run_app1 w 90 ty 93 (.slice none 0 0) 1 24 Tryz.underlying90 info_sets rfl (by decide) B a c D.length _ h.row g0 cc t0 _ hy rfl (by intro u hu; simp [ClM.v] at hu; rw [hu]; rfl) (by omega) (by omega) hB
 have hT : Tc (· == 93) w w' := Tc.of_own h3 h.row (by rfl)
 refine ⟨g, c', w', h1, ⟨?_, fun y hy' => ?_⟩, hT, h3, h5⟩
 ·rw [List.length_append, fl_snoc]; exact h2
 ·rcases List.mem_append.1 hy' with h' | h'
  ·exact OwnU.tc (h.each y h') hT (by rfl)
  ·rw [List.mem_singleton.1 h']; exact OwnU.tc hx hT (by rfl)
/-- A side, read. -/
theorem OwnC.at_ {w : World} {B : Nat} {a : Option Addr} {c : Nat} {D : List ClM} (h : OwnC w B a c D) {i : Nat} {x : ClM} (hi : D[i]? = some x) : ∃ g, a = some ⟨g, 0, none⟩ ∧ w.cell? ⟨g, i, none⟩ = some (.slice x.ua x.A.length x.uc) ∧ OwnU w B x.ua x.uc (x.A.map bitsN) := by
 have hlt := (List.getElem?_eq_some_iff.1 hi).1
 obtain ⟨g, cur, v, e1, _, _, e2, e3, _⟩ := own_at h.row hlt
 refine ⟨g, e1, ?_, h.each x (List.mem_of_getElem? hi)⟩
 have := fl_get (fun q : ClM => q.v.toList) 1 (fun _ => rfl) D i 0 x hi (by omega)
 rw [Nat.mul_one, Nat.add_zero] at this
 rw [e3, ← e2]
 exact this
/-- A slice of numbers of one's own. -/
def OwnJ (w : World) (B : Nat) (a : Option Addr) (c : Nat) (l : List Int) : Prop := w.ownsRow B 3 1 (.slice a l.length c) l.length (l.map (Value.int .i64))
theorem OwnJ.nil (w : World) (B : Nat) : OwnJ w B none 0 [] := World.ownsRow_nil _ _ _ _
theorem run_appJ1 (w : World) (ty : TypeId) (B : Nat) (a : Option Addr) (c : Nat) (xs : List Int) (hown : OwnJ w B a c xs) (g0 cc : Nat) (y : Int) (t0 : TypeId) (hy : Blk w g0 t0 #[.int .i64 y]) (h63 : xs.length + 1 ≤ 1000000) (hB : B ≤ w.heap.size) :
  ∃ g c' w', (Builtin.append_ #[24, 24] ty #[.slice a xs.length c, .slice (some ⟨g0, 0, none⟩) 1 cc]).run Tryz.prog w = .ok (.slice (some ⟨g, 0, none⟩) (xs.length + 1) c') w' ∧ OwnJ w' B (some ⟨g, 0, none⟩) c' (xs ++ [y]) ∧ w.grownBy w' (a.map (·.block)) ∧ Below B w w' := by
 obtain ⟨g, c', w', h1, h2, h3, h4, h5⟩ := run_app1 w 24 ty 3 (.int .i64 0) 1 8 Tryz.underlying24 info_int rfl (by decide) B a c xs.length _ hown g0 cc t0 _ hy rfl (by intro u hu; simp at hu; rw [hu]; rfl) (by omega) h63 hB
 refine ⟨g, c', w', h1, ?_, h3, h5⟩
 unfold OwnJ
 rw [List.length_append, List.map_append]
 exact h2
theorem OwnJ.row {w : World} {B : Nat} {a : Option Addr} {c : Nat} {l : List Int} (h : OwnJ w B a c l) (hs : l.length ≤ 17592186044416) : RowI w a l := by
 refine ⟨hs, fun hp => ?_⟩
 have h0 := h
 obtain ⟨h1, h2⟩ := h
 rcases h2 with ⟨h3, h4⟩ | ⟨g, cap, cur, h3, h4, h5, h6, h7, h8, h9⟩
 ·omega
 ·simp only [Value.slice.injEq] at h3
  obtain ⟨rfl, _, rfl⟩ := h3
  refine ⟨g, 0, rfl, fun i hi => ?_⟩
  have hc := World.ownsRow.cellAt (e := 3) (size := 1) h0 i (by omega)
  rw [Nat.zero_add, hc]
  simp [hi]
/-- Own rows of three cells an element, as they are read. -/
theorem own3_cells {α : Type} {v : α → Array Value} (hv : ∀ x, (v x).toList.length = 3) {w : World} {B : Nat} {t : TypeId} {a : Option Addr} {c : Nat} {D : List α} (h : w.ownsRow B t 3 (.slice a D.length c) D.length (fl v D)) {i : Nat} {x : α} (hi : D[i]? = some x) : ∃ g, a = some ⟨g, 0, none⟩ ∧ CellsAt w g (0 + i * 3) (v x) := by
 have hlt : i < D.length := (List.getElem?_eq_some_iff.1 hi).1
 obtain ⟨h1, h2⟩ := h
 rcases h2 with ⟨h3, h4⟩ | ⟨g, cap, cur, h3, h4, h5, h6, h7, h8, h9⟩
 ·omega
 ·simp only [Value.slice.injEq] at h3
  obtain ⟨rfl, _, rfl⟩ := h3
  have hB : Blk w g t cur := h5
  refine ⟨g, rfl, hB.lt, fun j u hj => ?_⟩
  have hj3 : j < 3 := by
   have := (Array.getElem?_eq_some_iff.1 hj).1
   rw [← Array.length_toList, hv x] at this
   exact this
  rw [Nat.zero_add]
  refine hB.cell _ _ ?_
  have e1 := fl_get (fun q : α => (v q).toList) 3 hv D i j x hi hj3
  have e2 : (cur.toList.take (D.length * 3))[i * 3 + j]? = cur[i * 3 + j]? := by
   rw [List.getElem?_take_of_lt (by omega), Array.getElem?_toList]
  rw [← e2, h9]
  have e3 : (fl v D)[i * 3 + j]? = (v x).toList[j]? := e1
  rw [e3]
  simpa using hj
/-- As they are read. -/
def ChM.r (x : ChM) : ChR := ⟨some ⟨x.g1, 0, none⟩, x.c1, x.ka, x.kc, x.sa, x.sc, x.L, ints x.K, x.S.map ints⟩
def CrM.r (x : CrM) : CrR := ⟨(x.wd : Int), x.ka, x.kc, x.sa, x.sc, ints x.K, x.S.map ints⟩
theorem OwnD.rows {w : World} {B : Nat} {a : Option Addr} {c : Nat} {D : List ChM} (h : OwnD w B a c D) (hL : ∀ x ∈ D, x.L.length ≤ 1000 ∧ x.K.length = x.L.length ∧ x.S.length ≤ 1000 ∧ (∀ s ∈ x.S, s.length ≤ 1000) ∧ ∀ p ∈ x.L, p.ok) : RowD w a (D.map ChM.r) := by
 refine ⟨fun q hq => ?_, fun i q hi => ?_⟩
 ·obtain ⟨x, hx, rfl⟩ := List.mem_map.1 hq
  obtain ⟨l1, l2, l3, l4, l5⟩ := hL x hx
  have ho := h.each x hx
  exact ⟨by show x.L.length ≤ _; omega, ho.sts.row l5, ho.cls.row (by omega), ho.set.rows (by omega) (fun s hs => by have := l4 s hs; omega)⟩
 ·rw [List.getElem?_map, Option.map_eq_some_iff] at hi
  obtain ⟨x, hi, rfl⟩ := hi
  obtain ⟨g, e, hc⟩ := own3_cells (v := ChM.v) (fun _ => rfl) h.row hi
  obtain ⟨_, l2, _⟩ := hL x (List.mem_of_getElem? hi)
  refine ⟨g, 0, e, ?_⟩
  have ev : x.r.v = x.v := by
   show #[_, Value.slice x.ka (ints x.K).length x.kc, Value.slice x.sa (x.S.map ints).length x.sc] = _
   rw [List.length_map, List.length_map, l2]
   rfl
  rw [ev]
  exact hc
theorem OwnX.rows {w : World} {B : Nat} {a : Option Addr} {c : Nat} {D : List CrM} (h : OwnX w B a c D) (hL : ∀ x ∈ D, x.K.length ≤ 10000 ∧ x.S.length ≤ 10000 ∧ ∀ s ∈ x.S, s.length ≤ 1000) : RowX w a (D.map CrM.r) := by
 refine ⟨fun q hq => ?_, fun i q hi => ?_⟩
 ·obtain ⟨x, hx, rfl⟩ := List.mem_map.1 hq
  obtain ⟨l1, l3, l4⟩ := hL x hx
  have ho := h.each x hx
  exact ⟨ho.i.row (by omega), ho.s.rows (by omega) (fun s hs => by have := l4 s hs; omega)⟩
 ·rw [List.getElem?_map, Option.map_eq_some_iff] at hi
  obtain ⟨x, hi, rfl⟩ := hi
  obtain ⟨g, e, hc⟩ := own3_cells (v := CrM.v) (fun _ => rfl) h.row hi
  refine ⟨g, 0, e, ?_⟩
  have ev : x.r.v = x.v := by
   show #[_, Value.slice x.ka (ints x.K).length x.kc, Value.slice x.sa (x.S.map ints).length x.sc] = _
   rw [List.length_map, List.length_map]
   rfl
  rw [ev]
  exact hc
end Go.Proofs.YtmfgjicfdjjihaaGreatDoor
