/- Texts joined: Arg3 Ip6M Ip6B Ip6C Ip6D Ip6E Arg6 Arg8 BlkX -/
import Derived.Test.YtkeeidfpgfdldaaFpz1
import Derived.ProofKit
import Derived.OpenShut
import Derived.Deep.Strs
import Derived.ChangeSame
import Derived.ChangeArms
import Derived.Deep.AppendLies
import Derived.Deep.RegionLaw
import Derived.Maps.OwnOps
import Derived.BigRegion
import Derived.Deep.RegionHeld3
import Derived.Deep.WholeRow
namespace Go.Proofs.Ytkeeidfpgfdldaa
open Go.ChangeShapes Go.WideShapes Go.ChangeAt Go.RowKit
set_option linter.unusedVariables false
set_option linter.unusedSimpArgs false
set_option linter.constructorNameAsVariable false
set_option maxRecDepth 100000
theorem wf_i64 {x : Int} (h : (Lit.int .i64 x).wf = true) : -9223372036854775808 ≤ x ∧ x ≤ 9223372036854775807 := by
 simpa [Lit.wf, IntKind.min, IntKind.max, IntKind.signed, IntKind.bits] using h
theorem wf_u64 {x : Int} (h : (Lit.int .u64 x).wf = true) : 0 ≤ x ∧ x ≤ 18446744073709551615 := by
 simpa [Lit.wf, IntKind.min, IntKind.max, IntKind.signed, IntKind.bits] using h
theorem lst3 {cs : List Value} (h : cs.length = 3) : ∃ a b c, cs = [a, b, c] := by
 match cs, h with
 | [a, b, c], _ => exact ⟨a, b, c, rfl⟩
theorem adr_cells {H : Type} {enc : TypeId × Value → H} {W : World} {n : Nat} {cs : List Value} {y : DataW H × List MemPlace}
  (h : DataW.trod enc Try.prog W 0 (fun _ => true) true n 37 cs = some y) : ∃ f h l, cs = [.int .i64 f, .int .u64 h, .int .u64 l] ∧ Ad.ok ⟨f, h, l⟩ := by
 obtain ⟨y0, y1, y2, k, _, hl, h0, h1, h2⟩ := Go.Deep.trod_struct3 Try.underlying37 h
 have c24 : Try.prog.cellsOf 37 = 3 := by kernel_rfl
 have c3 : Try.prog.cellsOf 3 = 1 := by kernel_rfl
 have c22 : Try.prog.cellsOf 35 = 1 := by kernel_rfl
 rw [c24] at hl
 obtain ⟨v0, v1, v2, rfl⟩ := lst3 hl
 simp only [c3, c22] at h0 h1 h2
 obtain ⟨f, e0, _, w0⟩ := DataW.trod_int Try.underlying3 h0
 obtain ⟨h, e1, _, w1⟩ := DataW.trod_int Try.underlying35 h1
 obtain ⟨l, e2, _, w2⟩ := DataW.trod_int Try.underlying35 h2
 simp only [List.drop_zero, List.drop_succ_cons, List.take_succ_cons, List.take_zero, List.cons.injEq, and_true] at e0 e1 e2
 subst e0 e1 e2
 exact ⟨_, _, _, rfl, wf_i64 w0, wf_u64 w1, wf_u64 w2⟩
theorem bytes_cells {H : Type} {enc : TypeId × Value → H} {W : World} {fuel : Nat} {cs : List Value} {y : DataW H × List MemPlace} (hf : DataW.trod enc Try.prog W 0 (fun _ => true) true fuel 40 cs = some y)
  (hsz : ∀ n ∈ y.1.weights Try.prog 40, n ≤ reachBytes) :
  ∃ (a : Option Addr) (cap : Nat) (l : List Int), cs = [.slice a l.length cap] ∧ l.length ≤ cap ∧ cap ≤ 140737488351232 ∧ (a = none → cap = 0) ∧ Row W a l := by
 have hbe : Try.prog.bytesOf 5 = 1 := by kernel_rfl
 rcases open_ints Try.underlying40 Try.underlying5 (by kernel_rfl) hf with ⟨hcs, _⟩ | ⟨x, l, c, zs, hcs, _, hl, hm, hz, hx, hcell, hwz⟩
 ·exact ⟨none, 0, [], hcs, Nat.le_refl _, by omega, fun _ => rfl, row_nil _ _⟩
 ·simp only [if_true] at hz
  subst hx
  have hn := hsz ((lits .u8 (zs.take l)).length + (lits (H := H) .u8 (zs.drop l)).length) (by simp only [DataW.weights, Try.underlying40, hbe, Nat.mul_one]; exact List.mem_cons_self ..)
  simp only [lits, List.length_map, List.length_take, List.length_drop, reachBytes] at hn
  have e1 : l = (zs.take l).length := by simp; omega
  exact ⟨some x, c, zs.take l, by rw [← e1]; exact hcs, by omega, by omega, fun h => (by cases h), row_of_ints (by omega) hcell hwz⟩
end Go.Proofs.Ytkeeidfpgfdldaa
namespace Go.Proofs.Ytkeeidfpgfdldaa
set_option linter.unusedVariables false
set_option linter.unusedSimpArgs false
/-- An extension header's options: 0, or 7 at the first one that may not be. -/
def opt6Go : Nat → List Int → Int
 | 0, _ => 0
 | _ + 1, [] => 0
 | n + 1, x :: r => if x = 0 then opt6Go n r else if x / 64 ≠ 0 ∨ r.length < 1 ∨ r.getD 0 0 > (r.length : Int) - 1 then 7 else opt6Go n (r.drop (1 + (r.getD 0 0).toNat))
def opt6 (b : List Int) : Int := opt6Go b.length b
/-- How far extension headers were gone over. -/
structure St where
 next : Int
 l : List Int
 ex : List Int
 met : Bool
 cut : Bool
 id : Int
 off : Int
 more : Bool
def hsz (k : Int) (b : List Int) : Nat := if k = 44 ∨ b.length < 2 then 8 else ((b.getD 1 0).toNat + 1) * 8
def isExt (n : Int) : Bool := decide (n = 0 ∨ n = 43 ∨ n = 44 ∨ n = 60)
/-- What is wrong with the header at hand, whose bytes are there. -/
def lerr (s : St) : Int :=
 if s.next = 0 then (if s.met = true ∨ 0 < s.ex.length then 7 else opt6 ((s.l.take (hsz s.next s.l)).drop 2))
 else if s.next = 43 then (if s.l.getD 3 0 ≠ 0 ∨ s.l.getD 2 0 = 0 then 8 else 0)
 else if s.next = 44 then (if s.met = true then 7 else 0)
 else opt6 ((s.l.take (hsz s.next s.l)).drop 2)
def werr (s : St) : Int := if s.ex.length = 8 then 17 else if s.l.length < hsz s.next s.l then 4 else lerr s
/-- A fragment's numbers. -/
def frg (s : St) : St := { s with met := true, id := u32 s.l 4, off := u16 s.l 2 / 8 * 8, more := decide (u16 s.l 2 % 2 = 1), cut := decide (u16 s.l 2 / 8 * 8 ≠ 0) || decide (u16 s.l 2 % 2 = 1) }
def took (s : St) : St := if s.next = 44 then frg s else s
def stepd (s : St) (n : Nat) : St := { s with next := s.l.getD 0 0, l := s.l.drop n, ex := s.ex ++ [s.next] }
def after (s : St) : St := stepd (took s) (hsz s.next s.l)
def over (s : St) : Bool := s.cut || !isExt s.next
def wgo : Nat → St → Int × St
 | 0, s => (0, s)
 | n + 1, s => if over s = true then (0, s) else if werr s ≠ 0 then (werr s, s) else wgo n (after s)
def wend (s : St) : Int × St := wgo (9 - s.ex.length) s
/-- What Walk begins with, and what Parse begins with. -/
def st0 (next : Int) (l : List Int) (met : Bool) : St := ⟨next, l, [], met, false, 0, 0, false⟩
def least (n : Int) : Int := if n = 6 then 20 else if n = 17 ∨ n = 1 ∨ n = 58 then 8 else 0
/-- Are all headers of a datagram there? -/
def whole (proto : Int) (data : List Int) : Bool := decide ((wend (st0 proto data true)).1 = 0) && decide (least (wend (st0 proto data true)).2.next ≤ ((wend (st0 proto data true)).2.l.length : Int))
end Go.Proofs.Ytkeeidfpgfdldaa
namespace Go.Proofs.Ytkeeidfpgfdldaa
open Go.RowKit
set_option linter.unusedVariables false
set_option linter.unusedSimpArgs false
/-- The eight cells of a walk. -/
structure SW (W : World) (g : Nat) (s : St) (rv xv : Value) : Prop where
 c0 : W.cell? ⟨g, 0, none⟩ = some (.int .i64 s.next)
 c1 : W.cell? ⟨g, 1, none⟩ = some rv
 c2 : W.cell? ⟨g, 2, none⟩ = some xv
 c3 : W.cell? ⟨g, 3, none⟩ = some (.bool s.met)
 c4 : W.cell? ⟨g, 4, none⟩ = some (.bool s.cut)
 c5 : W.cell? ⟨g, 5, none⟩ = some (.int .u32 s.id)
 c6 : W.cell? ⟨g, 6, none⟩ = some (.int .i64 s.off)
 c7 : W.cell? ⟨g, 7, none⟩ = some (.bool s.more)
 fz : ∀ o, W.frozen? ⟨g, o, none⟩ = false
theorem SW.lt {W : World} {g : Nat} {s : St} {rv xv : Value} (h : SW W g s rv xv) : g < W.heap.size := World.block_lt_of_cell? W _ h.c0
theorem SW.grown {W W' : World} {g : Nat} {s : St} {rv xv : Value} {row : Option Nat} (h : SW W g s rv xv) (hg : W.grownBy W' row) (hne : some g ≠ row) : SW W' g s rv xv :=
 have k : ∀ o, W'.cell? ⟨g, o, none⟩ = W.cell? ⟨g, o, none⟩ := fun o => hg.cell_far ⟨g, o, none⟩ h.lt hne
 ⟨(k _).trans h.c0, (k _).trans h.c1, (k _).trans h.c2, (k _).trans h.c3, (k _).trans h.c4, (k _).trans h.c5, (k _).trans h.c6, (k _).trans h.c7, fun o => (hg.frozen_far ⟨g, o, none⟩ h.lt hne).trans (h.fz o)⟩
theorem SW.below {W W' : World} {g B : Nat} {s : St} {rv xv : Value} (h : SW W g s rv xv) (hg : g < B) (hb : Below B W W') : SW W' g s rv xv :=
 have k : ∀ o, W'.cell? ⟨g, o, none⟩ = W.cell? ⟨g, o, none⟩ := fun o => hb.cell (p := ⟨g, o, none⟩) hg
 ⟨(k _).trans h.c0, (k _).trans h.c1, (k _).trans h.c2, (k _).trans h.c3, (k _).trans h.c4, (k _).trans h.c5, (k _).trans h.c6, (k _).trans h.c7, fun o => (hb.frozen (p := ⟨g, o, none⟩) hg).trans (h.fz o)⟩
theorem grownBy_setCell (w : World) (g o : Nat) (v : Value) : w.grownBy (w.setCell ⟨g, o, none⟩ v) (some g) :=
 have b := (Below.refl 0 w).setCell (p := ⟨g, o, none⟩) (Nat.zero_le _) v
 ⟨b.os, b.tape, b.output, b.size, fun i hi hne => Below.heap_setCell _ _ _ _ (fun e => hne (by rw [e]))⟩
theorem grownBy_drewN (w : World) (n : Nat) (row : Option Nat) : w.grownBy (w.drewN n) row := ⟨rfl, rfl, rfl, Nat.le_refl _, fun _ _ _ => rfl⟩
theorem SW.frag {W : World} {g : Nat} {nx : Int} {l ex : List Int} {met cut : Bool} {id off : Int} {more : Bool} {rv xv : Value} (h : SW W g ⟨nx, l, ex, met, cut, id, off, more⟩ rv xv) (i o : Int) (m k : Bool) :
  SW ((((W.setCell ⟨g, 5, none⟩ (.int .u32 i)).setCell ⟨g, 6, none⟩ (.int .i64 o)).setCell ⟨g, 7, none⟩ (.bool m)).setCell ⟨g, 4, none⟩ (.bool k)) g ⟨nx, l, ex, met, k, i, o, m⟩ rv xv := by
 obtain ⟨c0, c1, c2, c3, c4, c5, c6, c7, fz⟩ := h
 refine ⟨?_, ?_, ?_, ?_, ?_, ?_, ?_, ?_, fun o => by simp only [World.frozen?_setCell]; exact fz o⟩
 ·rw [put_oth (by decide), put_oth (by decide), put_oth (by decide), put_oth (by decide)]; exact c0
 ·rw [put_oth (by decide), put_oth (by decide), put_oth (by decide), put_oth (by decide)]; exact c1
 ·rw [put_oth (by decide), put_oth (by decide), put_oth (by decide), put_oth (by decide)]; exact c2
 ·rw [put_oth (by decide), put_oth (by decide), put_oth (by decide), put_oth (by decide)]; exact c3
 ·exact put_same (by rw [put_oth (by decide), put_oth (by decide), put_oth (by decide)]; exact c4)
 ·rw [put_oth (by decide), put_oth (by decide), put_oth (by decide)]; exact put_same c5
 ·rw [put_oth (by decide), put_oth (by decide)]; exact put_same (by rw [put_oth (by decide)]; exact c6)
 ·rw [put_oth (by decide)]; exact put_same (by rw [put_oth (by decide), put_oth (by decide)]; exact c7)
end Go.Proofs.Ytkeeidfpgfdldaa
namespace Go.Proofs.Ytkeeidfpgfdldaa
open Go.RowKit Go.Maps
set_option linter.unusedVariables false
set_option linter.unusedSimpArgs false
abbrev fv0 (bx : Nat) : Value := .func (.func 86) #[] #[.pointer (some ⟨bx, 0, none⟩)]
abbrev fv43 : Value := .func (.func 88) #[] #[]
abbrev fv44 (g : Nat) : Value := .func (.func 89) #[.pointer (some ⟨g, 0, none⟩)] #[]
abbrev fv60 : Value := .func (.func 87) #[] #[]
def tab (g bx : Nat) : Array MapEntry := #[⟨.int .i64 0, fv0 bx, 0⟩, ⟨.int .i64 43, fv43, 1⟩, ⟨.int .i64 44, fv44 g, 2⟩, ⟨.int .i64 60, fv60, 3⟩]
end Go.Proofs.Ytkeeidfpgfdldaa
namespace Go.Proofs.Ytkeeidfpgfdldaa
open Go.RowKit
set_option linter.unusedVariables false
set_option linter.unusedSimpArgs false
theorem info_int : (Try.prog.info? 3).map (fun i => (i.zero, i.size, i.bytes)) = some (some (.int .i64 0), 1, 8) := by kernel_rfl
/-- The slice value v owns the ints l, in a block of the call's own (from B on), or is nil and l empty. -/
def OwnsI (w : World) (B : Nat) (v : Value) (l : List Int) : Prop := w.ownsRow B 3 1 v l.length (l.map (Value.int .i64))
theorem OwnsI.nil (w : World) (B : Nat) : OwnsI w B (.slice none 0 0) [] := World.ownsRow_nil _ _ _ _
theorem OwnsI.far {w w' : World} {B g : Nat} {v : Value} {l : List Int} (h : OwnsI w B v l) (hg : w.grownBy w' (some g)) (hgB : g < B) : OwnsI w' B v l :=
 World.ownsRow.kept h hg (by
  cases hv : v.ownBlock with
  | none => exact .inl rfl
  | some k =>
   refine .inr ?_
   have := (World.ownsRow.lt h k hv).1
   intro e
   cases e
   omega)
theorem OwnsI.drewN {w : World} {B : Nat} {v : Value} {l : List Int} (h : OwnsI w B v l) (n : Nat) : OwnsI (w.drewN n) B v l := h
/-- All that is known of a walk that goes on. -/
structure RW (W0 w : World) (g n : Nat) (s : St) (a : Option Addr) (c : Nat) (xa : Option Addr) (xc : Nat) (wr : World) : Prop where
 sw : SW wr g s (.slice a s.l.length c) (.slice xa s.ex.length xc)
 row : Row W0 a s.l
 room : s.l.length ≤ c
 cap : c ≤ 9223372036854775807
 nil : a = none → c = 0
 own : OwnsI wr (n + 2) (.slice xa s.ex.length xc) s.ex
 map : wr.heap[n + 1]? = some (.map (tab g n) 4)
 box : wr.cell? ⟨n, 0, none⟩ = some (.pointer (some ⟨g, 0, none⟩))
 below : Below g w wr
 few : s.ex.length ≤ 8
 big : n + 2 ≤ wr.heap.size
theorem grownBy_drew (w : World) (row : Option Nat) : w.grownBy w.drew row := ⟨rfl, rfl, rfl, Nat.le_refl _, fun _ _ _ => rfl⟩
theorem SW.as {W : World} {g : Nat} {s t : St} {rv xv : Value} (h : SW W g s rv xv) (e0 : t.next = s.next) (e1 : t.met = s.met) (e2 : t.cut = s.cut) (e3 : t.id = s.id) (e4 : t.off = s.off) (e5 : t.more = s.more) : SW W g t rv xv := by
 obtain ⟨c0, c1, c2, c3, c4, c5, c6, c7, fz⟩ := h
 exact ⟨by rw [e0]; exact c0, c1, c2, by rw [e1]; exact c3, by rw [e2]; exact c4, by rw [e3]; exact c5, by rw [e4]; exact c6, by rw [e5]; exact c7, fz⟩
theorem RW.drewN {W0 w : World} {g n : Nat} {s : St} {a : Option Addr} {c : Nat} {xa : Option Addr} {xc : Nat} {wr : World} (h : RW W0 w g n s a c xa xc wr) (m : Nat) : RW W0 w g n s a c xa xc (wr.drewN m) :=
 ⟨h.sw.grown (grownBy_drewN wr m none) (by simp), h.row, h.room, h.cap, h.nil, h.own, h.map, h.box, below_drewN h.below m, h.few, h.big⟩
/-- A slice of ints, as it is read. -/
structure RowI (w : World) (a : Option Addr) (l : List Int) : Prop where
 small : l.length ≤ 17592186044416
 cells : 0 < l.length → ∃ b off, a = some ⟨b, off, none⟩ ∧ ∀ i, i < l.length → w.cell? ⟨b, off + i, none⟩ = some (.int .i64 (l.getD i 0))
theorem RowI.below {w w' : World} {a : Option Addr} {l : List Int} (h : RowI w a l) (hb : Below w.heap.size w w') : RowI w' a l :=
 ⟨h.small, fun hl => by
  obtain ⟨b, off, ha, hc⟩ := h.cells hl
  exact ⟨b, off, ha, fun i hi => (hb.cell (World.block_lt_of_cell? w _ (hc i hi))).trans (hc i hi)⟩⟩
theorem RowI.drewN {w : World} {a : Option Addr} {l : List Int} (h : RowI w a l) (n : Nat) : RowI (w.drewN n) a l := h.below (below_drewN (Below.refl _ _) n)
theorem RowI.alloc {w : World} {a : Option Addr} {l : List Int} (h : RowI w a l) (o : Obj) : RowI (w.alloc o) a l := h.below ((Below.refl _ _).alloc (Nat.le_refl _) o)
theorem RowI.none (w : World) (a : Option Addr) : RowI w a [] := ⟨by simp, fun h => by simp at h⟩
theorem OwnsI.row {w : World} {B : Nat} {a : Option Addr} {c : Nat} {l : List Int} (h : OwnsI w B (.slice a l.length c) l) (hs : l.length ≤ 17592186044416) : RowI w a l := by
 refine ⟨hs, fun hp => ?_⟩
 have h0 := h
 obtain ⟨h1, h2⟩ := h
 rcases h2 with ⟨h3, h4⟩ | ⟨g, cap, cur, h3, h4, h5, h6, h7, h8, h9⟩
 ·omega
 ·simp only [Value.slice.injEq] at h3
  obtain ⟨rfl, _, rfl⟩ := h3
  refine ⟨g, 0, rfl, fun i hi => ?_⟩
  have hc := World.ownsRow.cellAt (e := 3) (size := 1) h0 i (by omega)
  rw [Nat.zero_add, hc]
  simp [hi]
theorem OwnsI.below {w w' : World} {B : Nat} {v : Value} {l : List Int} (h : OwnsI w B v l) (hb : Below w.heap.size w w') : OwnsI w' B v l := by
 obtain ⟨h1, h2⟩ := h
 refine ⟨h1, ?_⟩
 rcases h2 with h2 | ⟨g, cap, cur, h3, h4, h5, h6⟩
 ·exact .inl h2
 ·exact .inr ⟨g, cap, cur, h3, h4, (hb.block g (Array.getElem?_eq_some_iff.1 h5).1).trans h5, h6⟩
theorem OwnsI.le {w : World} {B B' : Nat} {v : Value} {l : List Int} (h : B' ≤ B) (o : OwnsI w B v l) : OwnsI w B' v l := by
 obtain ⟨h1, h2⟩ := o
 refine ⟨h1, ?_⟩
 rcases h2 with h2 | ⟨g, cap, cur, h3, h4, h5⟩
 ·exact .inl h2
 ·exact .inr ⟨g, cap, cur, h3, Nat.le_trans h h4, h5⟩
set_option maxRecDepth 100000 in
theorem eq_nil (a : Option Addr) (n c : Nat) (w : World) : (binOp .eql 40 (.slice a n c) (.slice none 0 0)).run Try.prog w = .ok (.bool a.isNone) w := by
 cases a <;> rfl
set_option maxHeartbeats 1000000 in
theorem clone_any (a : Option Addr) (c : Nat) (l : List Int) (w : World) (h : Row w a l) (hnil : a = none → c = 0) :
  Calls Try.prog 32 #[.slice a l.length c] w fun e w' => ∃ a' c', e = .returned (.slice a' l.length c') ∧ Fresh w w' a' c' l := by
 cases a with
 | none =>
  have hl : l = [] := by
   cases l with
   | nil => rfl
   | cons y l => obtain ⟨b, off, hh, _⟩ := h.cells (by simp); cases hh
  subst hl
  have hc0 := hnil rfl
  subst hc0
  have hq := eq_nil none 0 0 w
  go_enter Try.func32, Try.ntmps32
  go_wp2
  go_ret
  exact ⟨none, 0, rfl, Owns.nil _ _, Nat.le_refl _, fun _ => rfl, h, Below.refl _ _⟩
 | some x =>
  have o1 : Owns (w.alloc (.cells #[] 5)) w.heap.size (.slice (some ⟨w.heap.size, 0, none⟩) 0 0) [] := owns_new (l := []) (Nat.le_refl _) (by simp) (World.heap_new w _)
  have b1 : Below w.heap.size w (w.alloc (.cells #[] 5)) := (Below.refl _ _).alloc (Nat.le_refl _) _
  have r1 := h.alloc (.cells #[] 5)
  have hs := h.small
  have hq := eq_nil (some x) l.length c w
  go_enter Try.func32, Try.ntmps32
  go_wp2_with (at_builtin; refine wpList_app2 _ rfl _ _ rfl w.heap.size _ [] rfl o1 (M.Bytes.of (by decide)) _ c l rfl r1 (fun e => by cases e) l (List.nil_append l) (by omega) (by simp) ?_)
  intro a4 c4 w4 o4 hc4 hn4 r4 b4 _
  go_wp2
  go_ret
  exact ⟨a4, c4, rfl, o4, hc4, hn4, r4, b1.trans b4⟩
/-- What Walk answers. -/
def wS (nx : Int) (l : List Int) : St := if (wend (st0 nx l true)).1 = 0 then (wend (st0 nx l true)).2 else st0 0 [] true
def wE (nx : Int) (l : List Int) : Int := (wend (st0 nx l true)).1
theorem drewN_add (w : World) (m k : Nat) : (w.drewN m).drewN k = w.drewN (m + k) := by
 simp [World.drewN, Nat.add_assoc]
end Go.Proofs.Ytkeeidfpgfdldaa
namespace Go.Proofs.Ytkeeidfpgfdldaa
open Go.ChangeShapes Go.WideShapes Go.ChangeAt Go.RowKit
set_option linter.unusedVariables false
set_option linter.unusedSimpArgs false
set_option linter.constructorNameAsVariable false
set_option maxRecDepth 100000
theorem rowI_of_ints {w : World} {x : Addr} {len : Nat} {zs : List Int} (hr : zs.length ≤ 17592186044416)
  (hc : ∀ i, i < zs.length → w.cell? (x.add i) = some (.int .i64 (zs.getD i 0))) : RowI w (some x) (zs.take len) := by
 have hle : (zs.take len).length ≤ zs.length := List.length_take_le' _ _
 refine ⟨by omega, fun hp => ?_⟩
 obtain ⟨b, off, rfl, hc'⟩ := ints_at hc (by omega)
 refine ⟨b, off, rfl, fun i hi => ?_⟩
 rw [hc' i (by omega)]
 have : i < len := by simp at hi; omega
 simp [this]
theorem ints_cells6 {H : Type} {enc : TypeId × Value → H} {W : World} {fuel : Nat} {cs : List Value} {y : DataW H × List MemPlace} (hf : DataW.trod enc Try.prog W 0 (fun _ => true) true fuel 39 cs = some y)
  (hsz : ∀ n ∈ y.1.weights Try.prog 39, n ≤ reachBytes) :
  ∃ (a : Option Addr) (cap : Nat) (l : List Int), cs = [.slice a l.length cap] ∧ l.length ≤ cap ∧ (a = none → cap = 0) ∧ RowI W a l := by
 have hbe : Try.prog.bytesOf 3 = 8 := by kernel_rfl
 rcases open_ints Try.underlying39 Try.underlying3 (by kernel_rfl) hf with ⟨hcs, _⟩ | ⟨x, l, c, zs, hcs, _, hl, hm, hz, hx, hcell, hwz⟩
 ·exact ⟨none, 0, [], hcs, Nat.le_refl _, fun _ => rfl, ⟨by simp, fun h => by simp at h⟩⟩
 ·simp only [if_true] at hz
  subst hx
  have hn := hsz (((lits .i64 (zs.take l)).length + (lits (H := H) .i64 (zs.drop l)).length) * 8) (by simp only [DataW.weights, Try.underlying39, hbe]; exact List.mem_cons_self ..)
  simp only [lits, List.length_map, List.length_take, List.length_drop, reachBytes] at hn
  have e1 : l = (zs.take l).length := by simp; omega
  exact ⟨some x, c, zs.take l, by rw [← e1]; exact hcs, by omega, fun h => (by cases h), rowI_of_ints (by omega) hcell⟩
end Go.Proofs.Ytkeeidfpgfdldaa
namespace Go.Proofs.Ytkeeidfpgfdldaa
open Go.RowKit Go.ChangeShapes Go.WideShapes Go.ChangeAt
set_option linter.unusedVariables false
set_option linter.unusedSimpArgs false
theorem lst15 {cs : List Value} (h : cs.length = 15) : ∃ v0 v1 v2 v3 v4 v5 v6 v7 v8 v9 v10 v11 v12 v13 v14, cs = [v0, v1, v2, v3, v4, v5, v6, v7, v8, v9, v10, v11, v12, v13, v14] := by
 match cs, h with
 | [v0, v1, v2, v3, v4, v5, v6, v7, v8, v9, v10, v11, v12, v13, v14], _ => exact ⟨v0, v1, v2, v3, v4, v5, v6, v7, v8, v9, v10, v11, v12, v13, v14, rfl⟩
theorem arr17 {cs : Array Value} (h : cs.size = 17) : ∃ a b l, cs = (a :: b :: l).toArray ∧ l.length = 15 := by
 obtain ⟨l⟩ := cs
 match l, h with
 | a :: b :: l, h => exact ⟨a, b, l, rfl, by simpa using h⟩
end Go.Proofs.Ytkeeidfpgfdldaa
namespace Go.Proofs.Ytkeeidfpgfdldaa
open Go.RowKit
set_option linter.unusedVariables false
set_option linter.unusedSimpArgs false
/-- The block g holds these cells. -/
def Blk (W : World) (g : Nat) (t : TypeId) (cs : Array Value) : Prop := W.heap[g]? = some (.cells cs t (0, 0))
theorem blk_new (w : World) (cs : Array Value) (t : TypeId) : Blk (w.alloc (.cells cs t)) w.heap.size t cs := heap_alloc_last w _
theorem Blk.lt {W : World} {g : Nat} {t : TypeId} {cs : Array Value} (h : Blk W g t cs) : g < W.heap.size := (Array.getElem?_eq_some_iff.1 h).1
theorem Blk.below {W W' : World} {g B : Nat} {t : TypeId} {cs : Array Value} (h : Blk W g t cs) (hb : Below B W W') (hg : g < B) : Blk W' g t cs := (hb.block g hg).trans h
theorem Blk.kept {W W' : World} {g : Nat} {t : TypeId} {cs : Array Value} (h : Blk W g t cs) (hb : Below W.heap.size W W') : Blk W' g t cs := h.below hb h.lt
theorem Blk.alloc {W : World} {g : Nat} {t : TypeId} {cs : Array Value} (h : Blk W g t cs) (X : Obj) : Blk (W.alloc X) g t cs := h.kept ((Below.refl _ _).alloc (Nat.le_refl _) _)
theorem Blk.drew {W : World} {g : Nat} {t : TypeId} {cs : Array Value} (h : Blk W g t cs) : Blk W.drew g t cs := h.kept ((Below.refl _ _).drew)
theorem Blk.cell {W : World} {g : Nat} {t : TypeId} {cs : Array Value} (h : Blk W g t cs) (i : Nat) (v : Value) (hv : cs[i]? = some v) : W.cell? ⟨g, i, none⟩ = some v :=
 (cell_of_row W g i cs t (0, 0) h).trans hv
theorem Blk.set {W : World} {g : Nat} {t : TypeId} {cs : Array Value} (h : Blk W g t cs) (cs' : Array Value) : Blk (W.setRow g cs') g t cs' := setRow_heap W g cs cs' t (0, 0) h
theorem setRow_heap_ne (W : World) (g k : Nat) (cs : Array Value) (h : k ≠ g) : (W.setRow g cs).heap[k]? = W.heap[k]? := by
 show (W.heap.modify g _)[k]? = _
 rw [Array.getElem?_modify, if_neg (fun e => h e.symm)]
theorem below_setRow {B : Nat} {w W : World} (hb : Below B w W) {g : Nat} (hg : B ≤ g) (cs : Array Value) : Below B w (W.setRow g cs) :=
 ⟨hb.os, hb.tape, hb.output, by rw [setRow_size]; exact hb.size, fun k hk => (setRow_heap_ne W g k cs (by omega)).trans (hb.block k hk)⟩
theorem Blk.other {W : World} {g g' : Nat} {t : TypeId} {cs : Array Value} (h : Blk W g t cs) (hn : g ≠ g') (cs' : Array Value) : Blk (W.setRow g' cs') g t cs := (setRow_heap_ne W g' g cs' hn).trans h
theorem Blk.put {W : World} {g : Nat} {t : TypeId} {cs : Array Value} (h : Blk W g t cs) (i : Nat) (v : Value) : Blk (W.setCell ⟨g, i, none⟩ v) g t (cs.setIfInBounds i v) := by
 rw [setCell_eq_setRow W g i cs t (0, 0) v h]
 exact h.set _
theorem Blk.put_other {W : World} {g g' : Nat} {t t' : TypeId} {cs cs' : Array Value} (h : Blk W g t cs) (h' : Blk W g' t' cs') (hn : g ≠ g') (i : Nat) (v : Value) : Blk (W.setCell ⟨g', i, none⟩ v) g t cs := by
 rw [setCell_eq_setRow W g' i cs' t' (0, 0) v h']
 exact h.other hn _
theorem Blk.frozen {W : World} {g : Nat} {t : TypeId} {cs : Array Value} (h : Blk W g t cs) (i : Nat) : W.frozen? ⟨g, i, none⟩ = false := by
 have h' : W.heap[g]? = some (.cells cs t (0, 0)) := h
 simp [World.frozen?, h']
/-- A whole struct out of its block. -/
theorem load_blk {W : World} {g : Nat} {t : TypeId} {cs : Array Value} (h : Blk W g t cs) {fs : _} (hu : Try.prog.underlying t = some (.struct fs)) (hi : (Try.prog.info? t).map (·.size) = some cs.size) :
  (loadVar t ⟨g, 0, none⟩).run Try.prog W = .ok (.agg cs) W := run_loadVar_row W g t t cs (0, 0) (.struct fs) h hu rfl hi
/-- The answer of a function whose one result lies in a block. -/
theorem ret_cell {R : Ending → World → Prop} {a : Act} {w : World} {g k : Nat} {t : TypeId} {cs : Array Value} (fn : Func) (hf : fn.results = #[.cell k t]) (h : Blk w g t cs) {fs : _} (hu : Try.prog.underlying t = some (.struct fs)) (hi : (Try.prog.info? t).map (·.size) = some cs.size)
  (h2 : a.tmps[k]?.getD undef = .pointer (some ⟨g, 0, none⟩)) (hdf : a.defers = []) (hR : R (.returned (.agg cs)) w) : bodyPost Try.prog fn R .ret a w := by
 refine bodyPost_ret (v := .agg cs) ?_ hdf hR
 have hl := load_blk h hu hi
 simp [results, hf, h2, asAddr, hl, Array.mapM_eq_mapM_toList]
theorem ret_cell_tmp {R : Ending → World → Prop} {a : Act} {w : World} {g k j : Nat} {t : TypeId} {cs : Array Value} {v : Value} (fn : Func) (hf : fn.results = #[.cell k t, .tmp j]) (h : Blk w g t cs) {fs : _} (hu : Try.prog.underlying t = some (.struct fs)) (hi : (Try.prog.info? t).map (·.size) = some cs.size)
  (h2 : a.tmps[k]?.getD undef = .pointer (some ⟨g, 0, none⟩)) (h3 : a.tmps[j]?.getD undef = v) (hdf : a.defers = []) (hR : R (.returned (.tuple #[.agg cs, v])) w) : bodyPost Try.prog fn R .ret a w := by
 refine bodyPost_ret (v := .tuple #[.agg cs, v]) ?_ hdf hR
 have hl := load_blk h hu hi
 simp [results, hf, h2, h3, asAddr, hl, Array.mapM_eq_mapM_toList]
/-- A whole struct out of its block, in a region that draws its order. -/
theorem yieldsIf_blk {ops : Array Oper} {S : World → Prop} {o : Oper} {ac : Act} (hgd : o.guard = none) (t : TypeId) (p : Operand) (ho : o.op = Op.load t p) (g : Nat) (hp : ac.eval p = .pointer (some ⟨g, 0, none⟩)) (cs : Array Value)
  (hS : ∀ w, S w → Blk w g t cs) {fs : _} (hu : Try.prog.underlying t = some (.struct fs)) (hi : (Try.prog.info? t).map (·.size) = some cs.size) : YieldsIf Try.prog ops S o (.agg cs) ac := by
 refine .inl ⟨by simp [Region.wanted, hgd], fun w hw => ?_⟩
 have hl := load_blk (hS w hw) hu hi
 simp [execOp, ho, hp, Instr.loadAt, Instr.sureAddr, hl, Result.andThen]
/-- One cell of a struct, in a region that draws its order. -/
theorem yieldsIf_build {ops : Array Oper} {S : World → Prop} {o : Oper} {ac : Act} (hgd : o.guard = none) (t : TypeId) (parts : Array (Nat × Operand)) (ho : o.op = Op.build t parts)
  (vs : Array (Nat × Value)) (hv : parts.map (fun p => (p.1, ac.eval p.2)) = vs) (r : Value) (hrun : ∀ w, (Instr.build t vs).run Try.prog w = .ok r w) : YieldsIf Try.prog ops S o r ac := by
 refine .inl ⟨by simp [Region.wanted, hgd], fun w _ => ?_⟩
 subst hv
 simp [execOp, ho, hrun, Result.andThen]
theorem step_store_blk {ops : Array Oper} {o : Oper} {ac : Act} {K : Act → World → Prop} {Q : Exit → Act → World → Prop} {Z : Prop} {w : World} (hgd : o.guard = none) (t : TypeId) (p x : Operand) (ho : o.op = Op.store t p x) (g : Nat) (cs old : Array Value)
  (hp : ac.eval p = .pointer (some ⟨g, 0, none⟩)) (hx : ac.eval x = .agg cs) (hb : Blk w g t old) (hi : (Try.prog.info? t).map (·.size) = some cs.size) (ho' : old.size = cs.size) (h1 : cs.all (·.oneCell') = true) (h : K (ac.put o.dst undef) (w.setRow g cs)) :
  if Region.wanted o (yielded ops ac.tmps) = true then Oper.wp Try.prog o ac w K Q else Z := by
 have hw : Region.wanted o (yielded ops ac.tmps) = true := by simp [Region.wanted, hgd]
 rw [if_pos hw]
 exact wp_store_row t p x ho g cs hp hx t old hb hi ho' h1 h
theorem load_sub {W : World} {g : Nat} {t ty : TypeId} {cs : Array Value} (h : Blk W g t cs) (k : Nat) (sub : Array Value) (hs : (cs.toList.drop k).take sub.size = sub.toList) {fs : _} (hu : Try.prog.underlying ty = some (.struct fs)) (hi : (Try.prog.info? ty).map (·.size) = some sub.size) :
  (loadVar ty ⟨g, k, none⟩).run Try.prog W = .ok (.agg sub) W := by
 have hl : (loadCells ⟨g, k, none⟩ sub.toList.length).run Try.prog W = .ok sub.toList.toArray W :=
  run_loadCells_list (P := Try.prog) W ⟨g, k, none⟩ sub.toList (fun j v hv => by
   have hadd : (⟨g, k, none⟩ : Addr).add j = ⟨g, k + j, none⟩ := Go.WideShapes.add_plain ..
   rw [hadd]
   refine h.cell (k + j) v ?_
   rw [← hs] at hv
   rw [List.getElem?_take] at hv
   split at hv
   ·rw [List.getElem?_drop] at hv
    simpa using hv
   ·cases hv)
 cases hq : Try.prog.info? ty with
 | none => simp [hq] at hi
 | some i =>
  have hs' : i.size = sub.size := by simpa [hq] using hi
  have hagg : (isAgg ty).run Try.prog W = .ok true W := by
   unfold isAgg
   rw [Sem.run_bind, run_underlying hu W]
   rfl
  simp only [Array.length_toList, Array.toArray_toList] at hl
  simp [loadVar, Sem.run_bind, hagg, sizeOf, typeInfo, hq, hs', hl]
theorem yieldsIf_sub {ops : Array Oper} {S : World → Prop} {o : Oper} {ac : Act} (hgd : o.guard = none) (ty : TypeId) (p : Operand) (ho : o.op = Op.load ty p) (g k : Nat) (t : TypeId) (hp : ac.eval p = .pointer (some ⟨g, k, none⟩)) (cs sub : Array Value)
  (hS : ∀ w, S w → Blk w g t cs) (hs : (cs.toList.drop k).take sub.size = sub.toList) {fs : _} (hu : Try.prog.underlying ty = some (.struct fs)) (hi : (Try.prog.info? ty).map (·.size) = some sub.size) : YieldsIf Try.prog ops S o (.agg sub) ac := by
 refine .inl ⟨by simp [Region.wanted, hgd], fun w hw => ?_⟩
 have hl := load_sub (hS w hw) k sub hs hu hi
 simp [execOp, ho, hp, Instr.loadAt, Instr.sureAddr, hl, Result.andThen]
theorem wpList_load_sub {ops : Array Oper} {rest : List Oper} {o : Oper} {ac : Act} {w : World} {Q : Exit → Act → World → Prop} (hgd : o.guard = none) (ty : TypeId) (p : Operand) (ho : o.op = Op.load ty p) (g k : Nat) (t : TypeId) (hp : ac.eval p = .pointer (some ⟨g, k, none⟩)) (cs sub : Array Value)
  (hb : Blk w g t cs) (hs : (cs.toList.drop k).take sub.size = sub.toList) {fs : _} (hu : Try.prog.underlying ty = some (.struct fs)) (hi : (Try.prog.info? ty).map (·.size) = some sub.size) (h : wpList Try.prog ops Q rest (ac.put o.dst (.agg sub)) w) : wpList Try.prog ops Q (o :: rest) ac w := by
 refine wpList_plain hgd fun K hK => ?_
 have hl := load_sub hb k sub hs hu hi
 unfold Oper.wp
 simp [execOp, ho, hp, Instr.loadAt, Instr.sureAddr, hl, Result.andThen]
 exact hK _ _ h
theorem wpList_load_blk_w {ops : Array Oper} {rest : List Oper} {o : Oper} {ac : Act} {w : World} {Q : Exit → Act → World → Prop} (hw : Region.wanted o (yielded ops ac.tmps) = true) (ty : TypeId) (x : Operand) (ho : o.op = .load ty x)
  (g : Nat) (hx : ac.eval x = .pointer (some ⟨g, 0, none⟩)) (cs : Array Value) (hg : Blk w g ty cs) {fs : _} (hu : Try.prog.underlying ty = some (.struct fs)) (hi : (Try.prog.info? ty).map (·.size) = some cs.size)
  (h : wpList Try.prog ops Q rest (ac.put o.dst (.agg cs)) w) : wpList Try.prog ops Q (o :: rest) ac w :=
 wpList_step fun K hK => by rw [if_pos hw]; exact wp_load_row ty x ho g hx ty cs (0, 0) (.struct fs) hg hu rfl hi (hK _ _ h)
theorem blk_nw {W W' : World} {cs : Array Value} {t : TypeId} (e : W.alloc (.cells cs t) = W') : Blk W' W.heap.size t cs := e ▸ blk_new _ _ _
theorem Blk.al {W W' : World} {g : Nat} {t : TypeId} {cs : Array Value} {o : Obj} (h : Blk W g t cs) (e : W.alloc o = W') : Blk W' g t cs := e ▸ h.alloc _
theorem tk {P : Program} {md : Region.Mode} {ops : Array Oper} {Q : Exit → Act → World → Prop} {S : World → Prop} {i : Nat} {oi : Oper} {v : Value} {fuel : Nat} {listed : Array Bool} {a : Act} {w : World} (hS : S w)
  (hv : ∀ w, S w → (execOp a.eval oi).run P w = .ok (.value v) w) (h : wpAnyH P md ops Q S fuel (listed.setIfInBounds i true) (a.put oi.dst v) w) (hi : ops[i]? = some oi := by rfl)
  (hs : Region.noSelect ops = true := by kernel_rfl) (hf : Region.free md ops listed i = true := by kernel_rfl) (hr : (Region.ready md ops listed).contains i = true := by kernel_rfl)
  (hQ : ∀ c a w, Q (.panic c) (a.put oi.dst v) w → Q (.panic c) a w := by exact fun _ _ _ h => h) (hw : Region.wanted oi (yielded ops a.tmps) = true := by rfl) : wpAnyH P md ops Q S (fuel + 1) listed a w :=
 wpAnyH_take hi hs hf hr hQ (Or.inl ⟨hw, hv⟩) hS h
theorem bel_nw {w W : World} {o : Obj} (e : w.alloc o = W) : Below w.heap.size w W := e ▸ (Below.refl _ _).alloc (Nat.le_refl _) _
theorem bel_al {w W W' : World} {o : Obj} (h : Below w.heap.size w W) (e : W.alloc o = W') : Below w.heap.size w W' := e ▸ h.alloc h.size _
theorem bel_tr {w W W' : World} (h : Below w.heap.size w W) (k : Below W.heap.size W W') : Below w.heap.size w W' := h.trans (k.mono h.size)
end Go.Proofs.Ytkeeidfpgfdldaa
namespace Go.Proofs.Ytkeeidfpgfdldaa
open Go.RowKit
theorem qpu : (∀ (a : Act) (d : Tmp) (v : Value), a.put (some d) v = { a with tmps := a.tmps.setIfInBounds d v }) ∧ (∀ (a : Act) (v : Value), a.put none v = a) ∧ (∀ (l : List Value) (i : Nat) (v : Value), l.toArray.setIfInBounds i v = (l.set i v).toArray) ∧ (∀ (a b : Value) (l : List Value), (a :: l).set 0 b = b :: l) ∧ (∀ (a b : Value) (l : List Value) (i : Nat), (a :: l).set (i + 1) b = a :: l.set i b) :=
 ⟨fun _ _ _ => rfl, fun _ _ => rfl, fun _ _ _ => List.setIfInBounds_toArray .., fun _ _ _ => rfl, fun _ _ _ _ => rfl⟩
theorem qtk {P : Program} {md : Region.Mode} {ops : Array Oper} {Q : Exit → Act → World → Prop} {S : World → Prop} {i : Nat} {oi : Oper} {v : Value} {fuel : Nat} {listed : Array Bool} {a : Act} {w : World} (hS : S w)
  (hv : ∀ w, S w → (execOp a.eval oi).run P w = .ok (.value v) w) (h : wpAnyH P md ops Q S fuel (listed.setIfInBounds i true) (a.put oi.dst v) w) (hi : ops[i]? = some oi := by rfl)
  (hs : Region.noSelect ops = true := by kernel_rfl) (hf : Region.free md ops listed i = true := by kernel_rfl) (hr : (Region.ready md ops listed).contains i = true := by kernel_rfl)
  (hQ : ∀ c a w, Q (.panic c) (a.put oi.dst v) w → Q (.panic c) a w := by exact fun _ _ _ h => h) (hw : Region.wanted oi (yielded ops a.tmps) = true := by rfl) : wpAnyH P md ops Q S (fuel + 1) listed a w :=
 wpAnyH_take hi hs hf hr hQ (Or.inl ⟨hw, hv⟩) hS h
theorem qty {P : Program} {md : Region.Mode} {ops : Array Oper} {Q : Exit → Act → World → Prop} {S : World → Prop} {i : Nat} {oi : Oper} {v : Value} {fuel : Nat} {listed : Array Bool} {a : Act} {w : World} (hy : YieldsIf P ops S oi v a) (hS : S w)
  (h : wpAnyH P md ops Q S fuel (listed.setIfInBounds i true) (a.put oi.dst v) w) (hi : ops[i]? = some oi := by rfl)
  (hs : Region.noSelect ops = true := by kernel_rfl) (hf : Region.free md ops listed i = true := by kernel_rfl) (hr : (Region.ready md ops listed).contains i = true := by kernel_rfl)
  (hQ : ∀ c a w, Q (.panic c) (a.put oi.dst v) w → Q (.panic c) a w := by exact fun _ _ _ h => h) : wpAnyH P md ops Q S (fuel + 1) listed a w :=
 wpAnyH_take hi hs hf hr hQ hy hS h
theorem qtn {P : Program} {md : Region.Mode} {ops : Array Oper} {Q : Exit → Act → World → Prop} {S : World → Prop} {i : Nat} {oi : Oper} {fuel : Nat} {listed : Array Bool} {a : Act} {w : World} (hS : S w)
  (h : wpAnyH P md ops Q S fuel (listed.setIfInBounds i true) (a.put oi.dst undef) w) (hi : ops[i]? = some oi := by rfl)
  (hs : Region.noSelect ops = true := by kernel_rfl) (hf : Region.free md ops listed i = true := by kernel_rfl) (hr : (Region.ready md ops listed).contains i = true := by kernel_rfl)
  (hQ : ∀ c a w, Q (.panic c) (a.put oi.dst undef) w → Q (.panic c) a w := by exact fun _ _ _ h => h) (hw : Region.wanted oi (yielded ops a.tmps) = false := by rfl) : wpAnyH P md ops Q S (fuel + 1) listed a w :=
 wpAnyH_take hi hs hf hr hQ (Or.inr ⟨hw, rfl⟩) hS h
end Go.Proofs.Ytkeeidfpgfdldaa
