/- Texts joined: FtN RByt FrA FrS -/
import Derived.Test.YtnadfacbfcdkgaaDoorFsa35
import Derived.Deep.DeepCutAuto
import Derived.Deep.RegionHeld3
namespace Go.Proofs.YtnadfacbfcdkgaaDoor
open Go.RowKit
set_option linter.unusedVariables false
set_option linter.unusedSimpArgs false
theorem texts_eq : ∀ {xs ys : List ByteArray}, xs.map (·.data.toList) = ys.map (·.data.toList) → xs = ys
  | [], [], _ => rfl
  | [], _ :: _, h => by simp at h
  | _ :: _, [], h => by simp at h
  | x :: xs, y :: ys, h => by
    simp only [List.map_cons, List.cons.injEq] at h
    have e : x = y := by rw [← ba_eta x, ← ba_eta y, h.1]
    rw [e, texts_eq h.2]
theorem RowS.drewN {w : World} {a : Option Addr} {l : List ByteArray} (h : RowS w a l) (n : Nat) : RowS (w.drewN n) a l := h
set_option maxRecDepth 100000 in
set_option maxHeartbeats 2000000 in
theorem same_ft (l : List ByteArray) (a b : Option Addr) (c d : Nat) (w : World) (hl : l.length ≤ 4294967280) (ha : RowS w a l) (hb : RowS w b l) :
    Calls Tryd.prog 10 #[.slice a l.length c, .slice b l.length d] w fun e w' => e = .returned (.bool true) ∧ Below w.heap.size w w' := by
  go_enter Tryd.func10, Tryd.ntmps10
  go_wp2
  go_loopw [13] (fun i w' => ∃ (k n : Nat), i = .int .i64 k ∧ k ≤ l.length ∧ w' = w.drewN n) (fun i _ => l.length - (intOf i).toNat)
  case atStart => exact ⟨0, 0, rfl, Nat.zero_le _, rfl⟩
  case round =>
    obtain ⟨k, n, rfl, hk, rfl⟩ := hrel
    by_cases hlt : k < l.length
    · obtain ⟨ba, oa, rfl, hca⟩ := ha (by omega)
      obtain ⟨bb, ob, rfl, hcb⟩ := hb (by omega)
      have c0 : w.cell? ⟨ba, oa + k, none⟩ = some (.string (l[k]'hlt)) := hca k _ (List.getElem?_eq_getElem hlt)
      have c1 : w.cell? ⟨bb, ob + k, none⟩ = some (.string (l[k]'hlt)) := hcb k _ (List.getElem?_eq_getElem hlt)
      generalize l[k] = x at c0 c1
      clear ha hb hca hcb
      go_wp2
      go_quiet (fail)
      all_goals go_wp2
      all_goals exact ⟨⟨k + 1, _, int_eq (by omega), by omega, rfl⟩, by simp [intOf]; omega⟩
    · clear ha hb
      go_wp2
      go_ret
      exact ⟨rfl, below_drewN (Below.refl _ _) _⟩
set_option maxRecDepth 100000 in
set_option maxHeartbeats 2000000 in
theorem ftpLines_walk (a : Option Addr) (c : Nat) (l : List Int) (w : World) (m : Int) (hlc : l.length ≤ c) (hr : Row w a l) (hl : l.length ≤ 1048576) (hm : w.cell? ⟨0, 0, none⟩ = some (.int .i64 m)) :
    Calls Tryd.prog 3 #[.slice a l.length c] w fun e w' => e = .returned (.bool true) ∧ Below w.heap.size w w' := by
  have K1 := lines_ft a c l w hr (by omega)
  have K2 := fun W (hb : Below w.heap.size w W) => rlines_ft a c l W (hr.below hb) hlc (by omega)
  have hlp := lnP_len (strOfNums l).data.toList [] false
  have hd : (strOfNums l).data.toList.length = l.length := by rw [strOfNums_data]; simp
  rw [hd] at hlp
  have hlp' : 2 * (lnF (strOfNums l).data.toList).length ≤ l.length + 1 := hlp
  generalize lnF (strOfNums l).data.toList = T at *
  clear hd hlp hr
  have M : Mx m w := ⟨hm⟩
  have H1 : Hid _ := K1
  have H2 : Hid _ := K2
  clear K1 K2 hm
  go_enter Tryd.func3, Tryd.ntmps3
  go_wp2_with fail
  refine Calls.mono H1.out ?_
  rintro e W1 ⟨a1, k1, xs, rfl, g1⟩
  go_wp2_with fail
  refine Calls.mono (H2.out W1 g1.below) ?_
  rintro e W2 ⟨a2, k2, ys, rfl, g2⟩
  have he : ys = xs := texts_eq (g2.parts.trans g1.parts.symm)
  subst he
  have hlen : ys.length ≤ 4294967280 := by have := congrArg List.length g1.parts; simp at this; omega
  have r1 : RowS W2 a1 ys := (g1.owns.row).below g2.below
  have r2 : RowS W2 a2 ys := g2.owns.row
  have b2 := bel_tr g1.below g2.below
  have M2 : Mx m W2 := M.kept b2
  clear g1 g2 H1 H2
  go_wp2_with fail
  refine Calls.mono (same_ft ys a1 a2 k1 k2 W2 hlen r1 r2) ?_
  rintro e W3 ⟨rfl, b3⟩
  have M3 := M2.kept b3
  have b03 := bel_tr b2 b3
  clear r1 r2 b2 b3 M2
  go_wp2_with fail
  refine Calls.mono (alive_ft m W3 M3) ?_
  rintro e W4 ⟨rfl, b4⟩
  have b04 := bel_tr b03 b4
  go_wp2
  go_ret
  exact ⟨rfl, b04⟩
/-- The box of an address stands. -/
structure Boxed (w w' : World) (f h l : Int) : Prop where
  a0 : w'.cell? ⟨w.heap.size, 0, none⟩ = some (.int .i64 f)
  a1 : w'.cell? ⟨w.heap.size, 1, none⟩ = some (.int .u64 h)
  a2 : w'.cell? ⟨w.heap.size, 2, none⟩ = some (.int .u64 l)
  bel : Below w.heap.size w w'
  size : w.heap.size < w'.heap.size
theorem Boxed.below {w w' w'' : World} {f h l : Int} (x : Boxed w w' f h l) (hb : Below (w.heap.size + 1) w' w'') : Boxed w w'' f h l :=
  ⟨(hb.cell (p := ⟨w.heap.size, 0, none⟩) (by simp)).trans x.a0, (hb.cell (p := ⟨w.heap.size, 1, none⟩) (by simp)).trans x.a1, (hb.cell (p := ⟨w.heap.size, 2, none⟩) (by simp)).trans x.a2,
   x.bel.trans (hb.mono (by omega)), by have := x.size; have := hb.size; omega⟩
/-- A rule, as its numbers. -/
structure Rl where
  fr : Int
  tz : Int
  s : Ad
  sn : Int
  d : Ad
  dn : Int
  pr : Int
  sl : Int
  sh : Int
  dl : Int
  dh : Int
  ac : Int
  he : Int
abbrev Rl.v (r : Rl) : Array Value := #[.int .i64 r.fr, .int .i64 r.tz, .int .i64 r.s.fam, .int .u64 r.s.hi, .int .u64 r.s.lo, .int .i64 r.sn, .int .i64 r.d.fam, .int .u64 r.d.hi, .int .u64 r.d.lo, .int .i64 r.dn, .int .i64 r.pr, .int .i64 r.sl, .int .i64 r.sh, .int .i64 r.dl, .int .i64 r.dh, .int .i64 r.ac, .int .i64 r.he]
structure Rl.ok (r : Rl) : Prop where
  s : r.s.ok
  d : r.d.ok
/-- A key, as its numbers. -/
structure Ky where
  fr : Int
  tz : Int
  s : Ad
  d : Ad
  pr : Int
  sp : Int
  dp : Int
abbrev Ky.v (k : Ky) : Array Value := #[.int .i64 k.fr, .int .i64 k.tz, .int .i64 k.s.fam, .int .u64 k.s.hi, .int .u64 k.s.lo, .int .i64 k.d.fam, .int .u64 k.d.hi, .int .u64 k.d.lo, .int .i64 k.pr, .int .i64 k.sp, .int .i64 k.dp]
structure Ky.ok (k : Ky) : Prop where
  s : k.s.ok
  d : k.d.ok
/-- These cells lie from k on in the block b. -/
def CellsAt (W : World) (b k : Nat) (sub : Array Value) : Prop := b < W.heap.size ∧ ∀ j v, sub[j]? = some v → W.cell? ⟨b, k + j, none⟩ = some v
theorem CellsAt.below {w w' : World} {b k : Nat} {sub : Array Value} (h : CellsAt w b k sub) (hb : Below w.heap.size w w') : CellsAt w' b k sub :=
  ⟨Nat.lt_of_lt_of_le h.1 hb.size, fun j v hv => kept hb (h.2 j v hv)⟩
/-- A slice of things of n cells each, as it is read. -/
structure RowN {α : Type} (n : Nat) (v : α → Array Value) (ok : World → α → Prop) (w : World) (a : Option Addr) (l : List α) : Prop where
  each : ∀ q ∈ l, ok w q
  cells : ∀ (i : Nat) (q : α), l[i]? = some q → ∃ b off, a = some ⟨b, off, none⟩ ∧ CellsAt w b (off + i * n) (v q)
theorem RowN.below {α : Type} {n : Nat} {v : α → Array Value} {ok : World → α → Prop} (hok : ∀ {w w' : World} {q : α}, ok w q → Below w.heap.size w w' → ok w' q) {w w' : World} {a : Option Addr} {l : List α} (h : RowN n v ok w a l) (hb : Below w.heap.size w w') : RowN n v ok w' a l :=
  ⟨fun q hq => hok (h.each q hq) hb, fun i q hq => by
    obtain ⟨b, off, h1, h2⟩ := h.cells i q hq
    exact ⟨b, off, h1, h2.below hb⟩⟩
end Go.Proofs.YtnadfacbfcdkgaaDoor
