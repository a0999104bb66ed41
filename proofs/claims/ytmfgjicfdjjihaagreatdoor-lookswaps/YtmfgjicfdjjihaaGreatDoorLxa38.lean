/- Texts joined: LkG -/
import Derived.Test.YtmfgjicfdjjihaaGreatDoorLxa37
namespace Go.Proofs.YtmfgjicfdjjihaaGreatDoor
abbrev lxa38o0 : Oper := { dst := none, op := Op.store 22 (.tmp 33) (.tmp 32), type := 0, pos := "holder.go:44", after := #[{ on := 14, ground := Ground.data }, { on := 13, ground := Ground.data }, { on := 13, ground := Ground.chain }, { on := 0, ground := Ground.phase }, { on := 1, ground := Ground.phase }, { on := 2, ground := Ground.phase }, { on := 3, ground := Ground.phase }, { on := 4, ground := Ground.phase }, { on := 5, ground := Ground.phase }, { on := 6, ground := Ground.phase }, { on := 7, ground := Ground.phase }, { on := 8, ground := Ground.phase }, { on := 9, ground := Ground.phase }, { on := 10, ground := Ground.phase }, { on := 11, ground := Ground.phase }, { on := 12, ground := Ground.phase }, { on := 13, ground := Ground.phase }], guard := none }
abbrev lxa38o1 : Oper := { dst := some 33, op := Op.fieldAddr 26 (.tmp 3) 0, type := 0, pos := "holder.go:44", after := #[{ on := 0, ground := Ground.phase }, { on := 1, ground := Ground.phase }, { on := 2, ground := Ground.phase }, { on := 3, ground := Ground.phase }, { on := 4, ground := Ground.phase }, { on := 5, ground := Ground.phase }, { on := 6, ground := Ground.phase }, { on := 7, ground := Ground.phase }, { on := 8, ground := Ground.phase }, { on := 9, ground := Ground.phase }, { on := 10, ground := Ground.phase }, { on := 11, ground := Ground.phase }, { on := 12, ground := Ground.phase }, { on := 13, ground := Ground.phase }], guard := none }
abbrev lxa38o2 : Oper := { dst := none, op := Op.store 23 (.tmp 55) (.tmp 54), type := 0, pos := "holder.go:47", after := #[{ on := 13, ground := Ground.data }, { on := 12, ground := Ground.data }, { on := 12, ground := Ground.chain }, { on := 0, ground := Ground.phase }, { on := 1, ground := Ground.phase }, { on := 2, ground := Ground.phase }, { on := 3, ground := Ground.phase }, { on := 4, ground := Ground.phase }, { on := 5, ground := Ground.phase }, { on := 6, ground := Ground.phase }, { on := 7, ground := Ground.phase }, { on := 8, ground := Ground.phase }, { on := 9, ground := Ground.phase }, { on := 10, ground := Ground.phase }, { on := 11, ground := Ground.phase }, { on := 12, ground := Ground.phase }], guard := none }
abbrev lxa38o3 : Oper := { dst := some 55, op := Op.fieldAddr 26 (.tmp 3) 1, type := 0, pos := "holder.go:47", after := #[{ on := 0, ground := Ground.phase }, { on := 1, ground := Ground.phase }, { on := 2, ground := Ground.phase }, { on := 3, ground := Ground.phase }, { on := 4, ground := Ground.phase }, { on := 5, ground := Ground.phase }, { on := 6, ground := Ground.phase }, { on := 7, ground := Ground.phase }, { on := 8, ground := Ground.phase }, { on := 9, ground := Ground.phase }, { on := 10, ground := Ground.phase }, { on := 11, ground := Ground.phase }, { on := 12, ground := Ground.phase }], guard := none }
abbrev lxa38o4 : Oper := { dst := some 32, op := Op.call { callee := Callee.builtin Builtin.append, args := #[.tmp 20, .tmp 31], argTypes := #[22, 22] }, type := 22, pos := "holder.go:44", after := #[{ on := 1, ground := Ground.data }, { on := 12, ground := Ground.data }, { on := 10, ground := Ground.chain }], guard := none }
abbrev lxa38o5 : Oper := { dst := some 54, op := Op.call { callee := Callee.builtin Builtin.append, args := #[.tmp 43, .tmp 53], argTypes := #[23, 23] }, type := 23, pos := "holder.go:47", after := #[{ on := 1, ground := Ground.data }, { on := 11, ground := Ground.data }, { on := 9, ground := Ground.chain }], guard := none }
abbrev lxa38o6 : Oper := { dst := some 29, op := Op.call { callee := Callee.value (.func 79), args := #[.tmp 28], argTypes := #[58] }, type := 58, pos := "holder.go:44", after := #[{ on := 9, ground := Ground.data }, { on := 7, ground := Ground.chain }], guard := none }
abbrev lxa38o7 : Oper := { dst := some 30, op := Op.build 63 #[(0, .tmp 23), (1, .tmp 26), (2, .tmp 29)], type := 63, pos := "holder.go:44", after := #[{ on := 4, ground := Ground.data }, { on := 7, ground := Ground.data }, { on := 10, ground := Ground.data }], guard := none }
abbrev lxa38o8 : Oper := { dst := some 31, op := Op.buildSlice 22 1 #[(0, .tmp 30)], type := 22, pos := "holder.go:44", after := #[{ on := 11, ground := Ground.data }], guard := none }
abbrev lxa38o9 : Oper := { dst := some 26, op := Op.call { callee := Callee.value (.func 77), args := #[.tmp 25], argTypes := #[24] }, type := 24, pos := "holder.go:44", after := #[{ on := 6, ground := Ground.data }, { on := 4, ground := Ground.chain }], guard := none }
abbrev lxa38o10 : Oper := { dst := some 20, op := Op.load 22 (.tmp 19), type := 22, pos := "holder.go:44", after := #[{ on := 0, ground := Ground.data }], guard := none }
abbrev lxa38o11 : Oper := { dst := some 51, op := Op.call { callee := Callee.value (.func 79), args := #[.tmp 50], argTypes := #[58] }, type := 58, pos := "holder.go:47", after := #[{ on := 8, ground := Ground.data }, { on := 6, ground := Ground.chain }], guard := none }
abbrev lxa38o12 : Oper := { dst := some 52, op := Op.build 60 #[(0, .tmp 45), (1, .tmp 48), (2, .tmp 51)], type := 60, pos := "holder.go:47", after := #[{ on := 3, ground := Ground.data }, { on := 6, ground := Ground.data }, { on := 9, ground := Ground.data }], guard := none }
abbrev lxa38o13 : Oper := { dst := some 53, op := Op.buildSlice 23 1 #[(0, .tmp 52)], type := 23, pos := "holder.go:47", after := #[{ on := 10, ground := Ground.data }], guard := none }
abbrev lxa38o14 : Oper := { dst := some 43, op := Op.load 23 (.tmp 42), type := 23, pos := "holder.go:47", after := #[{ on := 0, ground := Ground.data }], guard := none }
abbrev lxa38o15 : Oper := { dst := some 23, op := Op.call { callee := Callee.value (.func 78), args := #[.tmp 22], argTypes := #[61] }, type := 61, pos := "holder.go:44", after := #[{ on := 3, ground := Ground.data }], guard := none }
abbrev lxa38o16 : Oper := { dst := some 48, op := Op.call { callee := Callee.value (.func 77), args := #[.tmp 47], argTypes := #[24] }, type := 24, pos := "holder.go:47", after := #[{ on := 5, ground := Ground.data }], guard := none }
end Go.Proofs.YtmfgjicfdjjihaaGreatDoor
namespace Go.Proofs.YtmfgjicfdjjihaaGreatDoor
open Go.RowKit
set_option linter.unusedVariables false
set_option linter.unusedSimpArgs false
/-- Tables in memory of one's own. -/
structure TO where
 da : Option Addr
 dc : Nat
 D : List ChM
 xa : Option Addr
 xc : Nat
 X : List CrM
 fa : Option Addr
 fc : Nat
 F : List Int
abbrev TO.v (o : TO) : Array Value := #[.slice o.da 7 o.dc, .slice o.xa 6 o.xc, .slice o.fa o.F.length o.fc]
def TO.tr (o : TO) : TR := ⟨o.da, o.dc, o.D.map ChM.r, o.xa, o.xc, o.X.map CrM.r, o.fa, o.fc, o.F⟩
structure TO.own (w : World) (B : Nat) (l : List Rl) (o : TO) : Prop where
 d : OwnD w B o.da o.dc o.D
 x : OwnX w B o.xa o.xc o.X
 f : OwnJ w B o.fa o.fc o.F
 is : TabIs l o.D o.X o.F
theorem TO.own.below {w w' : World} {B : Nat} {l : List Rl} {o : TO} (h : TO.own w B l o) (hb : Below w.heap.size w w') : TO.own w' B l o := ⟨h.d.below hb, h.x.below hb, h.f.below hb, h.is⟩
theorem OwnD.base {w : World} {B B' : Nat} {a : Option Addr} {c : Nat} {D : List ChM} (h : OwnD w B a c D) (hb : B' ≤ B) : OwnD w B' a c D := ⟨ownsRow_base h.row hb, fun x hx => CutIn.base (h.each x hx) hb⟩
theorem OwnX.base {w : World} {B B' : Nat} {a : Option Addr} {c : Nat} {D : List CrM} (h : OwnX w B a c D) (hb : B' ≤ B) : OwnX w B' a c D := ⟨ownsRow_base h.row hb, fun x hx => ⟨ownsRow_base (h.each x hx).i hb, (h.each x hx).s.base hb⟩⟩
theorem TO.own.base {w : World} {B B' : Nat} {l : List Rl} {o : TO} (h : TO.own w B l o) (hb : B' ≤ B) : TO.own w B' l o := ⟨h.d.base hb, h.x.base hb, ownsRow_base h.f hb, h.is⟩
theorem TO.own.val {w : World} {B : Nat} {l : List Rl} {o : TO} (h : TO.own w B l o) : o.tr.v = o.v := by
 show #[Value.slice o.da (o.D.map ChM.r).length o.dc, Value.slice o.xa (o.X.map CrM.r).length o.xc, Value.slice o.fa o.F.length o.fc] = _
 rw [List.length_map, List.length_map, h.is.d7, h.is.x6]
theorem TO.own.ok {w : World} {B : Nat} {l : List Rl} {o : TO} (h : TO.own w B l o) (hl : l.length ≤ 64) (hc : costN l 6 ≤ 4096) : o.tr.ok w := by
 obtain ⟨s1, s2, s3⟩ := tab_small hl hc h.is
 refine ⟨?_, ?_, h.d.rows s1, h.x.rows s2, h.f.row (by omega)⟩
 ·show (o.D.map ChM.r).length ≤ _; rw [List.length_map, h.is.d7]; omega
 ·show (o.X.map CrM.r).length ≤ _; rw [List.length_map, h.is.x6]; omega
theorem Blk.grown {w w' : World} {g : Nat} {t : TypeId} {cs : Array Value} {x : Option Nat} (h : Blk w g t cs) (hg : w.grownBy w' x) (hx : x ≠ some g) : Blk w' g t cs := by
 unfold Blk
 rw [hg.block g h.lt (fun e => hx e.symm)]
 exact h
def SameD (D D' : List ChM) : Prop := ∀ (j : Nat) (x : ChM), D'[j]? = some x → ∃ y, D[j]? = some y ∧ x.L = y.L ∧ x.K = y.K ∧ x.S = y.S
def SameX (D D' : List CrM) : Prop := ∀ (j : Nat) (x : CrM), D'[j]? = some x → ∃ y, D[j]? = some y ∧ x.wd = y.wd ∧ x.K = y.K ∧ x.S = y.S
theorem SameD.snoc {D D' : List ChM} (h : SameD D D') {x y : ChM} {n : Nat} (hn : D'.length = n) (hy : D[n]? = some y) (e : x.L = y.L ∧ x.K = y.K ∧ x.S = y.S) : SameD D (D' ++ [x]) := fun j z hz => by
 rw [List.getElem?_append] at hz
 split at hz
 ·exact h j z hz
 ·rename_i hj
  have : j = n := by
   have := (List.getElem?_eq_some_iff.1 hz).1
   simp at this
   omega
  subst this
  rw [hn, Nat.sub_self] at hz
  simp at hz
  subst hz
  exact ⟨y, hy, e⟩
theorem SameX.snoc {D D' : List CrM} (h : SameX D D') {x y : CrM} {n : Nat} (hn : D'.length = n) (hy : D[n]? = some y) (e : x.wd = y.wd ∧ x.K = y.K ∧ x.S = y.S) : SameX D (D' ++ [x]) := fun j z hz => by
 rw [List.getElem?_append] at hz
 split at hz
 ·exact h j z hz
 ·rename_i hj
  have : j = n := by
   have := (List.getElem?_eq_some_iff.1 hz).1
   simp at this
   omega
  subst this
  rw [hn, Nat.sub_self] at hz
  simp at hz
  subst hz
  exact ⟨y, hy, e⟩
theorem tabIs_same {l : List Rl} {D D' : List ChM} {X X' : List CrM} {F : List Int} (h : TabIs l D X F) (hD : SameD D D') (hX : SameX X X') (d7 : D'.length = 7) (x6 : X'.length = 6) : TabIs l D' X' F :=
 ⟨d7, fun d x hx => by
  obtain ⟨y, hy, e1, e2, e3⟩ := hD d x hx
  rw [e1, e2, e3]
  exact h.dim d y hy, x6, fun n x hx => by
  obtain ⟨y, hy, e1, e2, e3⟩ := hX n x hx
  rw [e1, e2, e3]
  exact h.crs n y hy, h.fst⟩
theorem own_block_lt {w : World} {B : Nat} {t : TypeId} {k n c : Nat} {a : Option Addr} {xs : List Value} (h : w.ownsRow B t k (.slice a n c) n xs) : ∀ g, a.map (·.block) = some g → g < w.heap.size := fun g hg => by
 rcases h.2 with ⟨h3, _⟩ | ⟨g', cap, cur, h3, h4, h5, _⟩
 ·cases h3; cases hg
 ·cases h3; cases hg; exact (Array.getElem?_eq_some_iff.1 h5).1
set_option maxRecDepth 100000 in
set_option maxHeartbeats 32000000 in
theorem copy_lk (l : List Rl) (o : TO) (B0 : Nat) (w : World) (h : TO.own w B0 l o) (hl : l.length ≤ 64) (hc4 : costN l 6 ≤ 4096) :
  Calls Tryz.prog 48 #[.agg o.v] w fun e w' => ∃ o' : TO, e = .returned (.agg o'.v) ∧ TO.own w' w.heap.size l o' ∧ Below w.heap.size w w' := by
 obtain ⟨s1, s2, s3⟩ := tab_small hl hc4 h.is
 have HIS : Hid (TabIs l o.D o.X o.F) := h.is
 have HOD : Hid (OwnD w B0 o.da o.dc o.D) := h.d
 have HOX : Hid (OwnX w B0 o.xa o.xc o.X) := h.x
 have HS1 : Hid _ := s1
 have HS2 : Hid _ := s2
 have HRD : Hid (RowD w o.da (o.D.map ChM.r)) := h.d.rows s1
 have HRX : Hid (RowX w o.xa (o.X.map CrM.r)) := h.x.rows s2
 have KF : Hid (∀ W, Below w.heap.size w W → Calls Tryz.prog 77 #[.slice o.fa o.F.length o.fc] W fun e w' => ∃ a c, e = .returned (.slice a o.F.length c) ∧ OwnJ w' W.heap.size a c o.F ∧ Below W.heap.size W w') := fun W hb => cloneJ_lk o.fa o.fc o.F W ((h.f.below hb).row (by omega)) (fun e => by
  have hf := h.f
  rw [e] at hf
  rcases hf.2 with ⟨h5, h6⟩ | ⟨g, cap, cur, h5, _⟩
  ·injection h5 with e0 e1 e2
   exact ⟨e2, List.eq_nil_of_length_eq_zero h6⟩
  ·injection h5 with e0
   cases e0) (by omega)
 obtain ⟨da, dc, D, xa, xc, X, fa, fc, F⟩ := o
 simp only at HIS HOD HOX HS1 HS2 HRD HRX KF
 show Calls _ _ #[.agg #[.slice da 7 dc, .slice xa 6 xc, .slice fa F.length fc]] _ _
 have HDN : Hid (D.length = 7) := HIS.out.d7
 have HXN : Hid (X.length = 6) := HIS.out.x6
 obtain ⟨fn, hfn⟩ : ∃ fn, F.length = fn := ⟨_, rfl⟩
 have HFN : Hid (F.length = fn) := hfn
 rw [hfn] at KF ⊢
 have KI : Hid (∀ (ai : Option Addr) (ci : Nat) (s : List Nat) W, OwnI W B0 ai ci s → s.length ≤ 10000 → Calls Tryz.prog 77 #[.slice ai s.length ci] W fun e w' => ∃ a c, e = .returned (.slice a s.length c) ∧ OwnI w' W.heap.size a c s ∧ Below W.heap.size W w') := fun ai ci s W ho hs => by
  have := cloneJ_lk ai ci (ints s) W (ho.row (by omega)) (fun e => by subst e; obtain ⟨h1, h2⟩ := OwnI.nil_of ho; exact ⟨h1, by rw [h2]; rfl⟩) (by rw [List.length_map]; omega)
  rw [List.length_map] at this
  refine this.mono ?_
  rintro e w' ⟨a', c', h1, h2, h3⟩
  exact ⟨a', c', h1, ownJ_of.1 h2, h3⟩
 obtain ⟨W1, hW1⟩ : ∃ W1, w.alloc (.cells #[.slice da 7 dc, .slice xa 6 xc, .slice fa fn fc] 26) = W1 := ⟨_, rfl⟩
 obtain ⟨W2, hW2⟩ : ∃ W2, W1.alloc (.cells zc3 26) = W2 := ⟨_, rfl⟩
 have b2 := bel_al (bel_nw hW1) hW2
 have HB2 : Hid (Blk W2 w.heap.size 26 #[.slice da 7 dc, .slice xa 6 xc, .slice fa fn fc]) := (blk_nw hW1).al hW2
 have HZ2 : Hid (Blk W2 W1.heap.size 26 zc3) := blk_nw hW2
 have HL1 : Hid (w.heap.size ≤ W1.heap.size) := (bel_nw hW1).size
 have c2 := HB2.out.cell 2 _ rfl
 have K1 : Hid _ := KF.out W2 b2
 clear h hl hc4 s1 s2 s3 hfn
 go_enter Tryz.func48, Tryz.ntmps48
 go_wp2_with fail
 refine Calls.mono K1.out ?_
 rintro e W3 ⟨fA, fC, rfl, hoj, q3⟩
 obtain ⟨W4, hW4⟩ : ∃ W4, W3.alloc (.cells #[.slice none 0 0, .slice none 0 0, .slice fA fn fC] 26) = W4 := ⟨_, rfl⟩
 have q4 := bel_al q3 hW4
 have HO4 : Hid (Blk W4 W3.heap.size 26 #[.slice none 0 0, .slice none 0 0, .slice fA fn fC]) := blk_nw hW4
 have HJ4 : Hid (OwnJ W4 W2.heap.size fA fC F) := hoj.below (bel_nw hW4)
 have HLO : Hid (W2.heap.size ≤ W3.heap.size) := q3.size
 have d0 := (HB2.out.kept q4).cell 0 _ rfl
 clear c2 K1 KF hoj q3 hW1 hW2
 go_wp2_with fail
 clear d0 hW4
 go_loopw [15] (fun i wr => ∃ (n : Nat) (dA : Option Addr) (dC : Nat) (D' : List ChM), n ≤ 7 ∧ i = .int .i64 n ∧ Hid (D'.length = n) ∧ Hid (SameD D D') ∧ Hid (Blk wr W3.heap.size 26 #[.slice dA n dC, .slice none 0 0, .slice fA fn fC]) ∧ Hid (OwnD wr W2.heap.size dA dC D') ∧ Hid (OwnJ wr W2.heap.size fA fC F) ∧ Below W2.heap.size W2 wr) (fun i _ => 7 - (intOf i).toNat)
 case atStart => exact ⟨0, none, 0, [], by omega, rfl, rfl, fun j x hx => by simp at hx, HO4, OwnD.nil _ _, HJ4, q4⟩
 case round =>
  clear HO4 HJ4 q4
  obtain ⟨n, dA, dC, D', hn, rfl, HDL, HSD, HO, HOD', HJ, qw⟩ := hrel
  have bw := bel_tr b2 qw
  by_cases hlt : n < 7
  ·have ik : (n : Int) < 7 := by omega
   have in0 : (0 : Int) ≤ (n : Int) := by omega
   have hw1 : IntKind.i64.wrap ((n : Int) + 1) = ((n + 1 : Nat) : Int) := by simp [IntKind.wrap, IntKind.bits, IntKind.signed]; omega
   obtain ⟨x, hx⟩ : ∃ x, D[n]? = some x := ⟨_, List.getElem?_eq_getElem (by rw [HDN.out]; exact hlt)⟩
   have HXN' : Hid (D[n]? = some x) := hx
   have hxr : (D.map ChM.r)[n]? = some x.r := by rw [List.getElem?_map, hx]; rfl
   obtain ⟨b, off, ha, hc⟩ := (HRD.out.low bw).cells n _ hxr
   have hs1 := info_chR x.r
   have hxm := List.mem_of_getElem? hx
   obtain ⟨z1, z2, z3, z4, z5⟩ := HS1.out x hxm
   have hL0 : 0 < x.L.length := by
    have := ((HIS.out.dim n x hx).right).1
    exact (List.getElem?_eq_some_iff.1 this).1
   have hvr : x.r.v = #[.slice (some ⟨x.g1, 0, none⟩) x.L.length x.c1, .slice x.ka x.L.length x.kc, .slice x.sa x.S.length x.sc] := by
    show #[Value.slice (some ⟨x.g1, 0, none⟩) x.L.length x.c1, Value.slice x.ka (ints x.K).length x.kc, Value.slice x.sa (x.S.map ints).length x.sc] = _
    rw [List.length_map, List.length_map, z2]
   rw [hvr] at hc hs1
   have hown : CutIn w B0 x.g1 x.c1 x.ka x.kc x.sa x.sc x.vs x.L x.K x.S := HOD.out.each x hxm
   obtain ⟨V3, hV3⟩ : ∃ V3, wr.alloc (.cells #[.slice (some ⟨x.g1, 0, none⟩) x.L.length x.c1, .slice x.ka x.L.length x.kc, .slice x.sa x.S.length x.sc] 63) = V3 := ⟨_, rfl⟩
   have q3 := bel_nw hV3
   have qw3 := bel_tr qw q3
   have bw3 := bel_tr b2 qw3
   have KP : Hid (∀ W, Below V3.heap.size V3 W → Calls Tryz.prog 78 #[.slice (some ⟨x.g1, 0, none⟩) x.L.length x.c1] W fun e w' => ∃ g c, e = .returned (.slice (some ⟨g, 0, none⟩) x.L.length c) ∧ OwnP w' W2.heap.size (some ⟨g, 0, none⟩) c x.L ∧ Below W.heap.size W w') := fun W hb => by
    refine (cloneP_lk _ x.c1 x.L W (((hown.sts.below bw3).below hb).row z5) hL0 (by omega)).mono ?_
    rintro e w' ⟨g, c, h1, h2, h3⟩
    exact ⟨g, c, h1, h2.base (Nat.le_trans qw3.size hb.size), h3⟩
   have KI2 : Hid (∀ W, Below V3.heap.size V3 W → Calls Tryz.prog 77 #[.slice x.ka x.L.length x.kc] W fun e w' => ∃ a c, e = .returned (.slice a x.L.length c) ∧ OwnI w' W2.heap.size a c x.K ∧ Below W.heap.size W w') := fun W hb => by
    have := KI.out x.ka x.kc x.K W ((hown.cls.below bw3).below hb) (by omega)
    rw [z2] at this
    refine this.mono ?_
    rintro e w' ⟨g, c, h1, h2, h3⟩
    exact ⟨g, c, h1, ownsRow_base h2 (Nat.le_trans qw3.size hb.size), h3⟩
   have KS : Hid (∀ W, Below V3.heap.size V3 W → Calls Tryz.prog 79 #[.slice x.sa x.S.length x.sc] W fun e w' => ∃ a c vs, e = .returned (.slice a x.S.length c) ∧ SetsO w' W2.heap.size a c x.S vs ∧ Below W.heap.size W w') := fun W hb => by
    refine (copySets_lk x.sa x.sc x.S x.vs B0 W ((hown.set.below bw3).below hb) (by omega) (fun s hs => by have := z4 s hs; omega)).mono ?_
    rintro e w' ⟨g, c, vs, h1, h2, h3⟩
    exact ⟨g, c, vs, h1, h2.base (Nat.le_trans qw3.size hb.size), h3⟩
   have HC3 : Hid (Blk V3 wr.heap.size 63 #[.slice (some ⟨x.g1, 0, none⟩) x.L.length x.c1, .slice x.ka x.L.length x.kc, .slice x.sa x.S.length x.sc]) := blk_nw hV3
   have HT3 : Hid (Blk V3 W3.heap.size 26 #[.slice dA n dC, .slice none 0 0, .slice fA fn fC]) := HO.out.kept q3
   have HD3 : Hid (OwnD V3 W2.heap.size dA dC D') := HOD'.out.below q3
   have HJ3 : Hid (OwnJ V3 W2.heap.size fA fC F) := HJ.out.below q3
   have HNE : Hid (dA.map (·.block) ≠ some wr.heap.size) := fun e => by
    have := own_block_lt HOD'.out.row _ e
    omega
   have HNO : Hid (W3.heap.size < wr.heap.size) := HO.out.lt
   have HK2 : Hid (x.K.length = x.L.length) := z2
   obtain ⟨L, hL⟩ : ∃ L, x.L = L := ⟨_, rfl⟩
   obtain ⟨KL, hKL⟩ : ∃ KL, x.K = KL := ⟨_, rfl⟩
   obtain ⟨S, hS⟩ : ∃ S, x.S = S := ⟨_, rfl⟩
   have HE : Hid (L = x.L ∧ KL = x.K ∧ S = x.S) := ⟨hL.symm, hKL.symm, hS.symm⟩
   rw [hL] at KP KI2 HC3 hV3 hc hs1 HK2
   rw [hKL] at KI2 HK2
   rw [hS] at KS HC3 hV3 hc hs1
   generalize x.g1 = g1 at KP HC3 hV3 hc hs1
   generalize x.c1 = y1 at KP HC3 hV3 hc hs1
   generalize x.ka = x2 at KI2 HC3 hV3 hc hs1
   generalize x.kc = y2 at KI2 HC3 hV3 hc hs1
   generalize x.sa = x3 at KS HC3 hV3 hc hs1
   generalize x.sc = y3 at KS HC3 hV3 hc hs1
   obtain ⟨l1, hl1⟩ : ∃ l1, L.length = l1 := ⟨_, rfl⟩
   obtain ⟨l3, hl3⟩ : ∃ l3, S.length = l3 := ⟨_, rfl⟩
   have HL : Hid (L.length = l1 ∧ S.length = l3) := ⟨hl1, hl3⟩
   rw [hl1] at KP KI2 HC3 hV3 hc hs1 HK2
   rw [hl3] at KS HC3 hV3 hc hs1
   subst ha
   clear hx hxr hxm z1 z2 z3 z4 z5 hL0 hvr hown hL hKL hS hl1 hl3 qw bw HO HOD' HJ
   go_wp2_with (first
    | (refine wpList_load_at rfl _ _ rfl b (off + n * 3) (by rfl) _ hc Tryz.underlying63 hs1 ?_))
   clear hc
   have hBc := below_drew V3
   refine wp_region_noPanic ?_
   refine wp_region_held_drew (S := fun w'' => Blk w'' wr.heap.size 63 #[.slice (some ⟨g1, 0, none⟩) l1 y1, .slice x2 l1 y2, .slice x3 l3 y3]) (by kernel_rfl) (HC3.out.kept hBc) (fun hHeld => ?_)
   refine qtk (i := 0) (oi := { dst := some 19, op := Op.fieldAddr 26 (.tmp 3) 0, type := 0, pos := "holder.go:44", after := #[], guard := none }) (v := (.pointer (some ⟨W3.heap.size, 0, none⟩))) hHeld ?_ ?_
   ·intro w9 hSw
    try dsimp only at hSw
    go_simp
   try simp only [qpu]
   refine qtk (i := 2) (oi := { dst := some 21, op := Op.fieldAddr 63 (.tmp 5) 0, type := 0, pos := "holder.go:44", after := #[], guard := none }) (v := (.pointer (some ⟨wr.heap.size, 0, none⟩))) hHeld ?_ ?_
   ·intro w9 hSw
    try dsimp only at hSw
    go_simp
   try simp only [qpu]
   refine qtk (i := 3) (oi := { dst := some 22, op := Op.load 61 (.tmp 21), type := 61, pos := "holder.go:44", after := #[{ on := 2, ground := Ground.data }], guard := none }) (v := (.slice (some ⟨g1, 0, none⟩) l1 y1)) hHeld ?_ ?_
   ·intro w9 hSw
    try dsimp only at hSw
    have hcc := hSw.cell 0 _ rfl
    go_simp
   try simp only [qpu]
   refine qtk (i := 5) (oi := { dst := some 24, op := Op.fieldAddr 63 (.tmp 5) 1, type := 0, pos := "holder.go:44", after := #[], guard := none }) (v := (.pointer (some ⟨wr.heap.size, 1, none⟩))) hHeld ?_ ?_
   ·intro w9 hSw
    try dsimp only at hSw
    go_simp
   try simp only [qpu]
   refine qtk (i := 6) (oi := { dst := some 25, op := Op.load 24 (.tmp 24), type := 24, pos := "holder.go:44", after := #[{ on := 5, ground := Ground.data }], guard := none }) (v := (.slice x2 l1 y2)) hHeld ?_ ?_
   ·intro w9 hSw
    try dsimp only at hSw
    have hcc := hSw.cell 1 _ rfl
    go_simp
   try simp only [qpu]
   refine qtk (i := 8) (oi := { dst := some 27, op := Op.fieldAddr 63 (.tmp 5) 2, type := 0, pos := "holder.go:44", after := #[], guard := none }) (v := (.pointer (some ⟨wr.heap.size, 2, none⟩))) hHeld ?_ ?_
   ·intro w9 hSw
    try dsimp only at hSw
    go_simp
   try simp only [qpu]
   refine qtk (i := 9) (oi := { dst := some 28, op := Op.load 58 (.tmp 27), type := 58, pos := "holder.go:44", after := #[{ on := 8, ground := Ground.data }], guard := none }) (v := (.slice x3 l3 y3)) hHeld ?_ ?_
   ·intro w9 hSw
    try dsimp only at hSw
    have hcc := hSw.cell 2 _ rfl
    go_simp
   try simp only [qpu]
   refine wpAnyH_ready (rs := [1, 4]) (by kernel_rfl) (by simp) ?_
   refine AllReadyH.cons (o := lxa38o10) rfl (fun K hK => ?_) (AllReadyH.cons (o := lxa38o15) rfl (fun K hK => ?_) AllReadyH.nil)
   ·have hcc := (HT3.out.kept hBc).cell 0 _ rfl
    go_simp
    refine hK.out _ _ (HC3.out.kept hBc) (fun hHeld => ?_)
    clear hK K hcc
    try simp only [qpu]
    refine wpAnyH_ready (rs := [4]) (by kernel_rfl) (by simp) ?_
    refine AllReadyH.cons (o := lxa38o15) rfl (fun K hK => ?_) AllReadyH.nil
    go_simp
    refine Calls.mono (KP.out _ hBc) ?_
    rintro e Va ⟨g1', c1', rfl, ho1, qa⟩
    have HO1 : Hid (OwnP Va W2.heap.size (some ⟨g1', 0, none⟩) c1' L) := ho1
    replace hBc := bel_tr hBc qa
    clear ho1 qa
    refine hK.out _ _ (HC3.out.kept hBc) (fun hHeld => ?_)
    clear hK K
    try simp only [qpu]
    refine wpAnyH_ready (rs := [7]) (by kernel_rfl) (by simp) ?_
    refine AllReadyH.cons (o := lxa38o9) rfl (fun K hK => ?_) AllReadyH.nil
    go_simp
    refine Calls.mono (KI2.out _ hBc) ?_
    rintro e Vb ⟨a2', c2', rfl, ho2, qb⟩
    have HO2 : Hid (OwnI Vb W2.heap.size a2' c2' KL) := ho2
    replace HO1 : Hid (OwnP Vb W2.heap.size (some ⟨g1', 0, none⟩) c1' L) := HO1.out.below qb
    replace hBc := bel_tr hBc qb
    clear ho2 qb
    refine hK.out _ _ (HC3.out.kept hBc) (fun hHeld => ?_)
    clear hK K
    try simp only [qpu]
    refine wpAnyH_ready (rs := [10]) (by kernel_rfl) (by simp) ?_
    refine AllReadyH.cons (o := lxa38o6) rfl (fun K hK => ?_) AllReadyH.nil
    go_simp
    refine Calls.mono (KS.out _ hBc) ?_
    rintro e Vc ⟨a3', c3', vs', rfl, ho3, qc⟩
    have HO3 : Hid (SetsO Vc W2.heap.size a3' c3' S vs') := ho3
    replace HO1 : Hid (OwnP Vc W2.heap.size (some ⟨g1', 0, none⟩) c1' L) := HO1.out.below qc
    replace HO2 : Hid (OwnI Vc W2.heap.size a2' c2' KL) := HO2.out.below qc
    replace hBc := bel_tr hBc qc
    clear ho3 qc
    refine hK.out _ _ (HC3.out.kept hBc) (fun hHeld => ?_)
    clear hK K
    try simp only [qpu]
    refine qtk (i := 11) (oi := lxa38o7) (v := (.agg #[.slice (some ⟨g1', 0, none⟩) l1 c1', .slice a2' l1 c2', .slice a3' l3 c3'])) hHeld ?_ ?_
    ·intro w9 hSw
     try dsimp only at hSw
     go_simp
    try simp only [qpu]
    refine wpAnyH_ready (rs := [12]) (by kernel_rfl) (by simp) ?_
    refine AllReadyH.cons (o := lxa38o8) rfl (fun K hK => ?_) AllReadyH.nil
    obtain ⟨Vd, hVd⟩ : ∃ Vd, Vc.alloc (.cells #[.slice (some ⟨g1', 0, none⟩) l1 c1', .slice a2' l1 c2', .slice a3' l3 c3'] 63) = Vd := ⟨_, rfl⟩
    have qd := bel_nw hVd
    replace HO1 : Hid (OwnP Vd W2.heap.size (some ⟨g1', 0, none⟩) c1' L) := HO1.out.below qd
    replace HO2 : Hid (OwnI Vd W2.heap.size a2' c2' KL) := HO2.out.below qd
    replace HO3 : Hid (SetsO Vd W2.heap.size a3' c3' S vs') := HO3.out.below qd
    replace hBc := bel_tr hBc qd
    go_simp
    refine hK.out _ _ (HC3.out.kept hBc) (fun hHeld => ?_)
    clear hK K
    try simp only [qpu]
    refine wpAnyH_ready (rs := [13]) (by kernel_rfl) (by simp) ?_
    refine AllReadyH.cons (o := lxa38o4) rfl (fun K hK => ?_) AllReadyH.nil
    have hbd : Blk Vd Vc.heap.size 63 (ChM.v (⟨g1', c1', a2', c2', a3', c3', vs', L, KL, S⟩ : ChM)) := by
     have := blk_nw hVd
     show Blk Vd Vc.heap.size _ #[.slice (some ⟨g1', 0, none⟩) L.length c1', .slice a2' L.length c2', .slice a3' S.length c3']
     rw [HL.out.1, HL.out.2]
     exact this
    obtain ⟨g6, c6, Ve, hrun, hod, hT, hg, hb6⟩ := run_appD1 Vd 22 W2.heap.size dA dC D' (HD3.out.below hBc) (⟨g1', c1', a2', c2', a3', c3', vs', L, KL, S⟩ : ChM) (⟨HO1.out, HO2.out, HO3.out⟩ : CutIn Vd W2.heap.size _ _ _ _ _ _ _ _ _ _) Vc.heap.size 1 63 hbd (by rw [HDL.out]; omega) (qw3.trans (hBc.mono qw3.size)).size
    rw [HDL.out] at hrun
    have HRr : Hid _ := hrun
    have HOD9 : Hid (OwnD Ve W2.heap.size (some ⟨g6, 0, none⟩) c6 (D' ++ [(⟨g1', c1', a2', c2', a3', c3', vs', L, KL, S⟩ : ChM)])) := hod
    have HT9 : Hid (Tc (· == 63) Vd Ve) := hT
    have HTe : Hid (Blk Ve W3.heap.size 26 #[.slice dA n dC, .slice none 0 0, .slice fA fn fC]) := (HT3.out.kept hBc).tc hT (by rfl)
    have HCe : Hid (Blk Ve wr.heap.size 63 #[.slice (some ⟨g1, 0, none⟩) l1 y1, .slice x2 l1 y2, .slice x3 l3 y3]) := (HC3.out.kept hBc).grown hg HNE.out
    have HJe : Hid (OwnJ Ve W2.heap.size fA fC F) := ownsRow_tc (HJ3.out.below hBc) hT (by rfl)
    have qwe : Below W2.heap.size W2 Ve := (qw3.trans (hBc.mono qw3.size)).trans hb6
    clear hrun hod hg hT hbd hb6
    refine step_rn rfl 22 _ _ rfl _ _ rfl rfl _ _ HRr.out ?_
    refine hK.out _ _ HCe.out (fun hHeld => ?_)
    clear hK K
    try simp only [qpu]
    refine qtk (i := 14) (oi := lxa38o1) (v := (.pointer (some ⟨W3.heap.size, 0, none⟩))) hHeld ?_ ?_
    ·intro w9 hSw
     try dsimp only at hSw
     go_simp
    try simp only [qpu]
    refine wpAnyH_ready (rs := [15]) (by kernel_rfl) (by simp) ?_
    refine AllReadyH.cons (o := lxa38o0) rfl (fun K hK => ?_) AllReadyH.nil
    have fz := HTe.out.frozen 0
    have fc := HTe.out.cell 0 _ rfl
    have hBO := HTe.out.put 0 (.slice (some ⟨g6, 0, none⟩) (n + 1) c6)
    have HBO : Hid (Blk (Ve.setCell ⟨W3.heap.size, 0, none⟩ (.slice (some ⟨g6, 0, none⟩) (n + 1) c6)) W3.heap.size 26 #[.slice (some ⟨g6, 0, none⟩) (n + 1) c6, .slice none 0 0, .slice fA fn fC]) := hBO
    have hT2 : Tc (· == 26) Ve (Ve.setCell ⟨W3.heap.size, 0, none⟩ (.slice (some ⟨g6, 0, none⟩) (n + 1) c6)) := Tc.put HTe.out (by rfl) _ _
    have HT2 : Hid (Tc (· == 26) Ve (Ve.setCell ⟨W3.heap.size, 0, none⟩ (.slice (some ⟨g6, 0, none⟩) (n + 1) c6))) := hT2
    have qwf : Below W2.heap.size W2 (Ve.setCell ⟨W3.heap.size, 0, none⟩ (.slice (some ⟨g6, 0, none⟩) (n + 1) c6)) := qwe.setCell HLO.out _
    clear hBO hT2
    go_simp
    refine hK.out _ _ (Blk.put_other HCe.out HTe.out (Nat.ne_of_gt HNO.out) _ _) (fun hHeld => ?_)
    clear hK K fz fc
    try simp only [qpu]
    refine wpAnyH_done (by kernel_rfl) ?_ _
    refine NoPanic.normal ?_
    have HSD9 : Hid (SameD D (D' ++ [(⟨g1', c1', a2', c2', a3', c3', vs', L, KL, S⟩ : ChM)])) := HSD.out.snoc HDL.out HXN'.out HE.out
    have HDL9 : Hid ((D' ++ [(⟨g1', c1', a2', c2', a3', c3', vs', L, KL, S⟩ : ChM)]).length = n + 1) := (by rw [List.length_append, HDL.out]; rfl : (D' ++ [(⟨g1', c1', a2', c2', a3', c3', vs', L, KL, S⟩ : ChM)]).length = n + 1)
    have HDZ : Hid (OwnD (Ve.setCell ⟨W3.heap.size, 0, none⟩ (.slice (some ⟨g6, 0, none⟩) (n + 1) c6)) W2.heap.size (some ⟨g6, 0, none⟩) c6 (D' ++ [(⟨g1', c1', a2', c2', a3', c3', vs', L, KL, S⟩ : ChM)])) := HOD9.out.tc HT2.out (by rfl) (by rfl) (by rfl) (by rfl)
    have HJZ : Hid (OwnJ (Ve.setCell ⟨W3.heap.size, 0, none⟩ (.slice (some ⟨g6, 0, none⟩) (n + 1) c6)) W2.heap.size fA fC F) := ownsRow_tc HJe.out HT2.out (by rfl)
    clear HRr hBc HTe HCe HJe HT9 qwe HOD9 hVd HO1 HO2 HO3 HT2
    go_wp2
    exact ⟨⟨n + 1, some ⟨g6, 0, none⟩, c6, _, by omega, by first | rfl | (congr 1), HDL9, HSD9, HBO, HDZ, HJZ, qwf⟩, by simp only [intOf]; omega⟩
   ·go_simp
    refine Calls.mono (KP.out _ hBc) ?_
    rintro e Va ⟨g1', c1', rfl, ho1, qa⟩
    have HO1 : Hid (OwnP Va W2.heap.size (some ⟨g1', 0, none⟩) c1' L) := ho1
    replace hBc := bel_tr hBc qa
    clear ho1 qa
    refine hK.out _ _ (HC3.out.kept hBc) (fun hHeld => ?_)
    clear hK K
    try simp only [qpu]
    refine wpAnyH_ready (rs := [1, 7]) (by kernel_rfl) (by simp) ?_
    refine AllReadyH.cons (o := lxa38o10) rfl (fun K hK => ?_) (AllReadyH.cons (o := lxa38o9) rfl (fun K hK => ?_) AllReadyH.nil)
    ·have hcc := (HT3.out.kept hBc).cell 0 _ rfl
     go_simp
     refine hK.out _ _ (HC3.out.kept hBc) (fun hHeld => ?_)
     clear hK K hcc
     try simp only [qpu]
     refine wpAnyH_ready (rs := [7]) (by kernel_rfl) (by simp) ?_
     refine AllReadyH.cons (o := lxa38o9) rfl (fun K hK => ?_) AllReadyH.nil
     go_simp
     refine Calls.mono (KI2.out _ hBc) ?_
     rintro e Vb ⟨a2', c2', rfl, ho2, qb⟩
     have HO2 : Hid (OwnI Vb W2.heap.size a2' c2' KL) := ho2
     replace HO1 : Hid (OwnP Vb W2.heap.size (some ⟨g1', 0, none⟩) c1' L) := HO1.out.below qb
     replace hBc := bel_tr hBc qb
     clear ho2 qb
     refine hK.out _ _ (HC3.out.kept hBc) (fun hHeld => ?_)
     clear hK K
     try simp only [qpu]
     refine wpAnyH_ready (rs := [10]) (by kernel_rfl) (by simp) ?_
     refine AllReadyH.cons (o := lxa38o6) rfl (fun K hK => ?_) AllReadyH.nil
     go_simp
     refine Calls.mono (KS.out _ hBc) ?_
     rintro e Vc ⟨a3', c3', vs', rfl, ho3, qc⟩
     have HO3 : Hid (SetsO Vc W2.heap.size a3' c3' S vs') := ho3
     replace HO1 : Hid (OwnP Vc W2.heap.size (some ⟨g1', 0, none⟩) c1' L) := HO1.out.below qc
     replace HO2 : Hid (OwnI Vc W2.heap.size a2' c2' KL) := HO2.out.below qc
     replace hBc := bel_tr hBc qc
     clear ho3 qc
     refine hK.out _ _ (HC3.out.kept hBc) (fun hHeld => ?_)
     clear hK K
     try simp only [qpu]
     refine qtk (i := 11) (oi := lxa38o7) (v := (.agg #[.slice (some ⟨g1', 0, none⟩) l1 c1', .slice a2' l1 c2', .slice a3' l3 c3'])) hHeld ?_ ?_
     ·intro w9 hSw
      try dsimp only at hSw
      go_simp
     try simp only [qpu]
     refine wpAnyH_ready (rs := [12]) (by kernel_rfl) (by simp) ?_
     refine AllReadyH.cons (o := lxa38o8) rfl (fun K hK => ?_) AllReadyH.nil
     obtain ⟨Vd, hVd⟩ : ∃ Vd, Vc.alloc (.cells #[.slice (some ⟨g1', 0, none⟩) l1 c1', .slice a2' l1 c2', .slice a3' l3 c3'] 63) = Vd := ⟨_, rfl⟩
     have qd := bel_nw hVd
     replace HO1 : Hid (OwnP Vd W2.heap.size (some ⟨g1', 0, none⟩) c1' L) := HO1.out.below qd
     replace HO2 : Hid (OwnI Vd W2.heap.size a2' c2' KL) := HO2.out.below qd
     replace HO3 : Hid (SetsO Vd W2.heap.size a3' c3' S vs') := HO3.out.below qd
     replace hBc := bel_tr hBc qd
     go_simp
     refine hK.out _ _ (HC3.out.kept hBc) (fun hHeld => ?_)
     clear hK K
     try simp only [qpu]
     refine wpAnyH_ready (rs := [13]) (by kernel_rfl) (by simp) ?_
     refine AllReadyH.cons (o := lxa38o4) rfl (fun K hK => ?_) AllReadyH.nil
     have hbd : Blk Vd Vc.heap.size 63 (ChM.v (⟨g1', c1', a2', c2', a3', c3', vs', L, KL, S⟩ : ChM)) := by
      have := blk_nw hVd
      show Blk Vd Vc.heap.size _ #[.slice (some ⟨g1', 0, none⟩) L.length c1', .slice a2' L.length c2', .slice a3' S.length c3']
      rw [HL.out.1, HL.out.2]
      exact this
     obtain ⟨g6, c6, Ve, hrun, hod, hT, hg, hb6⟩ := run_appD1 Vd 22 W2.heap.size dA dC D' (HD3.out.below hBc) (⟨g1', c1', a2', c2', a3', c3', vs', L, KL, S⟩ : ChM) (⟨HO1.out, HO2.out, HO3.out⟩ : CutIn Vd W2.heap.size _ _ _ _ _ _ _ _ _ _) Vc.heap.size 1 63 hbd (by rw [HDL.out]; omega) (qw3.trans (hBc.mono qw3.size)).size
     rw [HDL.out] at hrun
     have HRr : Hid _ := hrun
     have HOD9 : Hid (OwnD Ve W2.heap.size (some ⟨g6, 0, none⟩) c6 (D' ++ [(⟨g1', c1', a2', c2', a3', c3', vs', L, KL, S⟩ : ChM)])) := hod
     have HT9 : Hid (Tc (· == 63) Vd Ve) := hT
     have HTe : Hid (Blk Ve W3.heap.size 26 #[.slice dA n dC, .slice none 0 0, .slice fA fn fC]) := (HT3.out.kept hBc).tc hT (by rfl)
     have HCe : Hid (Blk Ve wr.heap.size 63 #[.slice (some ⟨g1, 0, none⟩) l1 y1, .slice x2 l1 y2, .slice x3 l3 y3]) := (HC3.out.kept hBc).grown hg HNE.out
     have HJe : Hid (OwnJ Ve W2.heap.size fA fC F) := ownsRow_tc (HJ3.out.below hBc) hT (by rfl)
     have qwe : Below W2.heap.size W2 Ve := (qw3.trans (hBc.mono qw3.size)).trans hb6
     clear hrun hod hg hT hbd hb6
     refine step_rn rfl 22 _ _ rfl _ _ rfl rfl _ _ HRr.out ?_
     refine hK.out _ _ HCe.out (fun hHeld => ?_)
     clear hK K
     try simp only [qpu]
     refine qtk (i := 14) (oi := lxa38o1) (v := (.pointer (some ⟨W3.heap.size, 0, none⟩))) hHeld ?_ ?_
     ·intro w9 hSw
      try dsimp only at hSw
      go_simp
     try simp only [qpu]
     refine wpAnyH_ready (rs := [15]) (by kernel_rfl) (by simp) ?_
     refine AllReadyH.cons (o := lxa38o0) rfl (fun K hK => ?_) AllReadyH.nil
     have fz := HTe.out.frozen 0
     have fc := HTe.out.cell 0 _ rfl
     have hBO := HTe.out.put 0 (.slice (some ⟨g6, 0, none⟩) (n + 1) c6)
     have HBO : Hid (Blk (Ve.setCell ⟨W3.heap.size, 0, none⟩ (.slice (some ⟨g6, 0, none⟩) (n + 1) c6)) W3.heap.size 26 #[.slice (some ⟨g6, 0, none⟩) (n + 1) c6, .slice none 0 0, .slice fA fn fC]) := hBO
     have hT2 : Tc (· == 26) Ve (Ve.setCell ⟨W3.heap.size, 0, none⟩ (.slice (some ⟨g6, 0, none⟩) (n + 1) c6)) := Tc.put HTe.out (by rfl) _ _
     have HT2 : Hid (Tc (· == 26) Ve (Ve.setCell ⟨W3.heap.size, 0, none⟩ (.slice (some ⟨g6, 0, none⟩) (n + 1) c6))) := hT2
     have qwf : Below W2.heap.size W2 (Ve.setCell ⟨W3.heap.size, 0, none⟩ (.slice (some ⟨g6, 0, none⟩) (n + 1) c6)) := qwe.setCell HLO.out _
     clear hBO hT2
     go_simp
     refine hK.out _ _ (Blk.put_other HCe.out HTe.out (Nat.ne_of_gt HNO.out) _ _) (fun hHeld => ?_)
     clear hK K fz fc
     try simp only [qpu]
     refine wpAnyH_done (by kernel_rfl) ?_ _
     refine NoPanic.normal ?_
     have HSD9 : Hid (SameD D (D' ++ [(⟨g1', c1', a2', c2', a3', c3', vs', L, KL, S⟩ : ChM)])) := HSD.out.snoc HDL.out HXN'.out HE.out
     have HDL9 : Hid ((D' ++ [(⟨g1', c1', a2', c2', a3', c3', vs', L, KL, S⟩ : ChM)]).length = n + 1) := (by rw [List.length_append, HDL.out]; rfl : (D' ++ [(⟨g1', c1', a2', c2', a3', c3', vs', L, KL, S⟩ : ChM)]).length = n + 1)
     have HDZ : Hid (OwnD (Ve.setCell ⟨W3.heap.size, 0, none⟩ (.slice (some ⟨g6, 0, none⟩) (n + 1) c6)) W2.heap.size (some ⟨g6, 0, none⟩) c6 (D' ++ [(⟨g1', c1', a2', c2', a3', c3', vs', L, KL, S⟩ : ChM)])) := HOD9.out.tc HT2.out (by rfl) (by rfl) (by rfl) (by rfl)
     have HJZ : Hid (OwnJ (Ve.setCell ⟨W3.heap.size, 0, none⟩ (.slice (some ⟨g6, 0, none⟩) (n + 1) c6)) W2.heap.size fA fC F) := ownsRow_tc HJe.out HT2.out (by rfl)
     clear HRr hBc HTe HCe HJe HT9 qwe HOD9 hVd HO1 HO2 HO3 HT2
     go_wp2
     exact ⟨⟨n + 1, some ⟨g6, 0, none⟩, c6, _, by omega, by first | rfl | (congr 1), HDL9, HSD9, HBO, HDZ, HJZ, qwf⟩, by simp only [intOf]; omega⟩
    ·go_simp
     refine Calls.mono (KI2.out _ hBc) ?_
     rintro e Vb ⟨a2', c2', rfl, ho2, qb⟩
     have HO2 : Hid (OwnI Vb W2.heap.size a2' c2' KL) := ho2
     replace HO1 : Hid (OwnP Vb W2.heap.size (some ⟨g1', 0, none⟩) c1' L) := HO1.out.below qb
     replace hBc := bel_tr hBc qb
     clear ho2 qb
     refine hK.out _ _ (HC3.out.kept hBc) (fun hHeld => ?_)
     clear hK K
     try simp only [qpu]
     refine wpAnyH_ready (rs := [1, 10]) (by kernel_rfl) (by simp) ?_
     refine AllReadyH.cons (o := lxa38o10) rfl (fun K hK => ?_) (AllReadyH.cons (o := lxa38o6) rfl (fun K hK => ?_) AllReadyH.nil)
     ·have hcc := (HT3.out.kept hBc).cell 0 _ rfl
      go_simp
      refine hK.out _ _ (HC3.out.kept hBc) (fun hHeld => ?_)
      clear hK K hcc
      try simp only [qpu]
      refine wpAnyH_ready (rs := [10]) (by kernel_rfl) (by simp) ?_
      refine AllReadyH.cons (o := lxa38o6) rfl (fun K hK => ?_) AllReadyH.nil
      go_simp
      refine Calls.mono (KS.out _ hBc) ?_
      rintro e Vc ⟨a3', c3', vs', rfl, ho3, qc⟩
      have HO3 : Hid (SetsO Vc W2.heap.size a3' c3' S vs') := ho3
      replace HO1 : Hid (OwnP Vc W2.heap.size (some ⟨g1', 0, none⟩) c1' L) := HO1.out.below qc
      replace HO2 : Hid (OwnI Vc W2.heap.size a2' c2' KL) := HO2.out.below qc
      replace hBc := bel_tr hBc qc
      clear ho3 qc
      refine hK.out _ _ (HC3.out.kept hBc) (fun hHeld => ?_)
      clear hK K
      try simp only [qpu]
      refine qtk (i := 11) (oi := lxa38o7) (v := (.agg #[.slice (some ⟨g1', 0, none⟩) l1 c1', .slice a2' l1 c2', .slice a3' l3 c3'])) hHeld ?_ ?_
      ·intro w9 hSw
       try dsimp only at hSw
       go_simp
      try simp only [qpu]
      refine wpAnyH_ready (rs := [12]) (by kernel_rfl) (by simp) ?_
      refine AllReadyH.cons (o := lxa38o8) rfl (fun K hK => ?_) AllReadyH.nil
      obtain ⟨Vd, hVd⟩ : ∃ Vd, Vc.alloc (.cells #[.slice (some ⟨g1', 0, none⟩) l1 c1', .slice a2' l1 c2', .slice a3' l3 c3'] 63) = Vd := ⟨_, rfl⟩
      have qd := bel_nw hVd
      replace HO1 : Hid (OwnP Vd W2.heap.size (some ⟨g1', 0, none⟩) c1' L) := HO1.out.below qd
      replace HO2 : Hid (OwnI Vd W2.heap.size a2' c2' KL) := HO2.out.below qd
      replace HO3 : Hid (SetsO Vd W2.heap.size a3' c3' S vs') := HO3.out.below qd
      replace hBc := bel_tr hBc qd
      go_simp
      refine hK.out _ _ (HC3.out.kept hBc) (fun hHeld => ?_)
      clear hK K
      try simp only [qpu]
      refine wpAnyH_ready (rs := [13]) (by kernel_rfl) (by simp) ?_
      refine AllReadyH.cons (o := lxa38o4) rfl (fun K hK => ?_) AllReadyH.nil
      have hbd : Blk Vd Vc.heap.size 63 (ChM.v (⟨g1', c1', a2', c2', a3', c3', vs', L, KL, S⟩ : ChM)) := by
       have := blk_nw hVd
       show Blk Vd Vc.heap.size _ #[.slice (some ⟨g1', 0, none⟩) L.length c1', .slice a2' L.length c2', .slice a3' S.length c3']
       rw [HL.out.1, HL.out.2]
       exact this
      obtain ⟨g6, c6, Ve, hrun, hod, hT, hg, hb6⟩ := run_appD1 Vd 22 W2.heap.size dA dC D' (HD3.out.below hBc) (⟨g1', c1', a2', c2', a3', c3', vs', L, KL, S⟩ : ChM) (⟨HO1.out, HO2.out, HO3.out⟩ : CutIn Vd W2.heap.size _ _ _ _ _ _ _ _ _ _) Vc.heap.size 1 63 hbd (by rw [HDL.out]; omega) (qw3.trans (hBc.mono qw3.size)).size
      rw [HDL.out] at hrun
      have HRr : Hid _ := hrun
      have HOD9 : Hid (OwnD Ve W2.heap.size (some ⟨g6, 0, none⟩) c6 (D' ++ [(⟨g1', c1', a2', c2', a3', c3', vs', L, KL, S⟩ : ChM)])) := hod
      have HT9 : Hid (Tc (· == 63) Vd Ve) := hT
      have HTe : Hid (Blk Ve W3.heap.size 26 #[.slice dA n dC, .slice none 0 0, .slice fA fn fC]) := (HT3.out.kept hBc).tc hT (by rfl)
      have HCe : Hid (Blk Ve wr.heap.size 63 #[.slice (some ⟨g1, 0, none⟩) l1 y1, .slice x2 l1 y2, .slice x3 l3 y3]) := (HC3.out.kept hBc).grown hg HNE.out
      have HJe : Hid (OwnJ Ve W2.heap.size fA fC F) := ownsRow_tc (HJ3.out.below hBc) hT (by rfl)
      have qwe : Below W2.heap.size W2 Ve := (qw3.trans (hBc.mono qw3.size)).trans hb6
      clear hrun hod hg hT hbd hb6
      refine step_rn rfl 22 _ _ rfl _ _ rfl rfl _ _ HRr.out ?_
      refine hK.out _ _ HCe.out (fun hHeld => ?_)
      clear hK K
      try simp only [qpu]
      refine qtk (i := 14) (oi := lxa38o1) (v := (.pointer (some ⟨W3.heap.size, 0, none⟩))) hHeld ?_ ?_
      ·intro w9 hSw
       try dsimp only at hSw
       go_simp
      try simp only [qpu]
      refine wpAnyH_ready (rs := [15]) (by kernel_rfl) (by simp) ?_
      refine AllReadyH.cons (o := lxa38o0) rfl (fun K hK => ?_) AllReadyH.nil
      have fz := HTe.out.frozen 0
      have fc := HTe.out.cell 0 _ rfl
      have hBO := HTe.out.put 0 (.slice (some ⟨g6, 0, none⟩) (n + 1) c6)
      have HBO : Hid (Blk (Ve.setCell ⟨W3.heap.size, 0, none⟩ (.slice (some ⟨g6, 0, none⟩) (n + 1) c6)) W3.heap.size 26 #[.slice (some ⟨g6, 0, none⟩) (n + 1) c6, .slice none 0 0, .slice fA fn fC]) := hBO
      have hT2 : Tc (· == 26) Ve (Ve.setCell ⟨W3.heap.size, 0, none⟩ (.slice (some ⟨g6, 0, none⟩) (n + 1) c6)) := Tc.put HTe.out (by rfl) _ _
      have HT2 : Hid (Tc (· == 26) Ve (Ve.setCell ⟨W3.heap.size, 0, none⟩ (.slice (some ⟨g6, 0, none⟩) (n + 1) c6))) := hT2
      have qwf : Below W2.heap.size W2 (Ve.setCell ⟨W3.heap.size, 0, none⟩ (.slice (some ⟨g6, 0, none⟩) (n + 1) c6)) := qwe.setCell HLO.out _
      clear hBO hT2
      go_simp
      refine hK.out _ _ (Blk.put_other HCe.out HTe.out (Nat.ne_of_gt HNO.out) _ _) (fun hHeld => ?_)
      clear hK K fz fc
      try simp only [qpu]
      refine wpAnyH_done (by kernel_rfl) ?_ _
      refine NoPanic.normal ?_
      have HSD9 : Hid (SameD D (D' ++ [(⟨g1', c1', a2', c2', a3', c3', vs', L, KL, S⟩ : ChM)])) := HSD.out.snoc HDL.out HXN'.out HE.out
      have HDL9 : Hid ((D' ++ [(⟨g1', c1', a2', c2', a3', c3', vs', L, KL, S⟩ : ChM)]).length = n + 1) := (by rw [List.length_append, HDL.out]; rfl : (D' ++ [(⟨g1', c1', a2', c2', a3', c3', vs', L, KL, S⟩ : ChM)]).length = n + 1)
      have HDZ : Hid (OwnD (Ve.setCell ⟨W3.heap.size, 0, none⟩ (.slice (some ⟨g6, 0, none⟩) (n + 1) c6)) W2.heap.size (some ⟨g6, 0, none⟩) c6 (D' ++ [(⟨g1', c1', a2', c2', a3', c3', vs', L, KL, S⟩ : ChM)])) := HOD9.out.tc HT2.out (by rfl) (by rfl) (by rfl) (by rfl)
      have HJZ : Hid (OwnJ (Ve.setCell ⟨W3.heap.size, 0, none⟩ (.slice (some ⟨g6, 0, none⟩) (n + 1) c6)) W2.heap.size fA fC F) := ownsRow_tc HJe.out HT2.out (by rfl)
      clear HRr hBc HTe HCe HJe HT9 qwe HOD9 hVd HO1 HO2 HO3 HT2
      go_wp2
      exact ⟨⟨n + 1, some ⟨g6, 0, none⟩, c6, _, by omega, by first | rfl | (congr 1), HDL9, HSD9, HBO, HDZ, HJZ, qwf⟩, by simp only [intOf]; omega⟩
     ·go_simp
      refine Calls.mono (KS.out _ hBc) ?_
      rintro e Vc ⟨a3', c3', vs', rfl, ho3, qc⟩
      have HO3 : Hid (SetsO Vc W2.heap.size a3' c3' S vs') := ho3
      replace HO1 : Hid (OwnP Vc W2.heap.size (some ⟨g1', 0, none⟩) c1' L) := HO1.out.below qc
      replace HO2 : Hid (OwnI Vc W2.heap.size a2' c2' KL) := HO2.out.below qc
      replace hBc := bel_tr hBc qc
      clear ho3 qc
      refine hK.out _ _ (HC3.out.kept hBc) (fun hHeld => ?_)
      clear hK K
      try simp only [qpu]
      refine qtk (i := 11) (oi := lxa38o7) (v := (.agg #[.slice (some ⟨g1', 0, none⟩) l1 c1', .slice a2' l1 c2', .slice a3' l3 c3'])) hHeld ?_ ?_
      ·intro w9 hSw
       try dsimp only at hSw
       go_simp
      try simp only [qpu]
      refine wpAnyH_ready (rs := [1, 12]) (by kernel_rfl) (by simp) ?_
      refine AllReadyH.cons (o := lxa38o10) rfl (fun K hK => ?_) (AllReadyH.cons (o := lxa38o8) rfl (fun K hK => ?_) AllReadyH.nil)
      ·have hcc := (HT3.out.kept hBc).cell 0 _ rfl
       go_simp
       refine hK.out _ _ (HC3.out.kept hBc) (fun hHeld => ?_)
       clear hK K hcc
       try simp only [qpu]
       refine wpAnyH_ready (rs := [12]) (by kernel_rfl) (by simp) ?_
       refine AllReadyH.cons (o := lxa38o8) rfl (fun K hK => ?_) AllReadyH.nil
       obtain ⟨Vd, hVd⟩ : ∃ Vd, Vc.alloc (.cells #[.slice (some ⟨g1', 0, none⟩) l1 c1', .slice a2' l1 c2', .slice a3' l3 c3'] 63) = Vd := ⟨_, rfl⟩
       have qd := bel_nw hVd
       replace HO1 : Hid (OwnP Vd W2.heap.size (some ⟨g1', 0, none⟩) c1' L) := HO1.out.below qd
       replace HO2 : Hid (OwnI Vd W2.heap.size a2' c2' KL) := HO2.out.below qd
       replace HO3 : Hid (SetsO Vd W2.heap.size a3' c3' S vs') := HO3.out.below qd
       replace hBc := bel_tr hBc qd
       go_simp
       refine hK.out _ _ (HC3.out.kept hBc) (fun hHeld => ?_)
       clear hK K
       try simp only [qpu]
       refine wpAnyH_ready (rs := [13]) (by kernel_rfl) (by simp) ?_
       refine AllReadyH.cons (o := lxa38o4) rfl (fun K hK => ?_) AllReadyH.nil
       have hbd : Blk Vd Vc.heap.size 63 (ChM.v (⟨g1', c1', a2', c2', a3', c3', vs', L, KL, S⟩ : ChM)) := by
        have := blk_nw hVd
        show Blk Vd Vc.heap.size _ #[.slice (some ⟨g1', 0, none⟩) L.length c1', .slice a2' L.length c2', .slice a3' S.length c3']
        rw [HL.out.1, HL.out.2]
        exact this
       obtain ⟨g6, c6, Ve, hrun, hod, hT, hg, hb6⟩ := run_appD1 Vd 22 W2.heap.size dA dC D' (HD3.out.below hBc) (⟨g1', c1', a2', c2', a3', c3', vs', L, KL, S⟩ : ChM) (⟨HO1.out, HO2.out, HO3.out⟩ : CutIn Vd W2.heap.size _ _ _ _ _ _ _ _ _ _) Vc.heap.size 1 63 hbd (by rw [HDL.out]; omega) (qw3.trans (hBc.mono qw3.size)).size
       rw [HDL.out] at hrun
       have HRr : Hid _ := hrun
       have HOD9 : Hid (OwnD Ve W2.heap.size (some ⟨g6, 0, none⟩) c6 (D' ++ [(⟨g1', c1', a2', c2', a3', c3', vs', L, KL, S⟩ : ChM)])) := hod
       have HT9 : Hid (Tc (· == 63) Vd Ve) := hT
       have HTe : Hid (Blk Ve W3.heap.size 26 #[.slice dA n dC, .slice none 0 0, .slice fA fn fC]) := (HT3.out.kept hBc).tc hT (by rfl)
       have HCe : Hid (Blk Ve wr.heap.size 63 #[.slice (some ⟨g1, 0, none⟩) l1 y1, .slice x2 l1 y2, .slice x3 l3 y3]) := (HC3.out.kept hBc).grown hg HNE.out
       have HJe : Hid (OwnJ Ve W2.heap.size fA fC F) := ownsRow_tc (HJ3.out.below hBc) hT (by rfl)
       have qwe : Below W2.heap.size W2 Ve := (qw3.trans (hBc.mono qw3.size)).trans hb6
       clear hrun hod hg hT hbd hb6
       refine step_rn rfl 22 _ _ rfl _ _ rfl rfl _ _ HRr.out ?_
       refine hK.out _ _ HCe.out (fun hHeld => ?_)
       clear hK K
       try simp only [qpu]
       refine qtk (i := 14) (oi := lxa38o1) (v := (.pointer (some ⟨W3.heap.size, 0, none⟩))) hHeld ?_ ?_
       ·intro w9 hSw
        try dsimp only at hSw
        go_simp
       try simp only [qpu]
       refine wpAnyH_ready (rs := [15]) (by kernel_rfl) (by simp) ?_
       refine AllReadyH.cons (o := lxa38o0) rfl (fun K hK => ?_) AllReadyH.nil
       have fz := HTe.out.frozen 0
       have fc := HTe.out.cell 0 _ rfl
       have hBO := HTe.out.put 0 (.slice (some ⟨g6, 0, none⟩) (n + 1) c6)
       have HBO : Hid (Blk (Ve.setCell ⟨W3.heap.size, 0, none⟩ (.slice (some ⟨g6, 0, none⟩) (n + 1) c6)) W3.heap.size 26 #[.slice (some ⟨g6, 0, none⟩) (n + 1) c6, .slice none 0 0, .slice fA fn fC]) := hBO
       have hT2 : Tc (· == 26) Ve (Ve.setCell ⟨W3.heap.size, 0, none⟩ (.slice (some ⟨g6, 0, none⟩) (n + 1) c6)) := Tc.put HTe.out (by rfl) _ _
       have HT2 : Hid (Tc (· == 26) Ve (Ve.setCell ⟨W3.heap.size, 0, none⟩ (.slice (some ⟨g6, 0, none⟩) (n + 1) c6))) := hT2
       have qwf : Below W2.heap.size W2 (Ve.setCell ⟨W3.heap.size, 0, none⟩ (.slice (some ⟨g6, 0, none⟩) (n + 1) c6)) := qwe.setCell HLO.out _
       clear hBO hT2
       go_simp
       refine hK.out _ _ (Blk.put_other HCe.out HTe.out (Nat.ne_of_gt HNO.out) _ _) (fun hHeld => ?_)
       clear hK K fz fc
       try simp only [qpu]
       refine wpAnyH_done (by kernel_rfl) ?_ _
       refine NoPanic.normal ?_
       have HSD9 : Hid (SameD D (D' ++ [(⟨g1', c1', a2', c2', a3', c3', vs', L, KL, S⟩ : ChM)])) := HSD.out.snoc HDL.out HXN'.out HE.out
       have HDL9 : Hid ((D' ++ [(⟨g1', c1', a2', c2', a3', c3', vs', L, KL, S⟩ : ChM)]).length = n + 1) := (by rw [List.length_append, HDL.out]; rfl : (D' ++ [(⟨g1', c1', a2', c2', a3', c3', vs', L, KL, S⟩ : ChM)]).length = n + 1)
       have HDZ : Hid (OwnD (Ve.setCell ⟨W3.heap.size, 0, none⟩ (.slice (some ⟨g6, 0, none⟩) (n + 1) c6)) W2.heap.size (some ⟨g6, 0, none⟩) c6 (D' ++ [(⟨g1', c1', a2', c2', a3', c3', vs', L, KL, S⟩ : ChM)])) := HOD9.out.tc HT2.out (by rfl) (by rfl) (by rfl) (by rfl)
       have HJZ : Hid (OwnJ (Ve.setCell ⟨W3.heap.size, 0, none⟩ (.slice (some ⟨g6, 0, none⟩) (n + 1) c6)) W2.heap.size fA fC F) := ownsRow_tc HJe.out HT2.out (by rfl)
       clear HRr hBc HTe HCe HJe HT9 qwe HOD9 hVd HO1 HO2 HO3 HT2
       go_wp2
       exact ⟨⟨n + 1, some ⟨g6, 0, none⟩, c6, _, by omega, by first | rfl | (congr 1), HDL9, HSD9, HBO, HDZ, HJZ, qwf⟩, by simp only [intOf]; omega⟩
      ·obtain ⟨Vd, hVd⟩ : ∃ Vd, Vc.alloc (.cells #[.slice (some ⟨g1', 0, none⟩) l1 c1', .slice a2' l1 c2', .slice a3' l3 c3'] 63) = Vd := ⟨_, rfl⟩
       have qd := bel_nw hVd
       replace HO1 : Hid (OwnP Vd W2.heap.size (some ⟨g1', 0, none⟩) c1' L) := HO1.out.below qd
       replace HO2 : Hid (OwnI Vd W2.heap.size a2' c2' KL) := HO2.out.below qd
       replace HO3 : Hid (SetsO Vd W2.heap.size a3' c3' S vs') := HO3.out.below qd
       replace hBc := bel_tr hBc qd
       go_simp
       refine hK.out _ _ (HC3.out.kept hBc) (fun hHeld => ?_)
       clear hK K
       try simp only [qpu]
       refine wpAnyH_ready (rs := [1]) (by kernel_rfl) (by simp) ?_
       refine AllReadyH.cons (o := lxa38o10) rfl (fun K hK => ?_) AllReadyH.nil
       have hcc := (HT3.out.kept hBc).cell 0 _ rfl
       go_simp
       refine hK.out _ _ (HC3.out.kept hBc) (fun hHeld => ?_)
       clear hK K hcc
       try simp only [qpu]
       refine wpAnyH_ready (rs := [13]) (by kernel_rfl) (by simp) ?_
       refine AllReadyH.cons (o := lxa38o4) rfl (fun K hK => ?_) AllReadyH.nil
       have hbd : Blk Vd Vc.heap.size 63 (ChM.v (⟨g1', c1', a2', c2', a3', c3', vs', L, KL, S⟩ : ChM)) := by
        have := blk_nw hVd
        show Blk Vd Vc.heap.size _ #[.slice (some ⟨g1', 0, none⟩) L.length c1', .slice a2' L.length c2', .slice a3' S.length c3']
        rw [HL.out.1, HL.out.2]
        exact this
       obtain ⟨g6, c6, Ve, hrun, hod, hT, hg, hb6⟩ := run_appD1 Vd 22 W2.heap.size dA dC D' (HD3.out.below hBc) (⟨g1', c1', a2', c2', a3', c3', vs', L, KL, S⟩ : ChM) (⟨HO1.out, HO2.out, HO3.out⟩ : CutIn Vd W2.heap.size _ _ _ _ _ _ _ _ _ _) Vc.heap.size 1 63 hbd (by rw [HDL.out]; omega) (qw3.trans (hBc.mono qw3.size)).size
       rw [HDL.out] at hrun
       have HRr : Hid _ := hrun
       have HOD9 : Hid (OwnD Ve W2.heap.size (some ⟨g6, 0, none⟩) c6 (D' ++ [(⟨g1', c1', a2', c2', a3', c3', vs', L, KL, S⟩ : ChM)])) := hod
       have HT9 : Hid (Tc (· == 63) Vd Ve) := hT
       have HTe : Hid (Blk Ve W3.heap.size 26 #[.slice dA n dC, .slice none 0 0, .slice fA fn fC]) := (HT3.out.kept hBc).tc hT (by rfl)
       have HCe : Hid (Blk Ve wr.heap.size 63 #[.slice (some ⟨g1, 0, none⟩) l1 y1, .slice x2 l1 y2, .slice x3 l3 y3]) := (HC3.out.kept hBc).grown hg HNE.out
       have HJe : Hid (OwnJ Ve W2.heap.size fA fC F) := ownsRow_tc (HJ3.out.below hBc) hT (by rfl)
       have qwe : Below W2.heap.size W2 Ve := (qw3.trans (hBc.mono qw3.size)).trans hb6
       clear hrun hod hg hT hbd hb6
       refine step_rn rfl 22 _ _ rfl _ _ rfl rfl _ _ HRr.out ?_
       refine hK.out _ _ HCe.out (fun hHeld => ?_)
       clear hK K
       try simp only [qpu]
       refine qtk (i := 14) (oi := lxa38o1) (v := (.pointer (some ⟨W3.heap.size, 0, none⟩))) hHeld ?_ ?_
       ·intro w9 hSw
        try dsimp only at hSw
        go_simp
       try simp only [qpu]
       refine wpAnyH_ready (rs := [15]) (by kernel_rfl) (by simp) ?_
       refine AllReadyH.cons (o := lxa38o0) rfl (fun K hK => ?_) AllReadyH.nil
       have fz := HTe.out.frozen 0
       have fc := HTe.out.cell 0 _ rfl
       have hBO := HTe.out.put 0 (.slice (some ⟨g6, 0, none⟩) (n + 1) c6)
       have HBO : Hid (Blk (Ve.setCell ⟨W3.heap.size, 0, none⟩ (.slice (some ⟨g6, 0, none⟩) (n + 1) c6)) W3.heap.size 26 #[.slice (some ⟨g6, 0, none⟩) (n + 1) c6, .slice none 0 0, .slice fA fn fC]) := hBO
       have hT2 : Tc (· == 26) Ve (Ve.setCell ⟨W3.heap.size, 0, none⟩ (.slice (some ⟨g6, 0, none⟩) (n + 1) c6)) := Tc.put HTe.out (by rfl) _ _
       have HT2 : Hid (Tc (· == 26) Ve (Ve.setCell ⟨W3.heap.size, 0, none⟩ (.slice (some ⟨g6, 0, none⟩) (n + 1) c6))) := hT2
       have qwf : Below W2.heap.size W2 (Ve.setCell ⟨W3.heap.size, 0, none⟩ (.slice (some ⟨g6, 0, none⟩) (n + 1) c6)) := qwe.setCell HLO.out _
       clear hBO hT2
       go_simp
       refine hK.out _ _ (Blk.put_other HCe.out HTe.out (Nat.ne_of_gt HNO.out) _ _) (fun hHeld => ?_)
       clear hK K fz fc
       try simp only [qpu]
       refine wpAnyH_done (by kernel_rfl) ?_ _
       refine NoPanic.normal ?_
       have HSD9 : Hid (SameD D (D' ++ [(⟨g1', c1', a2', c2', a3', c3', vs', L, KL, S⟩ : ChM)])) := HSD.out.snoc HDL.out HXN'.out HE.out
       have HDL9 : Hid ((D' ++ [(⟨g1', c1', a2', c2', a3', c3', vs', L, KL, S⟩ : ChM)]).length = n + 1) := (by rw [List.length_append, HDL.out]; rfl : (D' ++ [(⟨g1', c1', a2', c2', a3', c3', vs', L, KL, S⟩ : ChM)]).length = n + 1)
       have HDZ : Hid (OwnD (Ve.setCell ⟨W3.heap.size, 0, none⟩ (.slice (some ⟨g6, 0, none⟩) (n + 1) c6)) W2.heap.size (some ⟨g6, 0, none⟩) c6 (D' ++ [(⟨g1', c1', a2', c2', a3', c3', vs', L, KL, S⟩ : ChM)])) := HOD9.out.tc HT2.out (by rfl) (by rfl) (by rfl) (by rfl)
       have HJZ : Hid (OwnJ (Ve.setCell ⟨W3.heap.size, 0, none⟩ (.slice (some ⟨g6, 0, none⟩) (n + 1) c6)) W2.heap.size fA fC F) := ownsRow_tc HJe.out HT2.out (by rfl)
       clear HRr hBc HTe HCe HJe HT9 qwe HOD9 hVd HO1 HO2 HO3 HT2
       go_wp2
       exact ⟨⟨n + 1, some ⟨g6, 0, none⟩, c6, _, by omega, by first | rfl | (congr 1), HDL9, HSD9, HBO, HDZ, HJZ, qwf⟩, by simp only [intOf]; omega⟩

  ·have hn7 : n = 7 := by omega
   subst hn7
   have d1 := (HB2.out.kept qw).cell 1 _ rfl
   rw [show ((7 : Nat) : Int) = 7 from rfl]
   clear hlt bw HS1 HRD HOD
   go_wp2_with fail
   clear d1
   go_loopw [38] (fun i wr => ∃ (n : Nat) (xA : Option Addr) (xC : Nat) (X' : List CrM), n ≤ 6 ∧ i = .int .i64 n ∧ Hid (X'.length = n) ∧ Hid (SameX X X') ∧ Hid (Blk wr W3.heap.size 26 #[.slice dA 7 dC, .slice xA n xC, .slice fA fn fC]) ∧ Hid (OwnD wr W2.heap.size dA dC D') ∧ Hid (OwnX wr W2.heap.size xA xC X') ∧ Hid (OwnJ wr W2.heap.size fA fC F) ∧ Below W2.heap.size W2 wr) (fun i _ => 6 - (intOf i).toNat)
   case atStart => exact ⟨0, none, 0, [], by omega, rfl, rfl, fun j x hx => by simp at hx, HO, HOD', OwnX.nil _ _, HJ, qw⟩
   case round =>
    clear HO HOD' HJ qw
    obtain ⟨n, xA, xC, X', hn, rfl, HXL, HSX, HO, HOD', HOX', HJ, qw⟩ := hrel
    have bw := bel_tr b2 qw
    by_cases hlt : n < 6
    ·have ik : (n : Int) < 6 := by omega
     have in0 : (0 : Int) ≤ (n : Int) := by omega
     have hw1 : IntKind.i64.wrap ((n : Int) + 1) = ((n + 1 : Nat) : Int) := by simp [IntKind.wrap, IntKind.bits, IntKind.signed]; omega
     obtain ⟨x, hx⟩ : ∃ x, X[n]? = some x := ⟨_, List.getElem?_eq_getElem (by rw [HXN.out]; exact hlt)⟩
     have HXN' : Hid (X[n]? = some x) := hx
     have hxr : (X.map CrM.r)[n]? = some x.r := by rw [List.getElem?_map, hx]; rfl
     obtain ⟨b, off, ha, hc⟩ := (HRX.out.low bw).cells n _ hxr
     have hs1 := info_crR x.r
     have hxm := List.mem_of_getElem? hx
     obtain ⟨z1, z2, z3⟩ := HS2.out x hxm
     have hvr : x.r.v = #[.int .i64 (x.wd : Int), .slice x.ka x.K.length x.kc, .slice x.sa x.S.length x.sc] := by
      show #[Value.int .i64 (x.wd : Int), Value.slice x.ka (ints x.K).length x.kc, Value.slice x.sa (x.S.map ints).length x.sc] = _
      rw [List.length_map, List.length_map]
     rw [hvr] at hc hs1
     have hown := HOX.out.each x hxm
     obtain ⟨V3, hV3⟩ : ∃ V3, wr.alloc (.cells #[.int .i64 (x.wd : Int), .slice x.ka x.K.length x.kc, .slice x.sa x.S.length x.sc] 60) = V3 := ⟨_, rfl⟩
     have q3 := bel_nw hV3
     have qw3 := bel_tr qw q3
     have bw3 := bel_tr b2 qw3
     have KI2 : Hid (∀ W, Below V3.heap.size V3 W → Calls Tryz.prog 77 #[.slice x.ka x.K.length x.kc] W fun e w' => ∃ a c, e = .returned (.slice a x.K.length c) ∧ OwnI w' W2.heap.size a c x.K ∧ Below W.heap.size W w') := fun W hb => by
      refine (KI.out x.ka x.kc x.K W ((hown.i.below bw3).below hb) (by omega)).mono ?_
      rintro e w' ⟨g, c, h1, h2, h3⟩
      exact ⟨g, c, h1, ownsRow_base h2 (Nat.le_trans qw3.size hb.size), h3⟩
     have KS : Hid (∀ W, Below V3.heap.size V3 W → Calls Tryz.prog 79 #[.slice x.sa x.S.length x.sc] W fun e w' => ∃ a c vs, e = .returned (.slice a x.S.length c) ∧ SetsO w' W2.heap.size a c x.S vs ∧ Below W.heap.size W w') := fun W hb => by
      refine (copySets_lk x.sa x.sc x.S x.vs B0 W ((hown.s.below bw3).below hb) (by omega) (fun s hs => by have := z3 s hs; omega)).mono ?_
      rintro e w' ⟨g, c, vs, h1, h2, h3⟩
      exact ⟨g, c, vs, h1, h2.base (Nat.le_trans qw3.size hb.size), h3⟩
     have HC3 : Hid (Blk V3 wr.heap.size 60 #[.int .i64 (x.wd : Int), .slice x.ka x.K.length x.kc, .slice x.sa x.S.length x.sc]) := blk_nw hV3
     have HT3 : Hid (Blk V3 W3.heap.size 26 #[.slice dA 7 dC, .slice xA n xC, .slice fA fn fC]) := HO.out.kept q3
     have HD3 : Hid (OwnD V3 W2.heap.size dA dC D') := HOD'.out.below q3
     have HX3 : Hid (OwnX V3 W2.heap.size xA xC X') := HOX'.out.below q3
     have HJ3 : Hid (OwnJ V3 W2.heap.size fA fC F) := HJ.out.below q3
     have HNE : Hid (xA.map (·.block) ≠ some wr.heap.size) := fun e => by
      have := own_block_lt HOX'.out.row _ e
      omega
     have HNO : Hid (W3.heap.size < wr.heap.size) := HO.out.lt
     obtain ⟨wd, hwd⟩ : ∃ wd, x.wd = wd := ⟨_, rfl⟩
     obtain ⟨KL, hKL⟩ : ∃ KL, x.K = KL := ⟨_, rfl⟩
     obtain ⟨S, hS⟩ : ∃ S, x.S = S := ⟨_, rfl⟩
     have HE : Hid (wd = x.wd ∧ KL = x.K ∧ S = x.S) := ⟨hwd.symm, hKL.symm, hS.symm⟩
     rw [hwd] at HC3 hV3 hc hs1
     rw [hKL] at KI2 HC3 hV3 hc hs1
     rw [hS] at KS HC3 hV3 hc hs1
     generalize x.ka = x2 at KI2 HC3 hV3 hc hs1
     generalize x.kc = y2 at KI2 HC3 hV3 hc hs1
     generalize x.sa = x3 at KS HC3 hV3 hc hs1
     generalize x.sc = y3 at KS HC3 hV3 hc hs1
     obtain ⟨l1, hl1⟩ : ∃ l1, KL.length = l1 := ⟨_, rfl⟩
     obtain ⟨l3, hl3⟩ : ∃ l3, S.length = l3 := ⟨_, rfl⟩
     have HL : Hid (KL.length = l1 ∧ S.length = l3) := ⟨hl1, hl3⟩
     rw [hl1] at KI2 HC3 hV3 hc hs1
     rw [hl3] at KS HC3 hV3 hc hs1
     subst ha
     clear hx hxr hxm z1 z2 z3 hvr hown hwd hKL hS hl1 hl3 qw bw HO HOD' HOX' HJ
     go_wp2_with (first
      | (refine wpList_load_at rfl _ _ rfl b (off + n * 3) (by rfl) _ hc Tryz.underlying60 hs1 ?_))
     clear hc
     have hBc := below_drew V3
     refine wp_region_noPanic ?_
     refine wp_region_held_drew (S := fun w'' => Blk w'' wr.heap.size 60 #[.int .i64 (wd : Int), .slice x2 l1 y2, .slice x3 l3 y3]) (by kernel_rfl) (HC3.out.kept hBc) (fun hHeld => ?_)
     refine qtk (i := 0) (oi := { dst := some 42, op := Op.fieldAddr 26 (.tmp 3) 1, type := 0, pos := "holder.go:47", after := #[], guard := none }) (v := (.pointer (some ⟨W3.heap.size, 1, none⟩))) hHeld ?_ ?_
     ·intro w9 hSw
      try dsimp only at hSw
      go_simp
     try simp only [qpu]
     refine qtk (i := 2) (oi := { dst := some 44, op := Op.fieldAddr 60 (.tmp 7) 0, type := 0, pos := "holder.go:47", after := #[], guard := none }) (v := (.pointer (some ⟨wr.heap.size, 0, none⟩))) hHeld ?_ ?_
     ·intro w9 hSw
      try dsimp only at hSw
      go_simp
     try simp only [qpu]
     refine qtk (i := 3) (oi := { dst := some 45, op := Op.load 3 (.tmp 44), type := 3, pos := "holder.go:47", after := #[{ on := 2, ground := Ground.data }], guard := none }) (v := (.int .i64 (wd : Int))) hHeld ?_ ?_
     ·intro w9 hSw
      try dsimp only at hSw
      have hcc := hSw.cell 0 _ rfl
      go_simp
     try simp only [qpu]
     refine qtk (i := 4) (oi := { dst := some 46, op := Op.fieldAddr 60 (.tmp 7) 1, type := 0, pos := "holder.go:47", after := #[], guard := none }) (v := (.pointer (some ⟨wr.heap.size, 1, none⟩))) hHeld ?_ ?_
     ·intro w9 hSw
      try dsimp only at hSw
      go_simp
     try simp only [qpu]
     refine qtk (i := 5) (oi := { dst := some 47, op := Op.load 24 (.tmp 46), type := 24, pos := "holder.go:47", after := #[{ on := 4, ground := Ground.data }], guard := none }) (v := (.slice x2 l1 y2)) hHeld ?_ ?_
     ·intro w9 hSw
      try dsimp only at hSw
      have hcc := hSw.cell 1 _ rfl
      go_simp
     try simp only [qpu]
     refine qtk (i := 7) (oi := { dst := some 49, op := Op.fieldAddr 60 (.tmp 7) 2, type := 0, pos := "holder.go:47", after := #[], guard := none }) (v := (.pointer (some ⟨wr.heap.size, 2, none⟩))) hHeld ?_ ?_
     ·intro w9 hSw
      try dsimp only at hSw
      go_simp
     try simp only [qpu]
     refine qtk (i := 8) (oi := { dst := some 50, op := Op.load 58 (.tmp 49), type := 58, pos := "holder.go:47", after := #[{ on := 7, ground := Ground.data }], guard := none }) (v := (.slice x3 l3 y3)) hHeld ?_ ?_
     ·intro w9 hSw
      try dsimp only at hSw
      have hcc := hSw.cell 2 _ rfl
      go_simp
     try simp only [qpu]
     refine wpAnyH_ready (rs := [1, 6]) (by kernel_rfl) (by simp) ?_
     refine AllReadyH.cons (o := lxa38o14) rfl (fun K hK => ?_) (AllReadyH.cons (o := lxa38o16) rfl (fun K hK => ?_) AllReadyH.nil)
     ·have hcc := (HT3.out.kept hBc).cell 1 _ rfl
      go_simp
      refine hK.out _ _ (HC3.out.kept hBc) (fun hHeld => ?_)
      clear hK K hcc
      try simp only [qpu]
      refine wpAnyH_ready (rs := [6]) (by kernel_rfl) (by simp) ?_
      refine AllReadyH.cons (o := lxa38o16) rfl (fun K hK => ?_) AllReadyH.nil
      go_simp
      refine Calls.mono (KI2.out _ hBc) ?_
      rintro e Vb ⟨a2', c2', rfl, ho2, qb⟩
      have HO2 : Hid (OwnI Vb W2.heap.size a2' c2' KL) := ho2
      replace hBc := bel_tr hBc qb
      clear ho2 qb
      refine hK.out _ _ (HC3.out.kept hBc) (fun hHeld => ?_)
      clear hK K
      try simp only [qpu]
      refine wpAnyH_ready (rs := [9]) (by kernel_rfl) (by simp) ?_
      refine AllReadyH.cons (o := lxa38o11) rfl (fun K hK => ?_) AllReadyH.nil
      go_simp
      refine Calls.mono (KS.out _ hBc) ?_
      rintro e Vc ⟨a3', c3', vs', rfl, ho3, qc⟩
      have HO3 : Hid (SetsO Vc W2.heap.size a3' c3' S vs') := ho3
      replace HO2 : Hid (OwnI Vc W2.heap.size a2' c2' KL) := HO2.out.below qc
      replace hBc := bel_tr hBc qc
      clear ho3 qc
      refine hK.out _ _ (HC3.out.kept hBc) (fun hHeld => ?_)
      clear hK K
      try simp only [qpu]
      refine qtk (i := 10) (oi := lxa38o12) (v := (.agg #[.int .i64 (wd : Int), .slice a2' l1 c2', .slice a3' l3 c3'])) hHeld ?_ ?_
      ·intro w9 hSw
       try dsimp only at hSw
       go_simp
      try simp only [qpu]
      refine wpAnyH_ready (rs := [11]) (by kernel_rfl) (by simp) ?_
      refine AllReadyH.cons (o := lxa38o13) rfl (fun K hK => ?_) AllReadyH.nil
      obtain ⟨Vd, hVd⟩ : ∃ Vd, Vc.alloc (.cells #[.int .i64 (wd : Int), .slice a2' l1 c2', .slice a3' l3 c3'] 60) = Vd := ⟨_, rfl⟩
      have qd := bel_nw hVd
      replace HO2 : Hid (OwnI Vd W2.heap.size a2' c2' KL) := HO2.out.below qd
      replace HO3 : Hid (SetsO Vd W2.heap.size a3' c3' S vs') := HO3.out.below qd
      replace hBc := bel_tr hBc qd
      go_simp
      refine hK.out _ _ (HC3.out.kept hBc) (fun hHeld => ?_)
      clear hK K
      try simp only [qpu]
      refine wpAnyH_ready (rs := [12]) (by kernel_rfl) (by simp) ?_
      refine AllReadyH.cons (o := lxa38o5) rfl (fun K hK => ?_) AllReadyH.nil
      have hbd : Blk Vd Vc.heap.size 60 (CrM.v (⟨wd, a2', c2', a3', c3', vs', KL, S⟩ : CrM)) := by
       have := blk_nw hVd
       show Blk Vd Vc.heap.size _ #[.int .i64 (wd : Int), .slice a2' KL.length c2', .slice a3' S.length c3']
       rw [HL.out.1, HL.out.2]
       exact this
      obtain ⟨g6, c6, Ve, hrun, hod, hT, hg, hb6⟩ := run_appX1 Vd 23 W2.heap.size xA xC X' (HX3.out.below hBc) (⟨wd, a2', c2', a3', c3', vs', KL, S⟩ : CrM) ⟨HO2.out, HO3.out⟩ Vc.heap.size 1 60 hbd (by rw [HXL.out]; omega) (qw3.trans (hBc.mono qw3.size)).size
      rw [HXL.out] at hrun
      have HRr : Hid _ := hrun
      have HOD9 : Hid (OwnX Ve W2.heap.size (some ⟨g6, 0, none⟩) c6 (X' ++ [(⟨wd, a2', c2', a3', c3', vs', KL, S⟩ : CrM)])) := hod
      have HT9 : Hid (Tc (· == 60) Vd Ve) := hT
      have HTe : Hid (Blk Ve W3.heap.size 26 #[.slice dA 7 dC, .slice xA n xC, .slice fA fn fC]) := (HT3.out.kept hBc).tc hT (by rfl)
      have HCe : Hid (Blk Ve wr.heap.size 60 #[.int .i64 (wd : Int), .slice x2 l1 y2, .slice x3 l3 y3]) := (HC3.out.kept hBc).grown hg HNE.out
      have HJe : Hid (OwnJ Ve W2.heap.size fA fC F) := ownsRow_tc (HJ3.out.below hBc) hT (by rfl)
      have HDe : Hid (OwnD Ve W2.heap.size dA dC D') := (HD3.out.below hBc).tc hT (by rfl) (by rfl) (by rfl) (by rfl)
      have qwe : Below W2.heap.size W2 Ve := (qw3.trans (hBc.mono qw3.size)).trans hb6
      clear hrun hod hg hT hbd hb6
      refine step_rn rfl 23 _ _ rfl _ _ rfl rfl _ _ HRr.out ?_
      refine hK.out _ _ HCe.out (fun hHeld => ?_)
      clear hK K
      try simp only [qpu]
      refine qtk (i := 13) (oi := lxa38o3) (v := (.pointer (some ⟨W3.heap.size, 1, none⟩))) hHeld ?_ ?_
      ·intro w9 hSw
       try dsimp only at hSw
       go_simp
      try simp only [qpu]
      refine wpAnyH_ready (rs := [14]) (by kernel_rfl) (by simp) ?_
      refine AllReadyH.cons (o := lxa38o2) rfl (fun K hK => ?_) AllReadyH.nil
      have fz := HTe.out.frozen 1
      have fc := HTe.out.cell 1 _ rfl
      have hBO := HTe.out.put 1 (.slice (some ⟨g6, 0, none⟩) (n + 1) c6)
      have HBO : Hid (Blk (Ve.setCell ⟨W3.heap.size, 1, none⟩ (.slice (some ⟨g6, 0, none⟩) (n + 1) c6)) W3.heap.size 26 #[.slice dA 7 dC, .slice (some ⟨g6, 0, none⟩) (n + 1) c6, .slice fA fn fC]) := hBO
      have hT2 : Tc (· == 26) Ve (Ve.setCell ⟨W3.heap.size, 1, none⟩ (.slice (some ⟨g6, 0, none⟩) (n + 1) c6)) := Tc.put HTe.out (by rfl) _ _
      have HT2 : Hid (Tc (· == 26) Ve (Ve.setCell ⟨W3.heap.size, 1, none⟩ (.slice (some ⟨g6, 0, none⟩) (n + 1) c6))) := hT2
      have qwf : Below W2.heap.size W2 (Ve.setCell ⟨W3.heap.size, 1, none⟩ (.slice (some ⟨g6, 0, none⟩) (n + 1) c6)) := qwe.setCell HLO.out _
      clear hBO hT2
      go_simp
      refine hK.out _ _ (Blk.put_other HCe.out HTe.out (Nat.ne_of_gt HNO.out) _ _) (fun hHeld => ?_)
      clear hK K fz fc
      try simp only [qpu]
      refine wpAnyH_done (by kernel_rfl) ?_ _
      refine NoPanic.normal ?_
      have HSX9 : Hid (SameX X (X' ++ [(⟨wd, a2', c2', a3', c3', vs', KL, S⟩ : CrM)])) := HSX.out.snoc HXL.out HXN'.out HE.out
      have HXL9 : Hid ((X' ++ [(⟨wd, a2', c2', a3', c3', vs', KL, S⟩ : CrM)]).length = n + 1) := (by rw [List.length_append, HXL.out]; rfl : (X' ++ [(⟨wd, a2', c2', a3', c3', vs', KL, S⟩ : CrM)]).length = n + 1)
      have HXZ : Hid (OwnX (Ve.setCell ⟨W3.heap.size, 1, none⟩ (.slice (some ⟨g6, 0, none⟩) (n + 1) c6)) W2.heap.size (some ⟨g6, 0, none⟩) c6 (X' ++ [(⟨wd, a2', c2', a3', c3', vs', KL, S⟩ : CrM)])) := HOD9.out.tc HT2.out (by rfl) (by rfl) (by rfl)
      have HDZ : Hid (OwnD (Ve.setCell ⟨W3.heap.size, 1, none⟩ (.slice (some ⟨g6, 0, none⟩) (n + 1) c6)) W2.heap.size dA dC D') := HDe.out.tc HT2.out (by rfl) (by rfl) (by rfl) (by rfl)
      have HJZ : Hid (OwnJ (Ve.setCell ⟨W3.heap.size, 1, none⟩ (.slice (some ⟨g6, 0, none⟩) (n + 1) c6)) W2.heap.size fA fC F) := ownsRow_tc HJe.out HT2.out (by rfl)
      clear HRr hBc HTe HCe HJe HT9 qwe HOD9 hVd HO2 HO3 HT2 HDe
      go_wp2
      exact ⟨⟨n + 1, some ⟨g6, 0, none⟩, c6, _, by omega, by first | rfl | (congr 1), HXL9, HSX9, HBO, HDZ, HXZ, HJZ, qwf⟩, by simp only [intOf]; omega⟩
     ·go_simp
      refine Calls.mono (KI2.out _ hBc) ?_
      rintro e Vb ⟨a2', c2', rfl, ho2, qb⟩
      have HO2 : Hid (OwnI Vb W2.heap.size a2' c2' KL) := ho2
      replace hBc := bel_tr hBc qb
      clear ho2 qb
      refine hK.out _ _ (HC3.out.kept hBc) (fun hHeld => ?_)
      clear hK K
      try simp only [qpu]
      refine wpAnyH_ready (rs := [1, 9]) (by kernel_rfl) (by simp) ?_
      refine AllReadyH.cons (o := lxa38o14) rfl (fun K hK => ?_) (AllReadyH.cons (o := lxa38o11) rfl (fun K hK => ?_) AllReadyH.nil)
      ·have hcc := (HT3.out.kept hBc).cell 1 _ rfl
       go_simp
       refine hK.out _ _ (HC3.out.kept hBc) (fun hHeld => ?_)
       clear hK K hcc
       try simp only [qpu]
       refine wpAnyH_ready (rs := [9]) (by kernel_rfl) (by simp) ?_
       refine AllReadyH.cons (o := lxa38o11) rfl (fun K hK => ?_) AllReadyH.nil
       go_simp
       refine Calls.mono (KS.out _ hBc) ?_
       rintro e Vc ⟨a3', c3', vs', rfl, ho3, qc⟩
       have HO3 : Hid (SetsO Vc W2.heap.size a3' c3' S vs') := ho3
       replace HO2 : Hid (OwnI Vc W2.heap.size a2' c2' KL) := HO2.out.below qc
       replace hBc := bel_tr hBc qc
       clear ho3 qc
       refine hK.out _ _ (HC3.out.kept hBc) (fun hHeld => ?_)
       clear hK K
       try simp only [qpu]
       refine qtk (i := 10) (oi := lxa38o12) (v := (.agg #[.int .i64 (wd : Int), .slice a2' l1 c2', .slice a3' l3 c3'])) hHeld ?_ ?_
       ·intro w9 hSw
        try dsimp only at hSw
        go_simp
       try simp only [qpu]
       refine wpAnyH_ready (rs := [11]) (by kernel_rfl) (by simp) ?_
       refine AllReadyH.cons (o := lxa38o13) rfl (fun K hK => ?_) AllReadyH.nil
       obtain ⟨Vd, hVd⟩ : ∃ Vd, Vc.alloc (.cells #[.int .i64 (wd : Int), .slice a2' l1 c2', .slice a3' l3 c3'] 60) = Vd := ⟨_, rfl⟩
       have qd := bel_nw hVd
       replace HO2 : Hid (OwnI Vd W2.heap.size a2' c2' KL) := HO2.out.below qd
       replace HO3 : Hid (SetsO Vd W2.heap.size a3' c3' S vs') := HO3.out.below qd
       replace hBc := bel_tr hBc qd
       go_simp
       refine hK.out _ _ (HC3.out.kept hBc) (fun hHeld => ?_)
       clear hK K
       try simp only [qpu]
       refine wpAnyH_ready (rs := [12]) (by kernel_rfl) (by simp) ?_
       refine AllReadyH.cons (o := lxa38o5) rfl (fun K hK => ?_) AllReadyH.nil
       have hbd : Blk Vd Vc.heap.size 60 (CrM.v (⟨wd, a2', c2', a3', c3', vs', KL, S⟩ : CrM)) := by
        have := blk_nw hVd
        show Blk Vd Vc.heap.size _ #[.int .i64 (wd : Int), .slice a2' KL.length c2', .slice a3' S.length c3']
        rw [HL.out.1, HL.out.2]
        exact this
       obtain ⟨g6, c6, Ve, hrun, hod, hT, hg, hb6⟩ := run_appX1 Vd 23 W2.heap.size xA xC X' (HX3.out.below hBc) (⟨wd, a2', c2', a3', c3', vs', KL, S⟩ : CrM) ⟨HO2.out, HO3.out⟩ Vc.heap.size 1 60 hbd (by rw [HXL.out]; omega) (qw3.trans (hBc.mono qw3.size)).size
       rw [HXL.out] at hrun
       have HRr : Hid _ := hrun
       have HOD9 : Hid (OwnX Ve W2.heap.size (some ⟨g6, 0, none⟩) c6 (X' ++ [(⟨wd, a2', c2', a3', c3', vs', KL, S⟩ : CrM)])) := hod
       have HT9 : Hid (Tc (· == 60) Vd Ve) := hT
       have HTe : Hid (Blk Ve W3.heap.size 26 #[.slice dA 7 dC, .slice xA n xC, .slice fA fn fC]) := (HT3.out.kept hBc).tc hT (by rfl)
       have HCe : Hid (Blk Ve wr.heap.size 60 #[.int .i64 (wd : Int), .slice x2 l1 y2, .slice x3 l3 y3]) := (HC3.out.kept hBc).grown hg HNE.out
       have HJe : Hid (OwnJ Ve W2.heap.size fA fC F) := ownsRow_tc (HJ3.out.below hBc) hT (by rfl)
       have HDe : Hid (OwnD Ve W2.heap.size dA dC D') := (HD3.out.below hBc).tc hT (by rfl) (by rfl) (by rfl) (by rfl)
       have qwe : Below W2.heap.size W2 Ve := (qw3.trans (hBc.mono qw3.size)).trans hb6
       clear hrun hod hg hT hbd hb6
       refine step_rn rfl 23 _ _ rfl _ _ rfl rfl _ _ HRr.out ?_
       refine hK.out _ _ HCe.out (fun hHeld => ?_)
       clear hK K
       try simp only [qpu]
       refine qtk (i := 13) (oi := lxa38o3) (v := (.pointer (some ⟨W3.heap.size, 1, none⟩))) hHeld ?_ ?_
       ·intro w9 hSw
        try dsimp only at hSw
        go_simp
       try simp only [qpu]
       refine wpAnyH_ready (rs := [14]) (by kernel_rfl) (by simp) ?_
       refine AllReadyH.cons (o := lxa38o2) rfl (fun K hK => ?_) AllReadyH.nil
       have fz := HTe.out.frozen 1
       have fc := HTe.out.cell 1 _ rfl
       have hBO := HTe.out.put 1 (.slice (some ⟨g6, 0, none⟩) (n + 1) c6)
       have HBO : Hid (Blk (Ve.setCell ⟨W3.heap.size, 1, none⟩ (.slice (some ⟨g6, 0, none⟩) (n + 1) c6)) W3.heap.size 26 #[.slice dA 7 dC, .slice (some ⟨g6, 0, none⟩) (n + 1) c6, .slice fA fn fC]) := hBO
       have hT2 : Tc (· == 26) Ve (Ve.setCell ⟨W3.heap.size, 1, none⟩ (.slice (some ⟨g6, 0, none⟩) (n + 1) c6)) := Tc.put HTe.out (by rfl) _ _
       have HT2 : Hid (Tc (· == 26) Ve (Ve.setCell ⟨W3.heap.size, 1, none⟩ (.slice (some ⟨g6, 0, none⟩) (n + 1) c6))) := hT2
       have qwf : Below W2.heap.size W2 (Ve.setCell ⟨W3.heap.size, 1, none⟩ (.slice (some ⟨g6, 0, none⟩) (n + 1) c6)) := qwe.setCell HLO.out _
       clear hBO hT2
       go_simp
       refine hK.out _ _ (Blk.put_other HCe.out HTe.out (Nat.ne_of_gt HNO.out) _ _) (fun hHeld => ?_)
       clear hK K fz fc
       try simp only [qpu]
       refine wpAnyH_done (by kernel_rfl) ?_ _
       refine NoPanic.normal ?_
       have HSX9 : Hid (SameX X (X' ++ [(⟨wd, a2', c2', a3', c3', vs', KL, S⟩ : CrM)])) := HSX.out.snoc HXL.out HXN'.out HE.out
       have HXL9 : Hid ((X' ++ [(⟨wd, a2', c2', a3', c3', vs', KL, S⟩ : CrM)]).length = n + 1) := (by rw [List.length_append, HXL.out]; rfl : (X' ++ [(⟨wd, a2', c2', a3', c3', vs', KL, S⟩ : CrM)]).length = n + 1)
       have HXZ : Hid (OwnX (Ve.setCell ⟨W3.heap.size, 1, none⟩ (.slice (some ⟨g6, 0, none⟩) (n + 1) c6)) W2.heap.size (some ⟨g6, 0, none⟩) c6 (X' ++ [(⟨wd, a2', c2', a3', c3', vs', KL, S⟩ : CrM)])) := HOD9.out.tc HT2.out (by rfl) (by rfl) (by rfl)
       have HDZ : Hid (OwnD (Ve.setCell ⟨W3.heap.size, 1, none⟩ (.slice (some ⟨g6, 0, none⟩) (n + 1) c6)) W2.heap.size dA dC D') := HDe.out.tc HT2.out (by rfl) (by rfl) (by rfl) (by rfl)
       have HJZ : Hid (OwnJ (Ve.setCell ⟨W3.heap.size, 1, none⟩ (.slice (some ⟨g6, 0, none⟩) (n + 1) c6)) W2.heap.size fA fC F) := ownsRow_tc HJe.out HT2.out (by rfl)
       clear HRr hBc HTe HCe HJe HT9 qwe HOD9 hVd HO2 HO3 HT2 HDe
       go_wp2
       exact ⟨⟨n + 1, some ⟨g6, 0, none⟩, c6, _, by omega, by first | rfl | (congr 1), HXL9, HSX9, HBO, HDZ, HXZ, HJZ, qwf⟩, by simp only [intOf]; omega⟩
      ·go_simp
       refine Calls.mono (KS.out _ hBc) ?_
       rintro e Vc ⟨a3', c3', vs', rfl, ho3, qc⟩
       have HO3 : Hid (SetsO Vc W2.heap.size a3' c3' S vs') := ho3
       replace HO2 : Hid (OwnI Vc W2.heap.size a2' c2' KL) := HO2.out.below qc
       replace hBc := bel_tr hBc qc
       clear ho3 qc
       refine hK.out _ _ (HC3.out.kept hBc) (fun hHeld => ?_)
       clear hK K
       try simp only [qpu]
       refine qtk (i := 10) (oi := lxa38o12) (v := (.agg #[.int .i64 (wd : Int), .slice a2' l1 c2', .slice a3' l3 c3'])) hHeld ?_ ?_
       ·intro w9 hSw
        try dsimp only at hSw
        go_simp
       try simp only [qpu]
       refine wpAnyH_ready (rs := [1, 11]) (by kernel_rfl) (by simp) ?_
       refine AllReadyH.cons (o := lxa38o14) rfl (fun K hK => ?_) (AllReadyH.cons (o := lxa38o13) rfl (fun K hK => ?_) AllReadyH.nil)
       ·have hcc := (HT3.out.kept hBc).cell 1 _ rfl
        go_simp
        refine hK.out _ _ (HC3.out.kept hBc) (fun hHeld => ?_)
        clear hK K hcc
        try simp only [qpu]
        refine wpAnyH_ready (rs := [11]) (by kernel_rfl) (by simp) ?_
        refine AllReadyH.cons (o := lxa38o13) rfl (fun K hK => ?_) AllReadyH.nil
        obtain ⟨Vd, hVd⟩ : ∃ Vd, Vc.alloc (.cells #[.int .i64 (wd : Int), .slice a2' l1 c2', .slice a3' l3 c3'] 60) = Vd := ⟨_, rfl⟩
        have qd := bel_nw hVd
        replace HO2 : Hid (OwnI Vd W2.heap.size a2' c2' KL) := HO2.out.below qd
        replace HO3 : Hid (SetsO Vd W2.heap.size a3' c3' S vs') := HO3.out.below qd
        replace hBc := bel_tr hBc qd
        go_simp
        refine hK.out _ _ (HC3.out.kept hBc) (fun hHeld => ?_)
        clear hK K
        try simp only [qpu]
        refine wpAnyH_ready (rs := [12]) (by kernel_rfl) (by simp) ?_
        refine AllReadyH.cons (o := lxa38o5) rfl (fun K hK => ?_) AllReadyH.nil
        have hbd : Blk Vd Vc.heap.size 60 (CrM.v (⟨wd, a2', c2', a3', c3', vs', KL, S⟩ : CrM)) := by
         have := blk_nw hVd
         show Blk Vd Vc.heap.size _ #[.int .i64 (wd : Int), .slice a2' KL.length c2', .slice a3' S.length c3']
         rw [HL.out.1, HL.out.2]
         exact this
        obtain ⟨g6, c6, Ve, hrun, hod, hT, hg, hb6⟩ := run_appX1 Vd 23 W2.heap.size xA xC X' (HX3.out.below hBc) (⟨wd, a2', c2', a3', c3', vs', KL, S⟩ : CrM) ⟨HO2.out, HO3.out⟩ Vc.heap.size 1 60 hbd (by rw [HXL.out]; omega) (qw3.trans (hBc.mono qw3.size)).size
        rw [HXL.out] at hrun
        have HRr : Hid _ := hrun
        have HOD9 : Hid (OwnX Ve W2.heap.size (some ⟨g6, 0, none⟩) c6 (X' ++ [(⟨wd, a2', c2', a3', c3', vs', KL, S⟩ : CrM)])) := hod
        have HT9 : Hid (Tc (· == 60) Vd Ve) := hT
        have HTe : Hid (Blk Ve W3.heap.size 26 #[.slice dA 7 dC, .slice xA n xC, .slice fA fn fC]) := (HT3.out.kept hBc).tc hT (by rfl)
        have HCe : Hid (Blk Ve wr.heap.size 60 #[.int .i64 (wd : Int), .slice x2 l1 y2, .slice x3 l3 y3]) := (HC3.out.kept hBc).grown hg HNE.out
        have HJe : Hid (OwnJ Ve W2.heap.size fA fC F) := ownsRow_tc (HJ3.out.below hBc) hT (by rfl)
        have HDe : Hid (OwnD Ve W2.heap.size dA dC D') := (HD3.out.below hBc).tc hT (by rfl) (by rfl) (by rfl) (by rfl)
        have qwe : Below W2.heap.size W2 Ve := (qw3.trans (hBc.mono qw3.size)).trans hb6
        clear hrun hod hg hT hbd hb6
        refine step_rn rfl 23 _ _ rfl _ _ rfl rfl _ _ HRr.out ?_
        refine hK.out _ _ HCe.out (fun hHeld => ?_)
        clear hK K
        try simp only [qpu]
        refine qtk (i := 13) (oi := lxa38o3) (v := (.pointer (some ⟨W3.heap.size, 1, none⟩))) hHeld ?_ ?_
        ·intro w9 hSw
         try dsimp only at hSw
         go_simp
        try simp only [qpu]
        refine wpAnyH_ready (rs := [14]) (by kernel_rfl) (by simp) ?_
        refine AllReadyH.cons (o := lxa38o2) rfl (fun K hK => ?_) AllReadyH.nil
        have fz := HTe.out.frozen 1
        have fc := HTe.out.cell 1 _ rfl
        have hBO := HTe.out.put 1 (.slice (some ⟨g6, 0, none⟩) (n + 1) c6)
        have HBO : Hid (Blk (Ve.setCell ⟨W3.heap.size, 1, none⟩ (.slice (some ⟨g6, 0, none⟩) (n + 1) c6)) W3.heap.size 26 #[.slice dA 7 dC, .slice (some ⟨g6, 0, none⟩) (n + 1) c6, .slice fA fn fC]) := hBO
        have hT2 : Tc (· == 26) Ve (Ve.setCell ⟨W3.heap.size, 1, none⟩ (.slice (some ⟨g6, 0, none⟩) (n + 1) c6)) := Tc.put HTe.out (by rfl) _ _
        have HT2 : Hid (Tc (· == 26) Ve (Ve.setCell ⟨W3.heap.size, 1, none⟩ (.slice (some ⟨g6, 0, none⟩) (n + 1) c6))) := hT2
        have qwf : Below W2.heap.size W2 (Ve.setCell ⟨W3.heap.size, 1, none⟩ (.slice (some ⟨g6, 0, none⟩) (n + 1) c6)) := qwe.setCell HLO.out _
        clear hBO hT2
        go_simp
        refine hK.out _ _ (Blk.put_other HCe.out HTe.out (Nat.ne_of_gt HNO.out) _ _) (fun hHeld => ?_)
        clear hK K fz fc
        try simp only [qpu]
        refine wpAnyH_done (by kernel_rfl) ?_ _
        refine NoPanic.normal ?_
        have HSX9 : Hid (SameX X (X' ++ [(⟨wd, a2', c2', a3', c3', vs', KL, S⟩ : CrM)])) := HSX.out.snoc HXL.out HXN'.out HE.out
        have HXL9 : Hid ((X' ++ [(⟨wd, a2', c2', a3', c3', vs', KL, S⟩ : CrM)]).length = n + 1) := (by rw [List.length_append, HXL.out]; rfl : (X' ++ [(⟨wd, a2', c2', a3', c3', vs', KL, S⟩ : CrM)]).length = n + 1)
        have HXZ : Hid (OwnX (Ve.setCell ⟨W3.heap.size, 1, none⟩ (.slice (some ⟨g6, 0, none⟩) (n + 1) c6)) W2.heap.size (some ⟨g6, 0, none⟩) c6 (X' ++ [(⟨wd, a2', c2', a3', c3', vs', KL, S⟩ : CrM)])) := HOD9.out.tc HT2.out (by rfl) (by rfl) (by rfl)
        have HDZ : Hid (OwnD (Ve.setCell ⟨W3.heap.size, 1, none⟩ (.slice (some ⟨g6, 0, none⟩) (n + 1) c6)) W2.heap.size dA dC D') := HDe.out.tc HT2.out (by rfl) (by rfl) (by rfl) (by rfl)
        have HJZ : Hid (OwnJ (Ve.setCell ⟨W3.heap.size, 1, none⟩ (.slice (some ⟨g6, 0, none⟩) (n + 1) c6)) W2.heap.size fA fC F) := ownsRow_tc HJe.out HT2.out (by rfl)
        clear HRr hBc HTe HCe HJe HT9 qwe HOD9 hVd HO2 HO3 HT2 HDe
        go_wp2
        exact ⟨⟨n + 1, some ⟨g6, 0, none⟩, c6, _, by omega, by first | rfl | (congr 1), HXL9, HSX9, HBO, HDZ, HXZ, HJZ, qwf⟩, by simp only [intOf]; omega⟩
       ·obtain ⟨Vd, hVd⟩ : ∃ Vd, Vc.alloc (.cells #[.int .i64 (wd : Int), .slice a2' l1 c2', .slice a3' l3 c3'] 60) = Vd := ⟨_, rfl⟩
        have qd := bel_nw hVd
        replace HO2 : Hid (OwnI Vd W2.heap.size a2' c2' KL) := HO2.out.below qd
        replace HO3 : Hid (SetsO Vd W2.heap.size a3' c3' S vs') := HO3.out.below qd
        replace hBc := bel_tr hBc qd
        go_simp
        refine hK.out _ _ (HC3.out.kept hBc) (fun hHeld => ?_)
        clear hK K
        try simp only [qpu]
        refine wpAnyH_ready (rs := [1]) (by kernel_rfl) (by simp) ?_
        refine AllReadyH.cons (o := lxa38o14) rfl (fun K hK => ?_) AllReadyH.nil
        have hcc := (HT3.out.kept hBc).cell 1 _ rfl
        go_simp
        refine hK.out _ _ (HC3.out.kept hBc) (fun hHeld => ?_)
        clear hK K hcc
        try simp only [qpu]
        refine wpAnyH_ready (rs := [12]) (by kernel_rfl) (by simp) ?_
        refine AllReadyH.cons (o := lxa38o5) rfl (fun K hK => ?_) AllReadyH.nil
        have hbd : Blk Vd Vc.heap.size 60 (CrM.v (⟨wd, a2', c2', a3', c3', vs', KL, S⟩ : CrM)) := by
         have := blk_nw hVd
         show Blk Vd Vc.heap.size _ #[.int .i64 (wd : Int), .slice a2' KL.length c2', .slice a3' S.length c3']
         rw [HL.out.1, HL.out.2]
         exact this
        obtain ⟨g6, c6, Ve, hrun, hod, hT, hg, hb6⟩ := run_appX1 Vd 23 W2.heap.size xA xC X' (HX3.out.below hBc) (⟨wd, a2', c2', a3', c3', vs', KL, S⟩ : CrM) ⟨HO2.out, HO3.out⟩ Vc.heap.size 1 60 hbd (by rw [HXL.out]; omega) (qw3.trans (hBc.mono qw3.size)).size
        rw [HXL.out] at hrun
        have HRr : Hid _ := hrun
        have HOD9 : Hid (OwnX Ve W2.heap.size (some ⟨g6, 0, none⟩) c6 (X' ++ [(⟨wd, a2', c2', a3', c3', vs', KL, S⟩ : CrM)])) := hod
        have HT9 : Hid (Tc (· == 60) Vd Ve) := hT
        have HTe : Hid (Blk Ve W3.heap.size 26 #[.slice dA 7 dC, .slice xA n xC, .slice fA fn fC]) := (HT3.out.kept hBc).tc hT (by rfl)
        have HCe : Hid (Blk Ve wr.heap.size 60 #[.int .i64 (wd : Int), .slice x2 l1 y2, .slice x3 l3 y3]) := (HC3.out.kept hBc).grown hg HNE.out
        have HJe : Hid (OwnJ Ve W2.heap.size fA fC F) := ownsRow_tc (HJ3.out.below hBc) hT (by rfl)
        have HDe : Hid (OwnD Ve W2.heap.size dA dC D') := (HD3.out.below hBc).tc hT (by rfl) (by rfl) (by rfl) (by rfl)
        have qwe : Below W2.heap.size W2 Ve := (qw3.trans (hBc.mono qw3.size)).trans hb6
        clear hrun hod hg hT hbd hb6
        refine step_rn rfl 23 _ _ rfl _ _ rfl rfl _ _ HRr.out ?_
        refine hK.out _ _ HCe.out (fun hHeld => ?_)
        clear hK K
        try simp only [qpu]
        refine qtk (i := 13) (oi := lxa38o3) (v := (.pointer (some ⟨W3.heap.size, 1, none⟩))) hHeld ?_ ?_
        ·intro w9 hSw
         try dsimp only at hSw
         go_simp
        try simp only [qpu]
        refine wpAnyH_ready (rs := [14]) (by kernel_rfl) (by simp) ?_
        refine AllReadyH.cons (o := lxa38o2) rfl (fun K hK => ?_) AllReadyH.nil
        have fz := HTe.out.frozen 1
        have fc := HTe.out.cell 1 _ rfl
        have hBO := HTe.out.put 1 (.slice (some ⟨g6, 0, none⟩) (n + 1) c6)
        have HBO : Hid (Blk (Ve.setCell ⟨W3.heap.size, 1, none⟩ (.slice (some ⟨g6, 0, none⟩) (n + 1) c6)) W3.heap.size 26 #[.slice dA 7 dC, .slice (some ⟨g6, 0, none⟩) (n + 1) c6, .slice fA fn fC]) := hBO
        have hT2 : Tc (· == 26) Ve (Ve.setCell ⟨W3.heap.size, 1, none⟩ (.slice (some ⟨g6, 0, none⟩) (n + 1) c6)) := Tc.put HTe.out (by rfl) _ _
        have HT2 : Hid (Tc (· == 26) Ve (Ve.setCell ⟨W3.heap.size, 1, none⟩ (.slice (some ⟨g6, 0, none⟩) (n + 1) c6))) := hT2
        have qwf : Below W2.heap.size W2 (Ve.setCell ⟨W3.heap.size, 1, none⟩ (.slice (some ⟨g6, 0, none⟩) (n + 1) c6)) := qwe.setCell HLO.out _
        clear hBO hT2
        go_simp
        refine hK.out _ _ (Blk.put_other HCe.out HTe.out (Nat.ne_of_gt HNO.out) _ _) (fun hHeld => ?_)
        clear hK K fz fc
        try simp only [qpu]
        refine wpAnyH_done (by kernel_rfl) ?_ _
        refine NoPanic.normal ?_
        have HSX9 : Hid (SameX X (X' ++ [(⟨wd, a2', c2', a3', c3', vs', KL, S⟩ : CrM)])) := HSX.out.snoc HXL.out HXN'.out HE.out
        have HXL9 : Hid ((X' ++ [(⟨wd, a2', c2', a3', c3', vs', KL, S⟩ : CrM)]).length = n + 1) := (by rw [List.length_append, HXL.out]; rfl : (X' ++ [(⟨wd, a2', c2', a3', c3', vs', KL, S⟩ : CrM)]).length = n + 1)
        have HXZ : Hid (OwnX (Ve.setCell ⟨W3.heap.size, 1, none⟩ (.slice (some ⟨g6, 0, none⟩) (n + 1) c6)) W2.heap.size (some ⟨g6, 0, none⟩) c6 (X' ++ [(⟨wd, a2', c2', a3', c3', vs', KL, S⟩ : CrM)])) := HOD9.out.tc HT2.out (by rfl) (by rfl) (by rfl)
        have HDZ : Hid (OwnD (Ve.setCell ⟨W3.heap.size, 1, none⟩ (.slice (some ⟨g6, 0, none⟩) (n + 1) c6)) W2.heap.size dA dC D') := HDe.out.tc HT2.out (by rfl) (by rfl) (by rfl) (by rfl)
        have HJZ : Hid (OwnJ (Ve.setCell ⟨W3.heap.size, 1, none⟩ (.slice (some ⟨g6, 0, none⟩) (n + 1) c6)) W2.heap.size fA fC F) := ownsRow_tc HJe.out HT2.out (by rfl)
        clear HRr hBc HTe HCe HJe HT9 qwe HOD9 hVd HO2 HO3 HT2 HDe
        go_wp2
        exact ⟨⟨n + 1, some ⟨g6, 0, none⟩, c6, _, by omega, by first | rfl | (congr 1), HXL9, HSX9, HBO, HDZ, HXZ, HJZ, qwf⟩, by simp only [intOf]; omega⟩

    ·have hn6 : n = 6 := by omega
     subst hn6
     rw [show ((6 : Nat) : Int) = 6 from rfl]
     have hsT : (Tryz.prog.info? 26).map (·.size) = some 3 := by kernel_rfl
     have ato := HO.out.at_
     have RB : Blk wr W1.heap.size 26 zc3 := HZ2.out.kept qw
     have hown : TO.own wr W2.heap.size l ⟨dA, dC, D', xA, xC, X', fA, fC, F⟩ := ⟨HOD'.out, HOX'.out, HJ.out, tabIs_same HIS.out HSD.out HSX.out HDL.out HXL.out⟩
     obtain ⟨W9, hW9⟩ : ∃ W9, wr.setRow W1.heap.size #[.slice dA 7 dC, .slice xA 6 xC, .slice fA fn fC] = W9 := ⟨_, rfl⟩
     have RB9 : Blk W9 W1.heap.size 26 #[.slice dA 7 dC, .slice xA 6 xC, .slice fA fn fC] := by rw [← hW9]; exact RB.set _
     have bw9 : Below w.heap.size w W9 := by rw [← hW9]; exact below_setRow bw HL1.out _
     have hT9 : Tc (· == 26) wr W9 := by rw [← hW9]; exact Tc.set RB (by rfl) _
     have HOW : Hid (TO.own W9 w.heap.size l ⟨dA, dC, D', xA, xC, X', fA, fC, F⟩) := TO.own.base (B := W2.heap.size) ⟨hown.d.tc hT9 (by rfl) (by rfl) (by rfl) (by rfl), hown.x.tc hT9 (by rfl) (by rfl) (by rfl), ownsRow_tc hown.f hT9 (by rfl), hown.is⟩ b2.size
     clear hown hT9
     go_wp2_with (first
      | (refine wpList_load_at rfl _ _ rfl W3.heap.size 0 (by rfl) _ ato Tryz.underlying26 hsT ?_)
      | (refine wpList_st rfl 26 _ _ rfl W1.heap.size #[.slice dA 7 dC, .slice xA 6 xC, .slice fA fn fC] zc3 (by rfl) (by rfl) RB (by kernel_rfl) rfl (by kernel_rfl) ?_))
     try rw [hW9]
     exact ret_cell (k := 2) Tryz.f48 (by kernel_rfl) RB9 Tryz.underlying26 (by kernel_rfl) (by rfl) (by rfl) ⟨⟨dA, dC, D', xA, xC, X', fA, fC, F⟩, by show Ending.returned (.agg #[.slice dA 7 dC, .slice xA 6 xC, .slice fA fn fC]) = Ending.returned (.agg #[.slice dA 7 dC, .slice xA 6 xC, .slice fA F.length fC]); rw [HFN.out], HOW.out, bw9⟩
end Go.Proofs.YtmfgjicfdjjihaaGreatDoor
