/- Texts joined: RfK -/
import Derived.Test.YtcoldgpnkdallaaDoorRxa0
import Derived.Test.YtcoldgpnkdallaaDoorRxa1
import Derived.Test.YtcoldgpnkdallaaDoorRxa2
import Derived.Test.YtcoldgpnkdallaaDoorRxa3
import Derived.Test.YtcoldgpnkdallaaDoorRxa4
import Derived.Test.YtcoldgpnkdallaaDoorRxa5
import Derived.Test.YtcoldgpnkdallaaDoorRxa6
import Derived.Test.YtcoldgpnkdallaaDoorRxa7
import Derived.Test.YtcoldgpnkdallaaDoorRxa8
import Derived.Test.YtcoldgpnkdallaaDoorRxa9
import Derived.Test.YtcoldgpnkdallaaDoorRxa10
import Derived.Test.YtcoldgpnkdallaaDoorRxa11
import Derived.Test.YtcoldgpnkdallaaDoorRxa12
import Derived.Test.YtcoldgpnkdallaaDoorRxa13
import Derived.Test.YtcoldgpnkdallaaDoorRxa14
import Derived.Test.YtcoldgpnkdallaaDoorRxa15
import Derived.Test.YtcoldgpnkdallaaDoorRxa16
import Derived.Test.YtcoldgpnkdallaaDoorRxa17
import Derived.Test.YtcoldgpnkdallaaDoorRxa18
import Derived.Test.YtcoldgpnkdallaaDoorRxa19
import Derived.Test.YtcoldgpnkdallaaDoorRxa20
import Derived.Test.YtcoldgpnkdallaaDoorRxa21
import Derived.Test.YtcoldgpnkdallaaDoorRxa22
import Derived.Test.YtcoldgpnkdallaaDoorRxa23
import Derived.Test.YtcoldgpnkdallaaDoorRxa24
import Derived.Test.YtcoldgpnkdallaaDoorRxa25
import Derived.Test.YtcoldgpnkdallaaDoorRxa26
import Derived.Test.YtcoldgpnkdallaaDoorRxa27
import Derived.Test.YtcoldgpnkdallaaDoorRxa28
import Derived.Test.YtcoldgpnkdallaaDoorRxa29
import Derived.Test.YtcoldgpnkdallaaDoorRxa30
import Derived.Test.YtcoldgpnkdallaaDoorRxa31
import Derived.Test.YtcoldgpnkdallaaDoorRxa32
import Derived.Test.YtcoldgpnkdallaaDoorRxa33
import Derived.Test.YtcoldgpnkdallaaDoorRxa34
import Derived.Test.YtcoldgpnkdallaaDoorRxa35
import Derived.Test.YtcoldgpnkdallaaDoorRxa36
import Derived.Test.YtcoldgpnkdallaaDoorRxa37
import Derived.Test.YtcoldgpnkdallaaDoorRxa39
import Derived.Test.YtcoldgpnkdallaaDoorRxa41
import Derived.Test.YtcoldgpnkdallaaDoorRxc2
namespace Go.Proofs.YtcoldgpnkdallaaDoor
open Go.RowKit
set_option linter.unusedVariables false
set_option linter.unusedSimpArgs false
set_option maxRecDepth 100000 in
set_option maxHeartbeats 8000000 in
theorem rcompile_arg (a : Option Addr) (c : Nat) (l : List Rl) (n : Nat) (budget : Int) (w : World) (h : ¬ (0 ≤ budget ∧ budget ≤ 4096)) (B : Nat) :
    Calls Tryd.prog 10 #[.slice a n c, .int .i64 budget] w fun e w' => CompGot l 1 B e w' ∧ Below w.heap.size w w' := by
  obtain ⟨W1, hW1⟩ : ∃ W1, w.alloc (.cells zc3 27) = W1 := ⟨_, rfl⟩
  have b1 := bel_nw hW1
  have RB := blk_nw hW1
  by_cases h0 : budget < 0
  · clear h
    go_enter Tryd.func10, Tryd.ntmps10
    go_wp2_with (refine wpList_st rfl 27 _ _ rfl w.heap.size zc3 zc3 (by rfl) (by rfl) RB (by kernel_rfl) rfl (by kernel_rfl) ?_)
    exact ret_cell_tmp (k := 4) (j := 5) Tryd.f10 (by kernel_rfl) (RB.set _) Tryd.underlying27 (by kernel_rfl) (by rfl) (by rfl) rfl ⟨got_no (by decide) _, below_setRow b1 (Nat.le_refl _) _⟩
  · have h1 : 4096 < budget := by omega
    have h2 : 0 ≤ budget := by omega
    clear h h0
    go_enter Tryd.func10, Tryd.ntmps10
    go_wp2_with (refine wpList_st rfl 27 _ _ rfl w.heap.size zc3 zc3 (by rfl) (by rfl) RB (by kernel_rfl) rfl (by kernel_rfl) ?_)
    exact ret_cell_tmp (k := 4) (j := 5) Tryd.f10 (by kernel_rfl) (RB.set _) Tryd.underlying27 (by kernel_rfl) (by rfl) (by rfl) rfl ⟨got_no (by decide) _, below_setRow b1 (Nat.le_refl _) _⟩
set_option maxRecDepth 100000 in
set_option maxHeartbeats 8000000 in
theorem rcompile_cut (a : Option Addr) (c : Nat) (l : List Rl) (budget : Int) (w : World) (hrow : RowR w a l) (he : errC l 0 ≠ 0) (h : 0 ≤ budget ∧ budget ≤ 4096) (B : Nat) :
    Calls Tryd.prog 10 #[.slice a l.length c, .int .i64 budget] w fun e w' => CompGot l (errC l 0) B e w' ∧ Below w.heap.size w w' := by
  obtain ⟨W1, hW1⟩ : ∃ W1, w.alloc (.cells zc3 27) = W1 := ⟨_, rfl⟩
  have hst : (Instr.storeAt 27 (.pointer (some ⟨W1.heap.size, 0, none⟩)) (.agg zc3)).run Tryd.prog (W1.alloc (.cells zc3 27)) = .ok () (W1.alloc (.cells zc3 27)) := run_storeAt_new (P := Tryd.prog) W1 27 zc3 _ (by kernel_rfl) rfl (by kernel_rfl)
  obtain ⟨W2, hW2⟩ : ∃ W2, W1.alloc (.cells zc3 27) = W2 := ⟨_, rfl⟩
  rw [hW2] at hst
  have b1 := bel_nw hW1
  have b2 := bel_al b1 hW2
  have HG4 : Hid (Blk W2 w.heap.size 27 zc3) := (blk_nw hW1).al hW2
  have K : Hid _ := rcut_err a c l 0 W2 (hrow.low b2) he
  obtain ⟨N, hN⟩ : ∃ N, l.length = N := ⟨_, rfl⟩
  rw [hN] at K ⊢
  obtain ⟨E, hE⟩ : ∃ E, errC l 0 = E := ⟨_, rfl⟩
  rw [hE] at K he ⊢
  have hne : (E != 0) = true := by simpa using he
  have HNE : Hid (E ≠ 0) := he
  obtain ⟨h1, h2⟩ := h
  clear hE hN hrow he
  go_enter Tryd.func10, Tryd.ntmps10
  go_wp2_with (first | (refine wpList_store_new _ _ rfl _ _ _ rfl _ _ rfl rfl hst ?_))
  clear hst
  go_loopw [7, 8] (fun v7 i wr => v7 = .int .i64 0 ∧ i = .int .i64 0 ∧ W2 = wr) (fun _ i _ => 7 - (intOf i).toNat)
  case atStart => exact ⟨rfl, rfl, by trivial⟩
  case round =>
    obtain ⟨rfl, rfl, hwr⟩ := hrel
    subst hwr
    go_wp2_with fail
    refine Calls.mono K.out ?_
    rintro e V2 ⟨rfl, q2⟩
    have bw3 : Below w.heap.size w (V2.alloc (.cells zc 63)) := bel_tr b2 (bel_al q2 rfl)
    have RB : Blk (V2.alloc (.cells zc 63)) w.heap.size 27 zc3 := HG4.out.kept (bel_al q2 rfl)
    go_wp2_with (refine wpList_st rfl 27 _ _ rfl w.heap.size zc3 zc3 (by rfl) (by rfl) RB (by kernel_rfl) rfl (by kernel_rfl) ?_)
    exact ret_cell_tmp (k := 4) (j := 5) Tryd.f10 (by kernel_rfl) (RB.set _) Tryd.underlying27 (by kernel_rfl) (by rfl) (by rfl) rfl ⟨got_no HNE.out _, below_setRow bw3 (Nat.le_refl _) _⟩
/-- The document's Compile. -/
theorem rcompile_any (a : Option Addr) (c : Nat) (l : List Rl) (budget : Int) (w : World) (hrow : RowR w a l) :
    Calls Tryd.prog 10 #[.slice a l.length c, .int .i64 budget] w fun e w' => CompGot l (errT l (errC l 0) budget) w.heap.size e w' ∧ Below w.heap.size w w' := by
  unfold errT
  by_cases h : 0 ≤ budget ∧ budget ≤ 4096
  · rw [if_pos h]
    by_cases he : errC l 0 = 0
    · rw [if_neg (by simpa using he)]
      exact rcompile_main a c l budget w hrow he h.1 h.2
    · rw [if_pos he]
      exact rcompile_cut a c l budget w hrow he h _
  · rw [if_neg h]
    exact rcompile_arg a c l _ budget w h _
/-- Tables, as they are read. -/
structure TR where
  da : Option Addr
  dc : Nat
  D : List ChR
  xa : Option Addr
  xc : Nat
  X : List CrR
  fa : Option Addr
  fc : Nat
  F : List Int
abbrev TR.v (t : TR) : Array Value := #[.slice t.da t.D.length t.dc, .slice t.xa t.X.length t.xc, .slice t.fa t.F.length t.fc]
structure TR.ok (w : World) (t : TR) : Prop where
  dn : t.D.length ≤ 17592186044416
  xn : t.X.length ≤ 17592186044416
  d : RowD w t.da t.D
  x : RowX w t.xa t.X
  f : RowI w t.fa t.F
theorem TR.ok.low {w w' : World} {t : TR} (h : t.ok w) (hb : Below w.heap.size w w') : t.ok w' := ⟨h.dn, h.xn, h.d.low hb, h.x.low hb, h.f.below hb⟩
/-- What they must be. -/
def TabC (l : List Rl) (E : Int) (t : TR) : Prop := (E ≠ 0 ∧ t.D = [] ∧ t.X = [] ∧ t.F = []) ∨ (E = 0 ∧ ∃ D X, TabIs l D X t.F ∧ t.D = D.map ChM.r ∧ t.X = X.map CrM.r)
theorem tab_uniq {l : List Rl} {D D' : List ChM} {X X' : List CrM} {F F' : List Int} (h : TabIs l D X F) (h' : TabIs l D' X' F') : SameT (D.map ChM.r) (D'.map ChM.r) (X.map CrM.r) (X'.map CrM.r) F F' := by
  refine ⟨?_, ?_, by rw [h.fst, h'.fst]⟩
  · rw [List.map_map, List.map_map]
    refine List.ext_getElem? fun i => ?_
    rw [List.getElem?_map, List.getElem?_map]
    by_cases hi : i < 7
    · have e1 := List.getElem?_eq_getElem (l := D) (by rw [h.d7]; exact hi)
      have e2 := List.getElem?_eq_getElem (l := D') (by rw [h'.d7]; exact hi)
      obtain ⟨u1, u2, u3⟩ := (h.dim i _ e1).uniq (h'.dim i _ e2)
      rw [e1, e2]
      simp only [Option.map_some, Function.comp, ChR.pl, ChM.r, u1, u2, u3]
    · rw [List.getElem?_eq_none (by rw [h.d7]; omega), List.getElem?_eq_none (by rw [h'.d7]; omega)]
  · rw [List.map_map, List.map_map]
    refine List.ext_getElem? fun i => ?_
    rw [List.getElem?_map, List.getElem?_map]
    by_cases hi : i < 6
    · have e1 := List.getElem?_eq_getElem (l := X) (by rw [h.x6]; exact hi)
      have e2 := List.getElem?_eq_getElem (l := X') (by rw [h'.x6]; exact hi)
      obtain ⟨u1, u2, u3⟩ := h.crs i _ e1
      obtain ⟨v1, v2, v3⟩ := h'.crs i _ e2
      rw [e1, e2]
      simp only [Option.map_some, Function.comp, CrR.pl, CrM.r, u1, u2, u3, v1, v2, v3]
    · rw [List.getElem?_eq_none (by rw [h.x6]; omega), List.getElem?_eq_none (by rw [h'.x6]; omega)]
theorem TabC.same {l : List Rl} {E : Int} {t u : TR} (h : TabC l E t) (h' : TabC l E u) : SameT t.D u.D t.X u.X t.F u.F := by
  rcases h with ⟨h0, h1, h2, h3⟩ | ⟨h0, D, X, h1, h2, h3⟩ <;> rcases h' with ⟨g0, g1, g2, g3⟩ | ⟨g0, D', X', g1, g2, g3⟩
  · rw [h1, h2, h3, g1, g2, g3]; exact ⟨rfl, rfl, rfl⟩
  · exact absurd g0 h0
  · exact absurd h0 g0
  · rw [h2, h3, g2, g3]; exact tab_uniq h1 g1
/-- Where Compile is not refused. -/
theorem errT_ok {l : List Rl} {budget : Int} (h : errT l (errC l 0) budget = 0) : errC l 0 = 0 ∧ l.length ≤ 64 ∧ (costN l 6 : Int) ≤ budget ∧ budget ≤ 4096 ∧ costN l 6 ≤ 4096 := by
  unfold errT at h
  split at h
  · rename_i hb
    split at h
    · rename_i he; exact absurd h he
    · rename_i he
      have he' : errC l 0 = 0 := by simpa using he
      split at h
      · cases h
      · obtain ⟨_, _, _, hl, _⟩ := err_ok he'
        exact ⟨he', hl, by omega, hb.2, by omega⟩
  · cases h
theorem tab_small {l : List Rl} (hl : l.length ≤ 64) (hc : costN l 6 ≤ 4096) {D : List ChM} {X : List CrM} {F : List Int} (h : TabIs l D X F) :
    (∀ x ∈ D, x.L.length ≤ 1000 ∧ x.K.length = x.L.length ∧ x.S.length ≤ 1000 ∧ (∀ s ∈ x.S, s.length ≤ 1000) ∧ ∀ p ∈ x.L, p.ok) ∧ (∀ x ∈ X, x.K.length ≤ 10000 ∧ x.S.length ≤ 10000 ∧ ∀ s ∈ x.S, s.length ≤ 1000) ∧ F.length ≤ 10000 := by
  have hX : ∀ (n : Nat) (x : CrM), X[n]? = some x → x.K.length = (sA l n).length * (sB l n).length ∧ x.K.length ≤ 4096 ∧ x.S.length ≤ 4096 ∧ Rs2 x.S := fun n x hx => by
    have hn : n < 6 := by have := (List.getElem?_eq_some_iff.1 hx).1; rw [h.x6] at this; exact this
    obtain ⟨_, u2, u3⟩ := h.crs n x hx
    have h1 : x.K.length = (sA l n).length * (sB l n).length := by rw [u2, class_len, cross_len]
    have h2 : costN l (n + 1) ≤ costN l 6 := cost_le l (n + 1) 6 (by omega)
    have h3 : costN l (n + 1) = costN l n + (sA l n).length * (sB l n).length := rfl
    have h4 : (setsL (crossL (sA l n) (sB l n))).length ≤ (crossL (sA l n) (sB l n)).length := sets_len _
    rw [cross_len] at h4
    refine ⟨h1, by omega, by rw [u3]; omega, ?_⟩
    rw [u3]
    exact sets_rs (cross_rs (cls_rs l hl n (by omega) _ (List.mem_of_getElem? (cls_L l hn))) (cls_rs l hl n (by omega) _ (List.mem_of_getElem? (cls_R l hn))))
  refine ⟨fun x hx => ?_, fun x hx => ?_, ?_⟩
  · obtain ⟨d, hd⟩ := List.getElem?_of_mem hx
    exact cutP_small (h.dim d x hd) hl
  · obtain ⟨n, hn⟩ := List.getElem?_of_mem hx
    obtain ⟨_, h1, h2, h3⟩ := hX n x hn
    exact ⟨by omega, by omega, fun s hs => by have := rs_len (h3 s hs); omega⟩
  · obtain ⟨x, hx⟩ : ∃ x, X[5]? = some x := ⟨_, List.getElem?_eq_getElem (by rw [h.x6]; omega)⟩
    obtain ⟨_, _, h2, _⟩ := hX 5 x hx
    rw [h.fst, List.length_map, ← (h.crs 5 x hx).2.2]
    omega
theorem comp_tr {l : List Rl} {budget : Int} {B : Nat} {e : Ending} {w : World} (h : CompGot l (errT l (errC l 0) budget) B e w) : ∃ t : TR, e = .returned (.tuple #[.agg t.v, .int .i64 (errT l (errC l 0) budget)]) ∧ t.ok w ∧ TabC l (errT l (errC l 0) budget) t := by
  rcases h with ⟨h0, rfl⟩ | ⟨h0, da, dc, D, xa, xc, X, fa, fc, F, rfl, hD, hX, hF, hT⟩
  · exact ⟨⟨none, 0, [], none, 0, [], none, 0, []⟩, rfl, ⟨by simp, by simp, ⟨fun q hq => (by cases hq), fun i q hq => (by simp at hq)⟩, ⟨fun q hq => (by cases hq), fun i q hq => (by simp at hq)⟩, rowi_nil w⟩, .inl ⟨h0, rfl, rfl, rfl⟩⟩
  · obtain ⟨_, hl, _, _, hc⟩ := errT_ok h0
    obtain ⟨s1, s2, s3⟩ := tab_small hl hc hT
    refine ⟨⟨da, dc, D.map ChM.r, xa, xc, X.map CrM.r, fa, fc, F⟩, ?_, ⟨?_, ?_, hD.rows s1, hX.rows s2, hF.row (by omega)⟩, .inr ⟨h0, D, X, hT, rfl, rfl⟩⟩
    · rw [h0]
      show _ = Ending.returned (.tuple #[.agg #[.slice da (D.map ChM.r).length dc, .slice xa (X.map CrM.r).length xc, .slice fa F.length fc], .int .i64 0])
      rw [List.length_map, List.length_map, hT.d7, hT.x6]
    · show (D.map ChM.r).length ≤ _; rw [List.length_map, hT.d7]; omega
    · show (X.map CrM.r).length ≤ _; rw [List.length_map, hT.x6]; omega
theorem compile_tr (a : Option Addr) (c : Nat) (l : List Rl) (budget : Int) (w : World) (hT : Top w) (hDb : Deb w) (hSd : Sds w) (hrow : RowR w a l) :
    Calls Tryd.prog 9 #[.slice a l.length c, .int .i64 budget] w fun e w' => ∃ t : TR, e = .returned (.tuple #[.agg t.v, .int .i64 (errT l (errC l 0) budget)]) ∧ t.ok w' ∧ TabC l (errT l (errC l 0) budget) t ∧ Below w.heap.size w w' :=
  (compile_any a c l budget w hT hDb hSd hrow).mono (by
    rintro e w' ⟨h, hb⟩
    obtain ⟨t, h1, h2, h3⟩ := comp_tr h
    exact ⟨t, h1, h2, h3, hb⟩)
theorem rcompile_tr (a : Option Addr) (c : Nat) (l : List Rl) (budget : Int) (w : World) (hrow : RowR w a l) :
    Calls Tryd.prog 10 #[.slice a l.length c, .int .i64 budget] w fun e w' => ∃ t : TR, e = .returned (.tuple #[.agg t.v, .int .i64 (errT l (errC l 0) budget)]) ∧ t.ok w' ∧ TabC l (errT l (errC l 0) budget) t ∧ Below w.heap.size w w' :=
  (rcompile_any a c l budget w hrow).mono (by
    rintro e w' ⟨h, hb⟩
    obtain ⟨t, h1, h2, h3⟩ := comp_tr h
    exact ⟨t, h1, h2, h3, hb⟩)
/-- The document's Same of two that must be the same. -/
theorem rsame_tr {l : List Rl} {E : Int} (t u : TR) (w : World) (ht : t.ok w) (hu : u.ok w) (h : TabC l E t) (h' : TabC l E u) :
    Calls Tryd.prog 11 #[.agg t.v, .agg u.v] w fun e w' => e = .returned (.bool true) ∧ Below w.heap.size w w' :=
  (rsame_any t.da t.xa t.fa u.da u.xa u.fa t.dc t.xc t.fc u.dc u.xc u.fc t.D u.D t.X u.X t.F u.F w ht.dn ht.xn ht.d ht.x ht.f hu.d hu.x hu.f).mono (by
    rintro e w' ⟨⟨r, rfl, hr⟩, hb⟩
    rw [hr.2 (h.same h')]
    exact ⟨rfl, hb⟩)
/-- The cost of what was compiled. -/
theorem tab_cost {l : List Rl} (hl : l.length ≤ 64) (hc : costN l 6 ≤ 4096) {D : List ChM} {X : List CrM} {F : List Int} (h : TabIs l D X F) : wsum ((D.map ChM.r).map (·.L.length) ++ (X.map CrM.r).map (·.K.length)) = (costN l 6 : Int) := by
  have e1 : (D.map ChM.r).map (fun x => x.L.length) = D.map fun x => x.L.length := by rw [List.map_map]; rfl
  have e2 : (X.map CrM.r).map (fun x => x.K.length) = X.map fun x => x.K.length := by
    rw [List.map_map]
    refine List.map_congr_left fun x _ => ?_
    show (ints x.K).length = _
    rw [List.length_map]
  have e3 := lens_sum (l := l) h.d7 (fun j x hj => (cutP_rs (h.dim j x hj) hl).2.2)
  have e4 : (X.map fun x => x.K.length).sum = costN l 6 - costD l 7 := by
    have hX := h.x6
    have hk : ∀ (n : Nat) (x : CrM), X[n]? = some x → x.K.length = (sA l n).length * (sB l n).length := fun n x hx => by rw [(h.crs n x hx).2.1, class_len, cross_len]
    obtain ⟨x0, x1, x2, x3, x4, x5, rfl⟩ : ∃ x0 x1 x2 x3 x4 x5, X = [x0, x1, x2, x3, x4, x5] := by
      match X, hX with
      | [x0, x1, x2, x3, x4, x5], _ => exact ⟨x0, x1, x2, x3, x4, x5, rfl⟩
    simp only [List.map_cons, List.map_nil, List.sum_cons, List.sum_nil]
    rw [hk 0 x0 rfl, hk 1 x1 rfl, hk 2 x2 rfl, hk 3 x3 rfl, hk 4 x4 rfl, hk 5 x5 rfl]
    simp only [costN]
    omega
  have e5 : costD l 7 ≤ costN l 6 := cost_le l 0 6 (by omega)
  rw [e1, e2, wsum_nat _ (by rw [List.sum_append, e3, e4]; omega), List.sum_append, e3, e4]
  congr 1
  omega
/-! ### no rules -/
theorem setsD_nil (d : Nat) : setsD [] d = [[]] := by unfold setsD; rfl
theorem lenD_nil (d : Nat) : lenD [] d = 1 := by unfold lenD; rfl
theorem cross_one : setsL (crossL [[]] [[]]) = [[]] := by
  have : crossL [[]] [[]] = [[]] := by unfold crossL; simp [both_nill]
  rw [this]; rfl
theorem cls_nil : ∀ n, n ≤ 6 → clsN [] n = List.replicate (7 + n) [[]]
  | 0, _ => by simp [clsN, setsD_nil]; decide
  | n + 1, h => by
    have ih := cls_nil n (by omega)
    have h1 : sA [] n = [[]] := by
      have := cls_L [] (n := n) (by omega)
      rw [ih, List.getElem?_replicate] at this
      split at this
      · exact (Option.some.inj this).symm
      · cases this
    have h2 : sB [] n = [[]] := by
      have := cls_R [] (n := n) (by omega)
      rw [ih, List.getElem?_replicate] at this
      split at this
      · exact (Option.some.inj this).symm
      · cases this
    rw [cls_succ, ih, h1, h2, cross_one, show 7 + (n + 1) = (7 + n) + 1 from rfl, List.replicate_succ']
theorem side_nil (n : Nat) (h : n < 6) : sA [] n = [[]] ∧ sB [] n = [[]] := by
  have ih := cls_nil n (by omega)
  constructor
  · have := cls_L [] (n := n) (by omega)
    rw [ih, List.getElem?_replicate] at this
    split at this
    · exact (Option.some.inj this).symm
    · cases this
  · have := cls_R [] (n := n) (by omega)
    rw [ih, List.getElem?_replicate] at this
    split at this
    · exact (Option.some.inj this).symm
    · cases this
theorem cost_nil : costN [] 6 = 13 := by
  simp only [costN, costD, lenD_nil, (side_nil 0 (by omega)).1, (side_nil 0 (by omega)).2, (side_nil 1 (by omega)).1, (side_nil 1 (by omega)).2, (side_nil 2 (by omega)).1, (side_nil 2 (by omega)).2, (side_nil 3 (by omega)).1, (side_nil 3 (by omega)).2, (side_nil 4 (by omega)).1, (side_nil 4 (by omega)).2, (side_nil 5 (by omega)).1, (side_nil 5 (by omega)).2]
  rfl
theorem errT_13 : errT [] (errC [] 0) 13 = 0 := by
  unfold errT
  rw [cost_nil]
  decide
theorem errT_12 : errT [] (errC [] 0) 12 = 18 := by
  unfold errT
  rw [cost_nil]
  decide
theorem first_nil {D : List ChM} {X : List CrM} {F : List Int} (h : TabIs [] D X F) : F = [-1] := by
  rw [h.fst, (side_nil 5 (by omega)).1, (side_nil 5 (by omega)).2, cross_one]; rfl
set_option maxRecDepth 100000 in
set_option maxHeartbeats 16000000 in
theorem alive_rf (w : World) (hT : Top w) (hDb : Deb w) (hSd : Sds w) : Calls Tryd.prog 12 #[] w fun e w' => e = .returned (.bool true) ∧ Below w.heap.size w w' := by
  have hrn : ∀ W, RowR W none [] := fun W => ⟨fun q hq => (by cases hq), fun i q hq => (by simp at hq)⟩
  have K1 : Hid (Calls Tryd.prog 9 #[.slice none 0 0, .int .i64 13] w fun e w' => ∃ t : TR, e = .returned (.tuple #[.agg #[.slice t.da 7 t.dc, .slice t.xa 6 t.xc, .slice t.fa 1 t.fc], .int .i64 0]) ∧ t.ok w' ∧ (t.D.length = 7 ∧ t.X.length = 6 ∧ t.F = [-1] ∧ wsum (t.D.map (·.L.length) ++ t.X.map (·.K.length)) = 13) ∧ Below w.heap.size w w') := by
    refine (compile_tr none 0 [] 13 w hT hDb hSd (hrn w)).mono ?_
    rintro e w' ⟨t, rfl, h1, h2, h3⟩
    rw [errT_13] at h2 ⊢
    rcases h2 with ⟨h0, _⟩ | ⟨_, D, X, hI, hD, hX⟩
    · exact absurd rfl h0
    · have f1 : t.D.length = 7 := by rw [hD, List.length_map, hI.d7]
      have f2 : t.X.length = 6 := by rw [hX, List.length_map, hI.x6]
      have f3 : t.F = [-1] := first_nil hI
      have f4 : wsum (t.D.map (·.L.length) ++ t.X.map (·.K.length)) = 13 := by
        rw [hD, hX, tab_cost (by simp) (by rw [cost_nil]; omega) hI, cost_nil]; rfl
      refine ⟨t, ?_, h1, ⟨f1, f2, f3, f4⟩, h3⟩
      show Ending.returned (.tuple #[.agg #[.slice t.da t.D.length t.dc, .slice t.xa t.X.length t.xc, .slice t.fa t.F.length t.fc], .int .i64 0]) = _
      rw [f1, f2, f3]
      rfl
  have K2 : Hid (∀ W, Below w.heap.size w W → Calls Tryd.prog 9 #[.slice none 0 0, .int .i64 12] W fun e w' => ∃ t : TR, e = .returned (.tuple #[.agg t.v, .int .i64 18]) ∧ Below W.heap.size W w') := fun W hb => by
    refine (compile_tr none 0 [] 12 W (hT.below hb) (hDb.below hb) (hSd.below hb) (hrn W)).mono ?_
    rintro e w' ⟨t, rfl, h1, h2, h3⟩
    rw [errT_12]
    exact ⟨t, rfl, h3⟩
  clear hT hDb hSd hrn
  go_enter Tryd.func12, Tryd.ntmps12
  go_wp2_with fail
  refine Calls.mono K1.out ?_
  rintro e W2 ⟨t, rfl, hok, hall, b2⟩
  have HOK : Hid (t.ok W2) := hok
  have HALL : Hid (t.D.length = 7 ∧ t.X.length = 6 ∧ t.F = [-1] ∧ wsum (t.D.map (·.L.length) ++ t.X.map (·.K.length)) = 13) := hall
  obtain ⟨W3, hW3⟩ : ∃ W3, W2.alloc (.cells #[.slice t.da 7 t.dc, .slice t.xa 6 t.xc, .slice t.fa 1 t.fc] 27) = W3 := ⟨_, rfl⟩
  have q3 := bel_nw hW3
  have b3 := bel_tr b2 q3
  have HB3 : Hid (Blk W3 W2.heap.size 27 #[.slice t.da 7 t.dc, .slice t.xa 6 t.xc, .slice t.fa 1 t.fc]) := blk_nw hW3
  have K2' : Hid _ := K2.out W3 b3
  clear hok hall K1 K2
  go_wp2_with fail
  refine Calls.mono K2'.out ?_
  rintro e W4 ⟨u, rfl, q4⟩
  obtain ⟨W5, hW5⟩ : ∃ W5, W4.alloc (.cells u.v 27) = W5 := ⟨_, rfl⟩
  have q35 := bel_al q4 hW5
  have b5 := bel_tr b3 q35
  have HB5 : Hid (Blk W5 W2.heap.size 27 #[.slice t.da 7 t.dc, .slice t.xa 6 t.xc, .slice t.fa 1 t.fc]) := HB3.out.kept q35
  have c0 := HB5.out.cell 0 _ rfl
  have c1 := HB5.out.cell 1 _ rfl
  have c2 := HB5.out.cell 2 _ rfl
  obtain ⟨W6, hW6⟩ : ∃ W6, W5.alloc (.cells #[.int .i64 (-1)] 3) = W6 := ⟨_, rfl⟩
  have q6 := bel_nw hW6
  have b6 := bel_tr b5 q6
  have hr1 : RowI W6 (some ⟨W5.heap.size, 0, none⟩) [-1] := ⟨by simp, fun _ => ⟨_, _, rfl, fun i hi => by
    have : i = 0 := by simp at hi; omega
    subst this
    exact (blk_nw hW6).cell 0 _ rfl⟩⟩
  have hr2 : RowI W6 t.fa [-1] := by
    have := (HOK.out.low (bel_tr q3 (bel_tr q35 q6))).f
    rw [HALL.out.2.2.1] at this
    exact this
  have KS : Hid (Calls Tryd.prog 20 #[.slice t.fa 1 t.fc, .slice (some ⟨W5.heap.size, 0, none⟩) 1 1] W6 fun e w' => e = .returned (.bool true) ∧ Below W6.heap.size W6 w') := by
    refine (sameI_any t.fa (some ⟨W5.heap.size, 0, none⟩) t.fc 1 [-1] [-1] W6 hr2 hr1).mono ?_
    rintro e w' ⟨rfl, n, rfl⟩
    exact ⟨by simp, below_drewN (Below.refl _ _) n⟩
  clear K2' hr1 hr2
  go_wp2_with fail
  refine Calls.mono KS.out ?_
  rintro e W7 ⟨rfl, q7⟩
  have b7 := bel_tr b6 q7
  have HB7 : Hid (Blk W7 W2.heap.size 27 #[.slice t.da 7 t.dc, .slice t.xa 6 t.xc, .slice t.fa 1 t.fc]) := HB5.out.kept (bel_tr q6 q7)
  have at7 := HB7.out.at_
  have hst : (Tryd.prog.info? 27).map (·.size) = some 3 := by kernel_rfl
  have KO : Hid (Calls Tryd.prog 13 #[.agg #[.slice t.da 7 t.dc, .slice t.xa 6 t.xc, .slice t.fa 1 t.fc]] W7 fun e w' => e = .returned (.int .i64 13) ∧ Below W7.heap.size W7 w') := by
    have hok7 := HOK.out.low (bel_tr q3 (bel_tr q35 (bel_tr q6 q7)))
    have := cost_any t.da t.xa t.fa t.dc t.xc t.fc 1 t.D t.X W7 hok7.dn hok7.xn hok7.d hok7.x
    rw [HALL.out.1, HALL.out.2.1, HALL.out.2.2.2] at this
    exact this
  clear KS c0 c1 c2 q7 q6 q35 q3
  go_wp2_with (first | (refine wpList_load_at_w (by rfl) _ _ rfl W2.heap.size 0 (by rfl) _ at7 Tryd.underlying27 hst ?_))
  refine Calls.mono KO.out ?_
  rintro e W8 ⟨rfl, q8⟩
  have b8 := bel_tr b7 q8
  go_wp2
  go_ret
  exact ⟨rfl, b8⟩
end Go.Proofs.YtcoldgpnkdallaaDoor
