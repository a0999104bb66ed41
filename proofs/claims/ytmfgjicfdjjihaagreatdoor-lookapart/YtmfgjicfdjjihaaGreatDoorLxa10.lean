/- Texts joined: FrM CkG FrN CkH FrO FrT BlkZ -/
import Derived.Test.YtmfgjicfdjjihaaGreatDoorLxa9
import Derived.Deep.AppendLies
import Derived.Deep.WholeRow
import Derived.Deep.QuietTactic
import Derived.BigQuiet
namespace Go.Proofs.YtmfgjicfdjjihaaGreatDoor
open Go.RowKit
set_option linter.unusedVariables false
set_option linter.unusedSimpArgs false
theorem info_int : (Tryz.prog.info? 3).map (fun i => (i.zero, i.size, i.bytes)) = some (some (.int .i64 0), 1, 8) := by kernel_rfl
/-- A slice of ints, as it is read. -/
structure RowI (w : World) (a : Option Addr) (l : List Int) : Prop where
 small : l.length ≤ 17592186044416
 cells : 0 < l.length → ∃ b off, a = some ⟨b, off, none⟩ ∧ ∀ i, i < l.length → w.cell? ⟨b, off + i, none⟩ = some (.int .i64 (l.getD i 0))
theorem RowI.below {w w' : World} {a : Option Addr} {l : List Int} (h : RowI w a l) (hb : Below w.heap.size w w') : RowI w' a l :=
 ⟨h.small, fun hl => by
  obtain ⟨b, off, ha, hc⟩ := h.cells hl
  exact ⟨b, off, ha, fun i hi => (hb.cell (World.block_lt_of_cell? w _ (hc i hi))).trans (hc i hi)⟩⟩
theorem RowI.drewN {w : World} {a : Option Addr} {l : List Int} (h : RowI w a l) (n : Nat) : RowI (w.drewN n) a l := h.below (below_drewN (Below.refl _ _) n)
/-- A slice of places that the call itself made. -/
def OwnI (w : World) (B : Nat) (a : Option Addr) (c : Nat) (l : List Nat) : Prop := w.ownsRow B 3 1 (.slice a l.length c) l.length (l.map fun i : Nat => Value.int .i64 i)
theorem OwnI.nil (w : World) (B : Nat) : OwnI w B none 0 [] := World.ownsRow_nil _ _ _ _
theorem OwnI.below {w w' : World} {B : Nat} {a : Option Addr} {c : Nat} {l : List Nat} (h : OwnI w B a c l) (hb : Below w.heap.size w w') : OwnI w' B a c l := by
 obtain ⟨h1, h2⟩ := h
 refine ⟨h1, ?_⟩
 rcases h2 with h2 | ⟨g, cap, cur, h3, h4, h5, h6⟩
 ·exact .inl h2
 ·refine .inr ⟨g, cap, cur, h3, h4, (hb.block g ?_).trans h5, h6⟩
  exact (Array.getElem?_eq_some_iff.1 h5).1
theorem OwnI.row {w : World} {B : Nat} {a : Option Addr} {c : Nat} {l : List Nat} (h : OwnI w B a c l) (hs : l.length ≤ 17592186044416) : RowI w a (l.map fun i : Nat => (i : Int)) := by
 refine ⟨by simpa using hs, fun hp => ?_⟩
 simp only [List.length_map] at hp
 have h0 := h
 obtain ⟨h1, h2⟩ := h
 rcases h2 with ⟨h3, h4⟩ | ⟨g, cap, cur, h3, h4, h5, h6, h7, h8, h9⟩
 ·omega
 ·simp only [Value.slice.injEq] at h3
  obtain ⟨rfl, _, rfl⟩ := h3
  refine ⟨g, 0, rfl, fun i hi => ?_⟩
  simp only [List.length_map] at hi
  have hc := World.ownsRow.cellAt (e := 3) (size := 1) h0 i (by omega)
  rw [Nat.zero_add, hc]
  simp [hi]
/-- What an append to another slice of one's own leaves. -/
theorem OwnI.far {w w' : World} {B : Nat} {a : Option Addr} {c : Nat} {l : List Nat} {x : Option Nat} (h : OwnI w B a c l) (hg : w.grownBy w' x) (hx : ∀ y, a = some y → x ≠ some y.block) : OwnI w' B a c l := by
 obtain ⟨h1, h2⟩ := h
 refine ⟨h1, ?_⟩
 rcases h2 with h2 | ⟨g, cap, cur, h3, h4, h5, h6⟩
 ·exact .inl h2
 ·refine .inr ⟨g, cap, cur, h3, h4, ?_, h6⟩
  simp only [Value.slice.injEq] at h3
  rw [hg.block g (Array.getElem?_eq_some_iff.1 h5).1 (fun e => hx _ h3.1 e.symm)]
  exact h5
theorem OwnI.lt {w : World} {B : Nat} {a : Option Addr} {c : Nat} {l : List Nat} (h : OwnI w B a c l) : ∀ y, a = some y → B ≤ y.block ∧ y.block < w.heap.size ∧ y.off = 0 ∧ y.spot = none := by
 intro y hy
 obtain ⟨h1, h2⟩ := h
 rcases h2 with ⟨h2, _⟩ | ⟨g, cap, cur, h3, h4, h5, h6⟩
 ·simp only [Value.slice.injEq] at h2
  rw [h2.1] at hy
  cases hy
 ·simp only [Value.slice.injEq] at h3
  rw [h3.1] at hy
  cases hy
  exact ⟨h4, (Array.getElem?_eq_some_iff.1 h5).1, rfl, rfl⟩
/-- append(v, x) of one place, which lies in a new block. -/
theorem wpList_appI {ops : Array Oper} {rest : List Oper} {o : Oper} {ac : Act} {Q : Exit → Act → World → Prop} (w : World) (hgd : o.guard = none) (s x : Operand)
  (ho : o.op = .call { callee := .builtin .append, args := #[s, x], argTypes := #[24, 24] })
  (B : Nat) (a : Option Addr) (c : Nat) (xs : List Nat) (hs : ac.eval s = .slice a xs.length c) (hown : OwnI w B a c xs)
  (ad : Addr) (cc : Nat) (y : Nat) (hx : ac.eval x = .slice (some ad) 1 cc) (hc : w.cell? ad = some (.int .i64 y))
  (hsum : xs.length + 1 ≤ 8796093022208) (hbase : B ≤ w.heap.size)
  (h : ∀ g c' w', OwnI w' B (some ⟨g, 0, none⟩) c' (xs ++ [y]) → Below B w w' → w.grownBy w' (a.map (·.block)) → (a.map (·.block) = some g ∨ g = w.heap.size) → g < w'.heap.size → wpList Tryz.prog ops Q rest (ac.put o.dst (.slice (some ⟨g, 0, none⟩) (xs.length + 1) c')) w') : wpList Tryz.prog ops Q (o :: rest) ac w := by
 obtain ⟨i0, hi, hz0, hz1, hz2⟩ := info_parts info_int
 refine wpList_append_lies w hgd s x 24 ho B 3 i0 (.int .i64 0) 1 8 Tryz.underlying24 hi hz0 hz1 hz2 rfl (by decide) (.slice a xs.length c) xs.length (xs.map fun i : Nat => Value.int .i64 i) hs hown ad 1 cc [Value.int .i64 y] hx (by simp) ?_ (by intro u hu; simp at hu; rw [hu]; rfl) (by decide) (by unfold maxLen; omega) (by omega) hbase _ rfl ?_
 ·intro j u hj
  have hjl : j = 0 := by
   have := (List.getElem?_eq_some_iff.1 hj).1
   simp at this; omega
  subst hjl
  have e1 : Addr.add ad 0 = ad := by cases ad; rfl
  rw [e1, hc]
  simpa using hj
 ·intro g cap w' h1 h2 h3 h4
  have hb : (Value.slice a xs.length c).ownBlock = a.map (·.block) := by
   cases a with
   | none => rfl
   | some ad' => cases ad'; rfl
  rw [hb] at h2 h3
  refine h g cap w' ?_ ((Below.refl _ _).grown h2 hbase fun k hk => ?_) h2 h3 h4
  ·show w'.ownsRow B 3 1 _ (xs ++ [y]).length ((xs ++ [y]).map fun i : Nat => Value.int .i64 i)
   rw [List.length_append, List.map_append]
   exact h1
  ·cases a with
   | none => cases hk
   | some ad' =>
    simp only [Option.map_some, Option.some.injEq] at hk
    rw [← hk]
    exact (OwnI.lt hown ad' rfl).1
theorem below_grow {B : Nat} {w W : World} (h : Below B w W) (hB : B ≤ W.heap.size) (os : Array Obj) : Below B w (Sort.grow W os) :=
 h.trans ⟨rfl, rfl, rfl, by simp [Sort.grow], fun i hi => by
  simp only [Sort.grow]
  exact Array.getElem?_append_left (by omega)⟩
theorem order_b (p q : Pt) (w : World) : Calls Tryz.prog 50 #[.agg p.v, .agg q.v] w fun e w' => e = .returned (.int .i64 (ordP p q)) ∧ Below w.heap.size w w' :=
 (order_any p q w).mono fun e w' h => ⟨h.1, by obtain ⟨_, n, os, rfl⟩ := h; exact below_grow (below_drewN (Below.refl _ _) n) (Nat.le_refl _) os⟩
/-- Does a piece hold a point? -/
def holdB (p q x : Pt) : Bool := decide (ordP p x ≤ 0) && decide (ordP x q ≤ 0)
set_option maxRecDepth 100000 in
set_option maxHeartbeats 4000000 in
theorem holds_pc (p q x : Pt) (w : World) : Calls Tryz.prog 96 #[.agg (pcv p q), .agg x.v] w fun e w' => e = .returned (.bool (holdB p q x)) ∧ Below w.heap.size w w' := by
 have K1 := hidW (fun W => order_b p x W)
 have K2 := hidW (fun W => order_b x q W)
 unfold holdB
 generalize ordP p x = n1 at *
 generalize ordP x q = n2 at *
 obtain ⟨W1, hW1⟩ : ∃ W1, w.alloc (.cells (pcv p q) 121) = W1 := ⟨_, rfl⟩
 obtain ⟨W2, hW2⟩ : ∃ W2, W1.alloc (.cells x.v 86) = W2 := ⟨_, rfl⟩
 have b1 := bel_nw hW1
 have b2 := bel_al b1 hW2
 have B1 := (blk_nw hW1).al hW2
 have B2 := blk_nw hW2
 have c0 := B1.cell 0 (.int .u64 p.a) rfl
 have c1 := B1.cell 1 (.int .u64 p.b) rfl
 have c2 := B1.cell 2 (.int .u64 p.c) rfl
 have d0 := B2.cell 0 (.int .u64 x.a) rfl
 have d1 := B2.cell 1 (.int .u64 x.b) rfl
 have d2 := B2.cell 2 (.int .u64 x.c) rfl
 clear b1
 go_enter Tryz.func96, Tryz.ntmps96
 go_wp2_with fail
 refine (K1.out _).mono ?_
 rintro e W3 ⟨rfl, bb⟩
 have B13 := B1.kept bb
 have B23 := B2.kept bb
 have b3 := bel_tr b2 bb
 clear c0 c1 c2 d0 d1 d2 B1 B2 bb b2 hW1 hW2 K1
 by_cases h : n1 ≤ 0
 ·have c3 := B13.cell 3 (.int .u64 q.a) rfl
  have c4 := B13.cell 4 (.int .u64 q.b) rfl
  have c5 := B13.cell 5 (.int .u64 q.c) rfl
  have d0 := B23.cell 0 (.int .u64 x.a) rfl
  have d1 := B23.cell 1 (.int .u64 x.b) rfl
  have d2 := B23.cell 2 (.int .u64 x.c) rfl
  go_wp2_with fail
  refine (K2.out _).mono ?_
  rintro e W4 ⟨rfl, bb⟩
  have b4 := bel_tr b3 bb
  clear c3 c4 c5 d0 d1 d2 B13 B23 bb b3 K2
  by_cases h' : n2 ≤ 0
  all_goals (go_wp2; go_ret; exact ⟨by simp [h, h'], b4⟩)
 ·go_wp2
  go_ret
  exact ⟨by (have : decide (n1 ≤ 0) = false := by (simp; omega)); rw [this]; rfl, b3⟩
theorem wpList_store_new {ops : Array Oper} {rest : List Oper} {o : Oper} {ac : Act} {Q : Exit → Act → World → Prop} (w w' : World) (hgd : o.guard = none) (t : TypeId) (p x : Operand) (ho : o.op = Op.store t p x)
  (v1 v2 : Value) (hp : ac.eval p = v1) (hx : ac.eval x = v2) (hrun : (Instr.storeAt t v1 v2).run Tryz.prog w = .ok () w') (h : wpList Tryz.prog ops Q rest (ac.put o.dst undef) w') : wpList Tryz.prog ops Q (o :: rest) ac w := by
 refine wpList_plain hgd fun K hK => ?_
 unfold Oper.wp
 subst hp
 subst hx
 simp [execOp, ho, hrun, Result.andThen]
 exact hK _ _ h
abbrev z17 : Array Value := #[.int .i64 0, .int .i64 0, .int .i64 0, .int .u64 0, .int .u64 0, .int .i64 0, .int .i64 0, .int .u64 0, .int .u64 0, .int .i64 0, .int .i64 0, .int .i64 0, .int .i64 0, .int .i64 0, .int .i64 0, .int .i64 0, .int .i64 0]
theorem store_rl (w : World) (r : Rl) : (Instr.storeAt 82 (.pointer (some ⟨w.heap.size, 0, none⟩)) (.agg r.v)).run Tryz.prog (w.alloc (.cells z17 82)) = .ok () (w.alloc (.cells r.v 82)) :=
 run_storeAt_new (P := Tryz.prog) w 82 z17 r.v (by kernel_rfl) rfl (by kernel_rfl)
/-- A slice of pieces. -/
abbrev pqv (q : Pt × Pt) : Array Value := pcv q.1 q.2
abbrev RowC (w : World) (a : Option Addr) (l : List (Pt × Pt)) : Prop := RowN 6 pqv (fun _ q => q.1.ok ∧ q.2.ok) w a l
theorem RowC.low {w w' : World} {a : Option Addr} {l : List (Pt × Pt)} (h : RowC w a l) (hb : Below w.heap.size w w') : RowC w' a l := RowN.below (fun h _ => h) h hb
theorem OwnI.base {w : World} {B B' : Nat} {a : Option Addr} {c : Nat} {l : List Nat} (h : OwnI w B a c l) (hb : B' ≤ B) : OwnI w B' a c l :=
 ⟨h.1, h.2.imp id fun ⟨g, cap, cur, h1, h2, h3⟩ => ⟨g, cap, cur, h1, Nat.le_trans hb h2, h3⟩⟩
def hsN (l : List (Pt × Pt)) (x : Pt) (n : Nat) : List Nat := (List.range n).filter fun i => (l[i]?.map fun q => holdB q.1 q.2 x).getD false
def hset (l : List (Pt × Pt)) (x : Pt) : List Nat := hsN l x l.length
theorem hsN_len (l : List (Pt × Pt)) (x : Pt) (n : Nat) : (hsN l x n).length ≤ n := by
 have := List.length_filter_le (fun i => (l[i]?.map fun q => holdB q.1 q.2 x).getD false) (List.range n)
 simpa [hsN] using this
theorem hsN_succ (l : List (Pt × Pt)) (x : Pt) {n : Nat} {q : Pt × Pt} (hq : l[n]? = some q) : hsN l x (n + 1) = if holdB q.1 q.2 x then hsN l x n ++ [n] else hsN l x n := by
 unfold hsN
 rw [List.range_succ, List.filter_append]
 cases h : holdB q.1 q.2 x <;> simp [hq, h]
set_option maxRecDepth 100000 in
set_option maxHeartbeats 8000000 in
theorem holders_any (a : Option Addr) (c : Nat) (l : List (Pt × Pt)) (x : Pt) (w : World) (hl : l.length ≤ 1048576) (hrow : RowC w a l) :
  Calls Tryz.prog 63 #[.slice a l.length c, .agg x.v] w fun e w' => ∃ a' c', e = .returned (.slice a' (hset l x).length c') ∧ OwnI w' w.heap.size a' c' (hset l x) ∧ Below w.heap.size w w' := by
 have KH : Hid (∀ (q : Pt × Pt) W, Calls Tryz.prog 96 #[.agg (pqv q), .agg x.v] W fun e w' => e = .returned (.bool (holdB q.1 q.2 x)) ∧ Below W.heap.size W w') := fun q W => holds_pc q.1 q.2 x W
 have HST : Hid (∀ W : World, ∀ q : Pt × Pt, (Instr.storeAt 121 (.pointer (some ⟨W.heap.size, 0, none⟩)) (.agg (pqv q))).run Tryz.prog (W.alloc (.cells z6 121)) = .ok () (W.alloc (.cells (pqv q) 121))) := fun W q => run_storeAt_new (P := Tryz.prog) W 121 z6 (pqv q) (by kernel_rfl) rfl (by kernel_rfl)
 have hsz : Hid (∀ q : Pt × Pt, (Tryz.prog.info? 121).map (·.size) = some (pqv q).size) := fun q => by kernel_rfl
 obtain ⟨N, hN⟩ : ∃ N, l.length = N := ⟨_, rfl⟩
 have HN : Hid (l.length = N) := hN
 have HRow : Hid (RowC w a l) := hrow
 obtain ⟨KL, hKL'⟩ : ∃ KL, hset l x = KL := ⟨_, rfl⟩
 have HKL : Hid (hsN l x N = KL) := by show _ = _; rw [← hKL']; unfold hset; rw [hN]
 rw [hKL']
 rw [hN] at hl ⊢
 clear hN hrow hKL'
 obtain ⟨W1, hW1⟩ : ∃ W1, w.alloc (.cells x.v 86) = W1 := ⟨_, rfl⟩
 have bel : Below w.heap.size w W1 := bel_nw hW1
 have BX := blk_nw hW1
 have HB : Hid (w.heap.size ≤ W1.heap.size) := Nat.le_of_lt BX.lt
 go_enter Tryz.func63, Tryz.ntmps63
 go_wp2_with fail
 clear hW1
 go_loopw [5, 10] (fun k5 i wr => ∃ (n : Nat) (ka : Option Addr) (kc : Nat), n ≤ N ∧ i = .int .i64 n ∧ k5 = .slice ka (hsN l x n).length kc ∧ Hid (OwnI wr W1.heap.size ka kc (hsN l x n)) ∧ Below W1.heap.size W1 wr) (fun _ i _ => N - (intOf i).toNat)
 case atStart => exact ⟨0, none, 0, Nat.zero_le _, rfl, rfl, OwnI.nil _ _, Below.refl _ _⟩
 case round =>
  obtain ⟨n, ka, kc, hn, rfl, rfl, HK, bw⟩ := hrel
  have hkl := hsN_len l x n
  obtain ⟨xs, hxs⟩ : ∃ xs, hsN l x n = xs := ⟨_, rfl⟩
  have HXS : Hid (hsN l x n = xs) := hxs
  rw [hxs] at HK hkl ⊢
  clear hxs
  by_cases hlt : n < N
  ·have ik : (n : Int) < (N : Int) := by omega
   have in0 : (0 : Int) ≤ (n : Int) := by omega
   obtain ⟨q, hq⟩ : ∃ q, l[n]? = some q := ⟨_, List.getElem?_eq_getElem (by rw [HN.out]; exact hlt)⟩
   have HQ : Hid (l[n]? = some q) := hq
   have HRW : Hid (RowC wr a l) := (HRow.out.low bel).low bw
   obtain ⟨b, off, ha, hc⟩ := HRW.out.cells n q hq
   have hs1 := hsz.out q
   have hst := HST.out wr q
   have KH' : Hid _ := KH.out q
   have BXw := BX.kept bw
   clear hq
   subst ha
   have hw1 : IntKind.i64.wrap ((n : Int) + 1) = ((n + 1 : Nat) : Int) := by simp [IntKind.wrap, IntKind.bits, IntKind.signed]; omega
   obtain ⟨H, hH⟩ : ∃ H, holdB q.1 q.2 x = H := ⟨_, rfl⟩
   have HH : Hid (holdB q.1 q.2 x = H) := hH
   rw [hH] at KH'
   clear hH
   generalize hRA : pqv q = RA at hs1 hc hst KH'
   clear hRA
   have hB := blk_new wr RA 121
   have BX2 := BXw.alloc (.cells RA 121)
   have x0 := BX2.cell 0 (.int .u64 x.a) rfl
   have x1 := BX2.cell 1 (.int .u64 x.b) rfl
   have x2 := BX2.cell 2 (.int .u64 x.c) rfl
   go_wp2_with (first
    | (refine wpList_load_at rfl _ _ rfl b (off + n * 6) (by rfl) _ hc Tryz.underlying121 hs1 ?_)
    | (refine wpList_store_new _ _ rfl _ _ _ rfl _ _ rfl rfl hst ?_)
    | (refine wpList_load_at rfl _ _ rfl _ 0 (by rfl) _ hB.at_ Tryz.underlying121 hs1 ?_))
   refine (KH'.out _).mono ?_
   rintro e W3 ⟨rfl, bb⟩
   have b3 : Below wr.heap.size wr W3 := bel_tr (bel_nw rfl) bb
   have bw3 := bel_tr bw b3
   have HK3 : Hid (OwnI W3 W1.heap.size ka kc xs) := HK.out.below b3
   clear hB BX2 x0 x1 x2 bb hc hst KH' BXw HK
   cases H
   ·go_wp2
    refine ⟨⟨n + 1, ka, kc, by omega, by first | rfl | (congr 1), ?_, ?_, bw3⟩, by simp only [intOf]; omega⟩
    ·rw [hsN_succ l x HQ.out, HH.out, HXS.out]; rfl
    ·rw [hsN_succ l x HQ.out, HH.out, HXS.out]; exact HK3
   ·have hk5 : OwnI (W3.alloc (.cells #[.int .i64 n] 3)) W1.heap.size ka kc xs := HK3.out.below (bel_nw rfl)
    have hcell : (W3.alloc (.cells #[.int .i64 n] 3)).cell? ⟨W3.heap.size, 0, none⟩ = some (.int .i64 n) := (blk_new W3 _ _).cell 0 _ rfl
    have hbase : W1.heap.size ≤ (W3.alloc (.cells #[.int .i64 n] 3)).heap.size := by
     have := bw3.size
     rw [World.size_alloc]
     omega
    go_wp2_with (at_builtin; refine wpList_appI _ rfl _ _ rfl W1.heap.size ka kc xs rfl hk5 ⟨W3.heap.size, 0, none⟩ 1 n rfl hcell (by omega) hbase ?_)
    intro g c' W6 ok6 b6 gr6 at6 lt6
    have bw6 : Below W1.heap.size W1 W6 := (bw3.alloc bw3.size _).trans b6
    have HK6 : Hid (OwnI W6 W1.heap.size (some ⟨g, 0, none⟩) c' (xs ++ [n])) := ok6
    clear ok6 b6 gr6 at6 lt6 hk5 hcell hbase
    go_wp2
    refine ⟨⟨n + 1, some ⟨g, 0, none⟩, c', by omega, by first | rfl | (congr 1), ?_, ?_, bw6⟩, by simp only [intOf]; omega⟩
    ·rw [hsN_succ l x HQ.out, HH.out, HXS.out]; simp
    ·rw [hsN_succ l x HQ.out, HH.out, HXS.out]; exact HK6
  ·have hnN : n = N := by omega
   subst hnN
   have ex : xs = KL := by rw [← HXS.out]; exact HKL.out
   subst ex
   have HO : Hid (OwnI wr w.heap.size ka kc xs) := HK.out.base HB.out
   go_wp2
   go_ret
   exact ⟨ka, kc, rfl, HO.out, bel_tr bel bw⟩
theorem drewN_add (w : World) (m k : Nat) : (w.drewN m).drewN k = w.drewN (m + k) := by
 simp [World.drewN, Nat.add_assoc]
set_option maxHeartbeats 1000000 in
theorem sameI_any (a a' : Option Addr) (c c' : Nat) (l l' : List Int) (w : World) (h : RowI w a l) (h' : RowI w a' l') :
  Calls Tryz.prog 76 #[.slice a l.length c, .slice a' l'.length c'] w fun e w' => e = .returned (.bool (decide (l = l'))) ∧ ∃ n, w' = w.drewN n := by
 have hs := h.small
 by_cases hl : l.length = l'.length
 ·obtain ⟨T, hT⟩ : ∃ T, decide (l = l') = T := ⟨_, rfl⟩
  rw [hT]
  have HT : Hid (decide (l = l') = T) := hT
  have HL : Hid (l.length = l'.length) := hl
  rw [← hl]
  obtain ⟨N, hN⟩ : ∃ N, l.length = N := ⟨_, rfl⟩
  have HN : Hid (l.length = N) := hN
  rw [hN] at hs ⊢
  clear hT hl hN
  go_enter Tryz.func76, Tryz.ntmps76
  go_wp2
  go_loopw [5] (fun i w' => ∃ (k m : Nat), k ≤ N ∧ i = .int .i64 k ∧ w' = w.drewN m ∧ Hid (l.take k = l'.take k)) (fun i _ => N - (intOf i).toNat)
  case atStart => exact ⟨0, 0, Nat.zero_le _, rfl, rfl, by show l.take 0 = l'.take 0; simp⟩
  case round =>
   obtain ⟨k, m, hk, rfl, rfl, ho⟩ := hrel
   by_cases hlt : k < N
   ·obtain ⟨b, off, rfl, hcl⟩ := (h.drewN m).cells (by have := HN.out; omega)
    obtain ⟨b', off', rfl, hcl'⟩ := (h'.drewN m).cells (by have := HN.out; have := HL.out; omega)
    have c0 := hcl k (by have := HN.out; omega)
    have c1 := hcl' k (by have := HN.out; have := HL.out; omega)
    have hlk : (k : Int) < (N : Int) := by omega
    have hst : Hid ((l.take (k + 1) = l'.take (k + 1)) ↔ l.getD k 0 = l'.getD k 0) := by
     show _ ↔ _
     have e1 : l.take (k + 1) = l.take k ++ [l.getD k 0] := by rw [List.take_succ_eq_append_getElem (by have := HN.out; omega)]; simp [show k < l.length by have := HN.out; omega]
     have e2 : l'.take (k + 1) = l'.take k ++ [l'.getD k 0] := by rw [List.take_succ_eq_append_getElem (by have := HN.out; have := HL.out; omega)]; simp [show k < l'.length by have := HN.out; have := HL.out; omega]
     rw [e1, e2, ho.out]
     simp
    obtain ⟨W, hW⟩ : ∃ W, w.drewN m = W := ⟨_, rfl⟩
    rw [hW] at c0 c1 ⊢
    have HW : Hid (w.drewN m = W) := hW
    clear hcl hcl' h h' hW
    generalize l.getD k 0 = x at *
    generalize l'.getD k 0 = y at *
    by_cases hxy : x = y
    ·have hxy' : (x != y) = false := by simpa using hxy
     go_wp2
     go_quiet (fail)
     go_wp2
     exact ⟨⟨k + 1, m + nq, by omega, int_eq (by omega), by rw [← HW.out]; exact drewN_add w m nq, hst.out.2 hxy⟩, by simp [intOf]; omega⟩
    ·have hxy' : (x != y) = true := by simpa using hxy
     have ET : Hid (false = T) := by
      show false = T
      rw [← HT.out]
      symm
      simp only [decide_eq_false_iff_not]
      intro e
      exact hxy (hst.out.1 (by rw [e]))
     go_wp2
     go_quiet (fail)
     go_wp2
     go_ret
     exact ⟨by rw [← ET.out]; rfl, m + nq, by rw [← HW.out]; exact drewN_add w m nq⟩
   ·have hlt' : ¬ (k : Int) < (N : Int) := by omega
    have ET : Hid (true = T) := by
     show true = T
     rw [← HT.out]
     symm
     simp only [decide_eq_true_eq]
     have := ho.out
     rwa [List.take_of_length_le (by have := HN.out; omega), List.take_of_length_le (by have := HN.out; have := HL.out; omega)] at this
    go_wp2
    go_ret
    exact ⟨by rw [← ET.out]; rfl, m, rfl⟩
 ·have e : decide (l = l') = false := by simp; intro e; exact hl (by rw [e])
  rw [e]
  have hl' : ((l.length : Int) != (l'.length : Int)) = true := by simp; omega
  clear e
  go_enter Tryz.func76, Tryz.ntmps76
  go_wp2
  go_ret
  exact ⟨rfl, 0, rfl⟩
theorem fl_len {α : Type} (f : α → List Value) (n : Nat) (hf : ∀ a, (f a).length = n) : ∀ L : List α, (L.flatMap f).length = L.length * n
 | [] => by simp
 | a :: r => by simp only [List.flatMap_cons, List.length_append, hf, fl_len f n hf r, List.length_cons, Nat.add_mul]; omega
theorem fl_get {α : Type} (f : α → List Value) (n : Nat) (hf : ∀ a, (f a).length = n) : ∀ (L : List α) (i j : Nat) (q : α), L[i]? = some q → j < n → (L.flatMap f)[i * n + j]? = (f q)[j]?
 | [], i, j, q, h, _ => by simp at h
 | a :: r, 0, j, q, h, hj => by
  obtain rfl : a = q := by simpa using h
  rw [List.flatMap_cons, Nat.zero_mul, Nat.zero_add, List.getElem?_append_left (by rw [hf]; exact hj)]
 | a :: r, i + 1, j, q, h, hj => by
  rw [List.flatMap_cons, List.getElem?_append_right (by rw [hf, Nat.add_mul]; omega), hf]
  have : (i + 1) * n + j - n = i * n + j := by rw [Nat.add_mul]; omega
  rw [this]
  exact fl_get f n hf r i j q (by simpa using h) hj
abbrev pc17 (L : List Rl) : List Value := L.flatMap fun q => q.v.toList
theorem rlv_len (q : Rl) : q.v.toList.length = 17 := rfl
/-- A slice of rules of one's own. -/
def OwnR (w : World) (B : Nat) (a : Option Addr) (c : Nat) (L : List Rl) : Prop := w.ownsRow B 82 17 (.slice a L.length c) L.length (pc17 L)
theorem OwnR.nil (w : World) (B : Nat) : OwnR w B none 0 [] := World.ownsRow_nil _ _ _ _
theorem OwnR.below {w w' : World} {B : Nat} {a : Option Addr} {c : Nat} {l : List Rl} (h : OwnR w B a c l) (hb : Below w.heap.size w w') : OwnR w' B a c l := by
 obtain ⟨h1, h2⟩ := h
 refine ⟨h1, ?_⟩
 rcases h2 with h2 | ⟨g, cap, cur, h3, h4, h5, h6⟩
 ·exact .inl h2
 ·refine .inr ⟨g, cap, cur, h3, h4, (hb.block g ?_).trans h5, h6⟩
  exact (Array.getElem?_eq_some_iff.1 h5).1
theorem OwnR.row {w : World} {B : Nat} {a : Option Addr} {c : Nat} {l : List Rl} (h : OwnR w B a c l) (hl : ∀ r ∈ l, r.ok) : RowR w a l := by
 refine ⟨hl, fun i q hi => ?_⟩
 have hlt : i < l.length := (List.getElem?_eq_some_iff.1 hi).1
 obtain ⟨h1, h2⟩ := h
 rcases h2 with ⟨h3, h4⟩ | ⟨g, cap, cur, h3, h4, h5, h6, h7, h8, h9⟩
 ·omega
 ·simp only [Value.slice.injEq] at h3
  obtain ⟨rfl, _, rfl⟩ := h3
  have B : Blk w g 82 cur := h5
  refine ⟨g, 0, rfl, B.lt, fun j v hj => B.cell _ v ?_⟩
  have hj' : j < 17 := (Array.getElem?_eq_some_iff.1 hj).1
  have h10 := fl_get (fun q : Rl => q.v.toList) 17 rlv_len l i j q hi hj'
  have h11 : (cur.toList.take (l.length * 17))[i * 17 + j]? = q.v.toList[j]? := by rw [h9]; exact h10
  rw [List.getElem?_take_of_lt (by omega)] at h11
  rw [Array.getElem?_toList] at h11
  rw [Nat.zero_add, h11]
  simpa using hj
theorem OwnR.lt {w : World} {B : Nat} {a : Option Addr} {c : Nat} {l : List Rl} (h : OwnR w B a c l) : ∀ y, a = some y → B ≤ y.block := by
 intro y hy
 obtain ⟨h1, h2⟩ := h
 rcases h2 with ⟨h2, _⟩ | ⟨g, cap, cur, h3, h4, h5, h6⟩
 ·simp only [Value.slice.injEq] at h2
  rw [h2.1] at hy
  cases hy
 ·simp only [Value.slice.injEq] at h3
  rw [h3.1] at hy
  cases hy
  exact h4
/-- Cells put one behind the other. -/
def setMany (cur : Array Value) (j : Nat) : List Value → Array Value
 | [] => cur
 | v :: vs => setMany (cur.setIfInBounds j v) (j + 1) vs
theorem setRow_self {W : World} {g : Nat} {t : TypeId} {cs : Array Value} (h : Blk W g t cs) : W.setRow g cs = W := by
 have hlt : g < W.heap.size := h.lt
 have hv : W.heap[g] = .cells cs t (0, 0) := (Array.getElem?_eq_some_iff.1 h).2
 unfold World.setRow
 cases W with
 | mk heap tape drawn os output =>
  congr 1
  apply Array.ext
  ·simp
  ·intro k h1 h2
   simp only [Array.getElem_modify]
   split
   ·rename_i hk; subst hk; simp at hv; simp [hv]
   ·rfl
theorem run_storeCells_off (g k : Nat) (t : TypeId) : ∀ (vs : List Value) (i : Nat) (cur : Array Value) (w : World), Blk w g t cur → k + i + vs.length ≤ cur.size → (∀ v ∈ vs, v.oneCell' = true) →
  (storeCells ⟨g, k, none⟩ vs i).run Tryz.prog w = .ok () (w.setRow g (setMany cur (k + i) vs))
 | [], i, cur, w, hg, hl, _ => by
  simp only [storeCells, setMany]
  rw [setRow_self hg]
  rfl
 | v :: rest, i, cur, w, hg, hl, h1 => by
  have hi : k + i < cur.size := by simp at hl; omega
  have hadd : (⟨g, k, none⟩ : Addr).add i = ⟨g, k + i, none⟩ := Go.WideShapes.add_plain ..
  have hcell : w.cell? ⟨g, k + i, none⟩ = some cur[k + i] := hg.cell (k + i) _ (by simp [hi])
  have hfro : w.frozen? ⟨g, k + i, none⟩ = false := hg.frozen _
  have hst : (store ((⟨g, k, none⟩ : Addr).add i) v).run Tryz.prog w = .ok () (w.setRow g (cur.setIfInBounds (k + i) v)) := by
   rw [hadd, run_store Tryz.prog w _ v _ (h1 v (by simp)), hcell]
   simp [hfro, setCell_eq_setRow w g (k + i) cur t (0, 0) v hg]
  have ih := run_storeCells_off g k t rest (i + 1) (cur.setIfInBounds (k + i) v) (w.setRow g (cur.setIfInBounds (k + i) v)) (hg.set _) (by simp at hl ⊢; omega) (fun x hx => h1 x (by simp [hx]))
  simp only [storeCells, Sem.run_bind, hst, Result.andThen_ok, ih, setRow_setRow, setMany]
  rfl
theorem run_storeVar_off {W : World} {g k : Nat} {t ty : TypeId} {cur cells : Array Value} (h : Blk W g t cur) (hi : (Tryz.prog.info? ty).map (·.size) = some cells.size) (hl : k + cells.size ≤ cur.size) (h1 : cells.all (·.oneCell') = true) :
  (storeVar ty ⟨g, k, none⟩ (.agg cells)).run Tryz.prog W = .ok () (W.setRow g (setMany cur k cells.toList)) := by
 have := run_storeCells_off g k t cells.toList 0 cur W h (by simp; omega) (fun v hv => (Array.all_eq_true_iff_forall_mem.1 h1) v (by simpa using hv))
 cases hq : Tryz.prog.info? ty with
 | none => simp [hq] at hi
 | some i =>
  have hs : cells.size = i.size := by simp [hq] at hi; omega
  simp [storeVar, sizeOf, typeInfo, hq, Value.cells, hs, this]
theorem wpList_store_off {ops : Array Oper} {rest : List Oper} {o : Oper} {ac : Act} {Q : Exit → Act → World → Prop} {w : World} (hgd : o.guard = none) (ty : TypeId) (p x : Operand) (ho : o.op = Op.store ty p x) (g k : Nat) (t : TypeId) (cs cur new : Array Value)
  (hp : ac.eval p = .pointer (some ⟨g, k, none⟩)) (hx : ac.eval x = .agg cs) (hb : Blk w g t cur) (hi : (Tryz.prog.info? ty).map (·.size) = some cs.size) (hl : k + cs.size ≤ cur.size) (h1 : cs.all (·.oneCell') = true) (hn : setMany cur k cs.toList = new) (h : wpList Tryz.prog ops Q rest (ac.put o.dst undef) (w.setRow g new)) : wpList Tryz.prog ops Q (o :: rest) ac w := by
 refine wpList_plain hgd fun K hK => ?_
 subst hn
 unfold Oper.wp execOp
 simp only [ho, hp, hx, Instr.storeAt, Instr.sureAddr, Sem.run_bind, Sem.run_pure, Result.andThen_ok, run_storeVar_off hb hi hl h1]
 exact hK _ _ h
end Go.Proofs.YtmfgjicfdjjihaaGreatDoor
