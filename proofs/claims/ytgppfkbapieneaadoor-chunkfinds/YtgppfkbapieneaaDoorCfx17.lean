/- Texts joined: CkH -/
import Derived.Test.YtgppfkbapieneaaDoorCfx16
namespace Go.Proofs.YtgppfkbapieneaaDoor
open Go.RowKit
set_option linter.unusedVariables false
set_option linter.unusedSimpArgs false
/-- A slice of pieces. -/
abbrev pqv (q : Pt × Pt) : Array Value := pcv q.1 q.2
abbrev RowC (w : World) (a : Option Addr) (l : List (Pt × Pt)) : Prop := RowN 6 pqv (fun _ q => q.1.ok ∧ q.2.ok) w a l
theorem RowC.low {w w' : World} {a : Option Addr} {l : List (Pt × Pt)} (h : RowC w a l) (hb : Below w.heap.size w w') : RowC w' a l := RowN.below (fun h _ => h) h hb
theorem OwnI.base {w : World} {B B' : Nat} {a : Option Addr} {c : Nat} {l : List Nat} (h : OwnI w B a c l) (hb : B' ≤ B) : OwnI w B' a c l :=
  ⟨h.1, h.2.imp id fun ⟨g, cap, cur, h1, h2, h3⟩ => ⟨g, cap, cur, h1, Nat.le_trans hb h2, h3⟩⟩
def hsN (l : List (Pt × Pt)) (x : Pt) (n : Nat) : List Nat := (List.range n).filter fun i => (l[i]?.map fun q => holdB q.1 q.2 x).getD false
def hset (l : List (Pt × Pt)) (x : Pt) : List Nat := hsN l x l.length
theorem hsN_len (l : List (Pt × Pt)) (x : Pt) (n : Nat) : (hsN l x n).length ≤ n := by
  have := List.length_filter_le (fun i => (l[i]?.map fun q => holdB q.1 q.2 x).getD false) (List.range n)
  simpa [hsN] using this
theorem hsN_succ (l : List (Pt × Pt)) (x : Pt) {n : Nat} {q : Pt × Pt} (hq : l[n]? = some q) : hsN l x (n + 1) = if holdB q.1 q.2 x then hsN l x n ++ [n] else hsN l x n := by
  unfold hsN
  rw [List.range_succ, List.filter_append]
  cases h : holdB q.1 q.2 x <;> simp [hq, h]
set_option maxRecDepth 100000 in
set_option maxHeartbeats 8000000 in
theorem holders_any (a : Option Addr) (c : Nat) (l : List (Pt × Pt)) (x : Pt) (w : World) (hl : l.length ≤ 1048576) (hrow : RowC w a l) :
    Calls Tryd.prog 29 #[.slice a l.length c, .agg x.v] w fun e w' => ∃ a' c', e = .returned (.slice a' (hset l x).length c') ∧ OwnI w' w.heap.size a' c' (hset l x) ∧ Below w.heap.size w w' := by
  have KH : Hid (∀ (q : Pt × Pt) W, Calls Tryd.prog 65 #[.agg (pqv q), .agg x.v] W fun e w' => e = .returned (.bool (holdB q.1 q.2 x)) ∧ Below W.heap.size W w') := fun q W => holds_pc q.1 q.2 x W
  have HST : Hid (∀ W : World, ∀ q : Pt × Pt, (Instr.storeAt 65 (.pointer (some ⟨W.heap.size, 0, none⟩)) (.agg (pqv q))).run Tryd.prog (W.alloc (.cells z6 65)) = .ok () (W.alloc (.cells (pqv q) 65))) := fun W q => run_storeAt_new (P := Tryd.prog) W 65 z6 (pqv q) (by kernel_rfl) rfl (by kernel_rfl)
  have hsz : Hid (∀ q : Pt × Pt, (Tryd.prog.info? 65).map (·.size) = some (pqv q).size) := fun q => by kernel_rfl
  obtain ⟨N, hN⟩ : ∃ N, l.length = N := ⟨_, rfl⟩
  have HN : Hid (l.length = N) := hN
  have HRow : Hid (RowC w a l) := hrow
  obtain ⟨KL, hKL'⟩ : ∃ KL, hset l x = KL := ⟨_, rfl⟩
  have HKL : Hid (hsN l x N = KL) := by show _ = _; rw [← hKL']; unfold hset; rw [hN]
  rw [hKL']
  rw [hN] at hl ⊢
  clear hN hrow hKL'
  obtain ⟨W1, hW1⟩ : ∃ W1, w.alloc (.cells x.v 42) = W1 := ⟨_, rfl⟩
  have bel : Below w.heap.size w W1 := bel_nw hW1
  have BX := blk_nw hW1
  have HB : Hid (w.heap.size ≤ W1.heap.size) := Nat.le_of_lt BX.lt
  go_enter Tryd.func29, Tryd.ntmps29
  go_wp2_with fail
  clear hW1
  go_loopw [5, 10] (fun k5 i wr => ∃ (n : Nat) (ka : Option Addr) (kc : Nat), n ≤ N ∧ i = .int .i64 n ∧ k5 = .slice ka (hsN l x n).length kc ∧ Hid (OwnI wr W1.heap.size ka kc (hsN l x n)) ∧ Below W1.heap.size W1 wr) (fun _ i _ => N - (intOf i).toNat)
  case atStart => exact ⟨0, none, 0, Nat.zero_le _, rfl, rfl, OwnI.nil _ _, Below.refl _ _⟩
  case round =>
    obtain ⟨n, ka, kc, hn, rfl, rfl, HK, bw⟩ := hrel
    have hkl := hsN_len l x n
    obtain ⟨xs, hxs⟩ : ∃ xs, hsN l x n = xs := ⟨_, rfl⟩
    have HXS : Hid (hsN l x n = xs) := hxs
    rw [hxs] at HK hkl ⊢
    clear hxs
    by_cases hlt : n < N
    · have ik : (n : Int) < (N : Int) := by omega
      have in0 : (0 : Int) ≤ (n : Int) := by omega
      obtain ⟨q, hq⟩ : ∃ q, l[n]? = some q := ⟨_, List.getElem?_eq_getElem (by rw [HN.out]; exact hlt)⟩
      have HQ : Hid (l[n]? = some q) := hq
      have HRW : Hid (RowC wr a l) := (HRow.out.low bel).low bw
      obtain ⟨b, off, ha, hc⟩ := HRW.out.cells n q hq
      have hs1 := hsz.out q
      have hst := HST.out wr q
      have KH' : Hid _ := KH.out q
      have BXw := BX.kept bw
      clear hq
      subst ha
      have hw1 : IntKind.i64.wrap ((n : Int) + 1) = ((n + 1 : Nat) : Int) := by simp [IntKind.wrap, IntKind.bits, IntKind.signed]; omega
      obtain ⟨H, hH⟩ : ∃ H, holdB q.1 q.2 x = H := ⟨_, rfl⟩
      have HH : Hid (holdB q.1 q.2 x = H) := hH
      rw [hH] at KH'
      clear hH
      generalize hRA : pqv q = RA at hs1 hc hst KH'
      clear hRA
      have hB := blk_new wr RA 65
      have BX2 := BXw.alloc (.cells RA 65)
      have x0 := BX2.cell 0 (.int .u64 x.a) rfl
      have x1 := BX2.cell 1 (.int .u64 x.b) rfl
      have x2 := BX2.cell 2 (.int .u64 x.c) rfl
      go_wp2_with (first
        | (refine wpList_load_at rfl _ _ rfl b (off + n * 6) (by rfl) _ hc Tryd.underlying65 hs1 ?_)
        | (refine wpList_store_new _ _ rfl _ _ _ rfl _ _ rfl rfl hst ?_)
        | (refine wpList_load_at rfl _ _ rfl _ 0 (by rfl) _ hB.at_ Tryd.underlying65 hs1 ?_))
      refine (KH'.out _).mono ?_
      rintro e W3 ⟨rfl, bb⟩
      have b3 : Below wr.heap.size wr W3 := bel_tr (bel_nw rfl) bb
      have bw3 := bel_tr bw b3
      have HK3 : Hid (OwnI W3 W1.heap.size ka kc xs) := HK.out.below b3
      clear hB BX2 x0 x1 x2 bb hc hst KH' BXw HK
      cases H
      · go_wp2
        refine ⟨⟨n + 1, ka, kc, by omega, by first | rfl | (congr 1), ?_, ?_, bw3⟩, by simp only [intOf]; omega⟩
        · rw [hsN_succ l x HQ.out, HH.out, HXS.out]; rfl
        · rw [hsN_succ l x HQ.out, HH.out, HXS.out]; exact HK3
      · have hk5 : OwnI (W3.alloc (.cells #[.int .i64 n] 3)) W1.heap.size ka kc xs := HK3.out.below (bel_nw rfl)
        have hcell : (W3.alloc (.cells #[.int .i64 n] 3)).cell? ⟨W3.heap.size, 0, none⟩ = some (.int .i64 n) := (blk_new W3 _ _).cell 0 _ rfl
        have hbase : W1.heap.size ≤ (W3.alloc (.cells #[.int .i64 n] 3)).heap.size := by
          have := bw3.size
          rw [World.size_alloc]
          omega
        go_wp2_with (at_builtin; refine wpList_appI _ rfl _ _ rfl W1.heap.size ka kc xs rfl hk5 ⟨W3.heap.size, 0, none⟩ 1 n rfl hcell (by omega) hbase ?_)
        intro g c' W6 ok6 b6 gr6 at6 lt6
        have bw6 : Below W1.heap.size W1 W6 := (bw3.alloc bw3.size _).trans b6
        have HK6 : Hid (OwnI W6 W1.heap.size (some ⟨g, 0, none⟩) c' (xs ++ [n])) := ok6
        clear ok6 b6 gr6 at6 lt6 hk5 hcell hbase
        go_wp2
        refine ⟨⟨n + 1, some ⟨g, 0, none⟩, c', by omega, by first | rfl | (congr 1), ?_, ?_, bw6⟩, by simp only [intOf]; omega⟩
        · rw [hsN_succ l x HQ.out, HH.out, HXS.out]; simp
        · rw [hsN_succ l x HQ.out, HH.out, HXS.out]; exact HK6
    · have hnN : n = N := by omega
      subst hnN
      have ex : xs = KL := by rw [← HXS.out]; exact HKL.out
      subst ex
      have HO : Hid (OwnI wr w.heap.size ka kc xs) := HK.out.base HB.out
      go_wp2
      go_ret
      exact ⟨ka, kc, rfl, HO.out, bel_tr bel bw⟩
end Go.Proofs.YtgppfkbapieneaaDoor
