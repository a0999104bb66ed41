/- The program's Keep. -/
import Derived.Test.YtmlddgmkbbaccaaFrM
import Derived.Deep.WholeRow
namespace Go.Proofs.Ytmlddgmkbbaccaa
open Go.RowKit
set_option linter.unusedVariables false
set_option linter.unusedSimpArgs false

theorem wpList_store_new {ops : Array Oper} {rest : List Oper} {o : Oper} {ac : Act} {Q : Exit → Act → World → Prop} (w w' : World) (hgd : o.guard = none) (t : TypeId) (p x : Operand) (ho : o.op = Op.store t p x)
    (v1 v2 : Value) (hp : ac.eval p = v1) (hx : ac.eval x = v2) (hrun : (Instr.storeAt t v1 v2).run Try.prog w = .ok () w') (h : wpList Try.prog ops Q rest (ac.put o.dst undef) w') : wpList Try.prog ops Q (o :: rest) ac w := by
  refine wpList_plain hgd fun K hK => ?_
  unfold Oper.wp
  subst hp
  subst hx
  simp [execOp, ho, hrun, Result.andThen]
  exact hK _ _ h
abbrev z17 : Array Value := #[.int .i64 0, .int .i64 0, .int .i64 0, .int .u64 0, .int .u64 0, .int .i64 0, .int .i64 0, .int .u64 0, .int .u64 0, .int .i64 0, .int .i64 0, .int .i64 0, .int .i64 0, .int .i64 0, .int .i64 0, .int .i64 0, .int .i64 0]
theorem store_rl (w : World) (r : Rl) : (Instr.storeAt 30 (.pointer (some ⟨w.heap.size, 0, none⟩)) (.agg r.v)).run Try.prog (w.alloc (.cells z17 30)) = .ok () (w.alloc (.cells r.v 30)) :=
  run_storeAt_new (P := Try.prog) w 30 z17 r.v (by kernel_rfl) rfl (by kernel_rfl)
/-- What the closure answers of a place. -/
def hidP (l : List Rl) (r : Rl) (x : Int) : Bool := (l[x.toNat]?.map fun q => (LW q r).all (·.2)).getD false
theorem hidP_any {l : List Rl} (hl : ∀ r ∈ l, r.ok) {n : Nat} {r : Rl} (hr : l[n]? = some r) : ((ableN l n).map fun i : Nat => (i : Int)).any (hidP l r) = hidB l n := by
  rw [hid_able hl hr, List.any_map]
  rw [Bool.eq_iff_iff, List.any_eq_true, List.any_eq_true]
  refine exists_congr fun j => and_congr_right fun hj => ?_
  obtain ⟨_, q, hq, hqr⟩ := able_lt hj
  show hidP l r (j : Int) = true ↔ _
  unfold hidP
  simp only [Int.toNat_natCast, hq, Option.map_some, Option.getD_some]
  rw [lw_wider q r hqr]
set_option maxRecDepth 100000 in
set_option maxHeartbeats 8000000 in
theorem keep_any (a : Option Addr) (c : Nat) (l : List Rl) (w : World) (hl : l.length ≤ 1000000) (hrow : RowR w a l) :
    Calls Try.prog 19 #[.slice a l.length c] w fun e w' => ∃ a' c', e = .returned (.slice a' (keepL l).length c') ∧ RowI w' a' ((keepL l).map fun i : Nat => (i : Int)) ∧ Below w.heap.size w w' := by
  have hsr : Hid (∀ r : Rl, (Try.prog.info? 30).map (·.size) = some r.v.size) := info_rl
  have HST : Hid (∀ (W : World) (r : Rl), (Instr.storeAt 30 (.pointer (some ⟨W.heap.size, 0, none⟩)) (.agg r.v)).run Try.prog (W.alloc (.cells z17 30)) = .ok () (W.alloc (.cells r.v 30))) := store_rl
  have KR : Hid (∀ r : Rl, r.ok → ∀ W, Calls Try.prog 11 #[.agg r.v] W fun e w' => e = .returned (.bool r.right) ∧ Below W.heap.size W w') := fun r h W => rightRule_any r W h
  have KWd : Hid (∀ (r : Rl) W, Calls Try.prog 33 #[.agg r.v] W fun e w' => ∃ qb, e = .returned (.slice (some ⟨qb, 0, none⟩) 7 7) ∧ Qw w' W.heap.size qb r ∧ W.heap.size < qb ∧ Below W.heap.size W w') := fun r W => wider_any r W
  obtain ⟨N, hN⟩ : ∃ N, l.length = N := ⟨_, rfl⟩
  have HN : Hid (l.length = N) := hN
  have HRow : Hid (RowR w a l) := hrow
  have hKL : Hid (keepL l = keepN l N) := by show _ = _; unfold keepL; rw [hN]
  obtain ⟨KL, hKL'⟩ : ∃ KL, keepL l = KL := ⟨_, rfl⟩
  rw [hKL']
  have HKL : Hid (keepN l N = KL) := by show _ = _; rw [← hKL.out, hKL']
  rw [hN] at hl ⊢
  clear hN hrow hKL hKL'
  obtain ⟨W1, hW1⟩ : ∃ W1, w.alloc (.cells #[.slice a N c] 37) = W1 := ⟨_, rfl⟩
  have g0c : W1.cell? ⟨w.heap.size, 0, none⟩ = some (.slice a N c) := (blk_nw hW1).cell 0 _ rfl
  have bel : Below w.heap.size w W1 := bel_nw hW1
  have HB : Hid (w.heap.size < W1.heap.size) := (blk_nw hW1).lt
  go_enter Try.func19, Try.ntmps19
  go_wp2_with fail
  clear hW1
  go_loopw [3, 4, 10] (fun k3 k4 i wr => ∃ (n : Nat) (ka : Option Addr) (kc : Nat) (ba : Option Addr) (bc : Nat), n ≤ N ∧ i = .int .i64 n ∧ k3 = .slice ka (keepN l n).length kc ∧ k4 = .slice ba (ableN l n).length bc ∧ Hid (OwnI wr W1.heap.size ka kc (keepN l n)) ∧ Hid (OwnI wr W1.heap.size ba bc (ableN l n)) ∧ Hid (∀ x y, ka = some x → ba = some y → x.block ≠ y.block) ∧ Below W1.heap.size W1 wr) (fun _ _ i _ => N - (intOf i).toNat)
  case atStart => exact ⟨0, none, 0, none, 0, Nat.zero_le _, rfl, rfl, rfl, OwnI.nil _ _, OwnI.nil _ _, fun x y h => by (cases h), Below.refl _ _⟩
  case round =>
    obtain ⟨n, ka, kc, ba, bc, hn, rfl, rfl, rfl, HK, HA, HX, bw⟩ := hrel
    have hkl := keep_len l n
    have hal := able_len l n
    obtain ⟨xs, hxs⟩ : ∃ xs, keepN l n = xs := ⟨_, rfl⟩
    obtain ⟨ys, hys⟩ : ∃ ys, ableN l n = ys := ⟨_, rfl⟩
    have HXS : Hid (keepN l n = xs) := hxs
    have HYS : Hid (ableN l n = ys) := hys
    rw [hxs] at HK hkl ⊢
    rw [hys] at HA hal ⊢
    clear hxs hys
    by_cases hlt : n < N
    · have ik : (n : Int) < (N : Int) := by omega
      have in0 : (0 : Int) ≤ (n : Int) := by omega
      obtain ⟨r, hr⟩ : ∃ r, l[n]? = some r := ⟨_, List.getElem?_eq_getElem (by rw [HN.out]; exact hlt)⟩
      have HR : Hid (l[n]? = some r) := hr
      have HO : Hid r.ok := HRow.out.each r (List.mem_of_getElem? hr)
      have HRW : Hid (RowR wr a l) := (HRow.out.low bel).low bw
      obtain ⟨b, off, ha, hc⟩ := HRW.out.cells n r hr
      have g0w := kept bw g0c
      have hs1 := hsr.out r
      have hst := HST.out wr r
      have KR' : Hid _ := KR.out r HO.out
      have KW' : Hid _ := KWd.out r
      clear hr
      subst ha
      have HV : Hid (∃ RA, r.v = RA) := ⟨_, rfl⟩
      generalize hRA : r.v = RA at hs1 hc hst KR' KW'
      clear hRA
      have hB := blk_new wr RA 30
      go_wp2_with (first
        | (refine wpList_load_at rfl _ _ rfl b (off + n * 17) (by rfl) _ hc Try.underlying30 hs1 ?_)
        | (refine wpList_store_new _ _ rfl _ _ _ rfl _ _ rfl rfl hst ?_)
        | (refine wpList_load_at rfl _ _ rfl _ 0 (by rfl) _ hB.at_ Try.underlying30 hs1 ?_))
      refine (KW'.out _).mono ?_
      rintro e W3 ⟨qb, rfl, hq, hqlt, bb⟩
      have hB3 := hB.kept bb
      have bw3 := bel_tr (bel_al bw rfl) bb
      have b3 : Below wr.heap.size wr W3 := bel_tr (bel_nw rfl) bb
      have g03 := kept b3 g0w
      clear hc hst hB bb KW' hqlt
      obtain ⟨G, hG⟩ : ∃ G, (wr.alloc (.cells RA 30)).heap.size = G := ⟨_, rfl⟩
      rw [hG] at hq
      clear hG
      obtain ⟨W4, hW4⟩ : ∃ W4, W3.alloc (.cells #[.slice (some ⟨qb, 0, none⟩) 7 7] 52) = W4 := ⟨_, rfl⟩
      have b34 := bel_nw hW4
      have h7 : W4.cell? ⟨W3.heap.size, 0, none⟩ = some (.slice (some ⟨qb, 0, none⟩) 7 7) := (blk_nw hW4).cell 0 _ rfl
      have b4 := bel_tr b3 b34
      have bw4 := bel_tr bw3 b34
      have hB4 := hB3.kept b34
      have KC : Hid (Calls Try.prog 34 #[.slice ba ys.length bc, .func (.func 35) #[] #[.pointer (some ⟨W3.heap.size, 0, none⟩), .pointer (some ⟨w.heap.size, 0, none⟩)]] W4 fun e w' => e = .returned (.bool (hidB l n)) ∧ Below W4.heap.size W4 w') := by
        have h := containsI_any 35 #[.pointer (some ⟨W3.heap.size, 0, none⟩), .pointer (some ⟨w.heap.size, 0, none⟩)] (hidP l r) ba bc (ys.map fun i : Nat => (i : Int)) W4 (OwnI.row (HA.out.below b4) (by omega)) Try.call35 (fun W x hW hx => by
          obtain ⟨j, hj, rfl⟩ := List.mem_map.1 hx
          rw [← HYS.out] at hj
          obtain ⟨hjn, q, hq', _⟩ := able_lt hj
          obtain ⟨b', off', ha', hc'⟩ := ((HRW.out.low b4).low hW).cells j q hq'
          have hp : hidP l r (j : Int) = (LW q r).all (·.2) := by
            unfold hidP
            simp only [Int.toNat_natCast, hq', Option.map_some, Option.getD_some]
          rw [hp]
          exact keep1_any j N c w.heap.size W3.heap.size qb G _ b' off' q r W (by omega) (by omega) ha' hc' (kept hW (kept b34 g03)) (kept hW h7) ((hq.below b34).below hW) HO.out)
        rw [List.length_map, ← HYS.out, hidP_any (fun r hr => HRow.out.each r hr) HR.out, HYS.out] at h
        exact h
      obtain ⟨H, hH⟩ : ∃ H, hidB l n = H := ⟨_, rfl⟩
      have HH : Hid (hidB l n = H) := hH
      rw [hH] at KC
      clear hH hq hB3 bw3 b3 g03 b34
      go_wp2_with fail
      refine Calls.mono KC.out ?_
      rintro e W5 ⟨rfl, b45⟩
      have b5 := bel_tr b4 b45
      have bw5 := bel_tr bw4 b45
      have hB5 := hB4.kept b45
      have HK5 : Hid (OwnI W5 W1.heap.size ka kc xs) := HK.out.below b5
      have HA5 : Hid (OwnI W5 W1.heap.size ba bc ys) := HA.out.below b5
      have HLK : Hid (∀ x, ka = some x → x.block < wr.heap.size) := fun x hx => (HK.out.lt x hx).2.1
      have HLA : Hid (∀ x, ba = some x → x.block < wr.heap.size) := fun x hx => (HA.out.lt x hx).2.1
      have HZ : Hid (wr.heap.size < W5.heap.size) := hB5.lt
      clear KC b45 bw4 b4 hB4 h7 hW4 g0w HK HA
      cases H
      · have HBW : Hid (Below W1.heap.size W1 W5) := bw5
        have hk5 : OwnI (W5.alloc (.cells #[.int .i64 n] 3)) W1.heap.size ka kc xs := HK5.out.below (bel_nw rfl)
        have hcell : (W5.alloc (.cells #[.int .i64 n] 3)).cell? ⟨W5.heap.size, 0, none⟩ = some (.int .i64 n) := (blk_new W5 _ _).cell 0 _ rfl
        have hbase : W1.heap.size ≤ (W5.alloc (.cells #[.int .i64 n] 3)).heap.size := by
          have := bw5.size
          rw [World.size_alloc]
          omega
        go_wp2_with (at_builtin; refine wpList_appI _ rfl _ _ rfl W1.heap.size ka kc xs rfl hk5 ⟨W5.heap.size, 0, none⟩ 1 n rfl hcell (by omega) hbase ?_)
        intro g c' W6 ok6 b6 gr6 at6 lt6
        have bw6 : Below W1.heap.size W1 W6 := (bw5.alloc bw5.size _).trans b6
        have HK6 : Hid (OwnI W6 W1.heap.size (some ⟨g, 0, none⟩) c' (xs ++ [n])) := ok6
        have HA6 : Hid (OwnI W6 W1.heap.size ba bc ys) := (HA5.out.below (bel_nw rfl)).far gr6 fun y hy e => by
          cases ka with
          | none => cases e
          | some x => exact HX.out x y rfl hy (by simpa using e)
        have hB6 : Blk W6 wr.heap.size 30 RA := by
          refine (gr6.block wr.heap.size ?_ ?_).trans (hB5.alloc _)
          · have := HZ.out
            rw [World.size_alloc]
            omega
          · intro e
            cases ka with
            | none => cases e
            | some x =>
              have := HLK.out x rfl
              simp at e
              omega
        have HX6 : Hid (∀ y, ba = some y → g ≠ y.block) := fun y hy e => by
          rcases at6 with h | h
          · cases ka with
            | none => simp at h
            | some x => exact HX.out x y rfl hy (by simp at h; omega)
          · have := HLA.out y hy
            have := HZ.out
            have h' : g = W5.heap.size + 1 := by simpa using h
            omega
        have HZ6 : Hid (wr.heap.size < W6.heap.size ∧ g < W6.heap.size) := ⟨hB6.lt, lt6⟩
        have EK : Hid (keepN l (n + 1) = xs ++ [n]) := by show _ = _; rw [keep_succ, HH.out, HXS.out]; rfl
        clear HK5 HA5 hk5 hcell hbase ok6 b6 gr6 at6 lt6 hB5 bw5 HBW
        go_wp2_with (refine wpList_load_at rfl _ _ rfl _ 0 (by rfl) _ hB6.at_ Try.underlying30 hs1 ?_)
        refine (KR'.out _).mono ?_
        rintro e W7 ⟨rfl, b67⟩
        have bw7 := bel_tr bw6 b67
        have HK7 : Hid (OwnI W7 W1.heap.size (some ⟨g, 0, none⟩) c' (xs ++ [n])) := HK6.out.below b67
        have HA7 : Hid (OwnI W7 W1.heap.size ba bc ys) := HA6.out.below b67
        have HZ7 : Hid (wr.heap.size < W7.heap.size ∧ g < W7.heap.size) := ⟨Nat.lt_of_lt_of_le HZ6.out.1 b67.size, Nat.lt_of_lt_of_le HZ6.out.2 b67.size⟩
        have EA : Hid (ableN l (n + 1) = if r.right then ys ++ [n] else ys) := by show _ = _; rw [able_succ l n r HR.out, HH.out, HYS.out]; rfl
        clear HK6 HA6 hB6 b67 bw6 KR'
        cases hq : r.right
        · have EA' : Hid (ableN l (n + 1) = ys) := by show _ = _; rw [EA.out, hq]; rfl
          clear hq EA
          go_wp2_with fail
          refine ⟨⟨n + 1, some ⟨g, 0, none⟩, c', ba, bc, by omega, by go_num, by rw [EK.out]; simp, by rw [EA'.out], by rw [EK.out]; exact HK7, by rw [EA'.out]; exact HA7, fun x y hx hy => by cases hx; exact HX6.out y hy, bw7⟩, by simp [intOf]; omega⟩
        · have EA' : Hid (ableN l (n + 1) = ys ++ [n]) := by show _ = _; rw [EA.out, hq]; rfl
          clear hq EA
          have ha7 : OwnI (W7.alloc (.cells #[.int .i64 n] 3)) W1.heap.size ba bc ys := HA7.out.below (bel_nw rfl)
          have hcell : (W7.alloc (.cells #[.int .i64 n] 3)).cell? ⟨W7.heap.size, 0, none⟩ = some (.int .i64 n) := (blk_new W7 _ _).cell 0 _ rfl
          have hbase : W1.heap.size ≤ (W7.alloc (.cells #[.int .i64 n] 3)).heap.size := by
            have := bw7.size
            rw [World.size_alloc]
            omega
          go_wp2_with (at_builtin; refine wpList_appI _ rfl _ _ rfl W1.heap.size ba bc ys rfl ha7 ⟨W7.heap.size, 0, none⟩ 1 n rfl hcell (by omega) hbase ?_)
          intro g2 c2 W8 ok8 b8 gr8 at8 lt8
          have bw8 : Below W1.heap.size W1 W8 := (bw7.alloc bw7.size _).trans b8
          have HK8 : Hid (OwnI W8 W1.heap.size (some ⟨g, 0, none⟩) c' (xs ++ [n])) := (HK7.out.below (bel_nw rfl)).far gr8 fun y hy e => by
            cases hy
            cases ba with
            | none => cases e
            | some x => exact HX6.out x rfl (by simp at e; omega)
          have HX8 : Hid (g ≠ g2) := fun e => by
            rcases at8 with h | h
            · cases ba with
              | none => simp at h
              | some x => exact HX6.out x rfl (by simp at h; omega)
            · have := HZ7.out.2
              have h' : g2 = W7.heap.size + 1 := by simpa using h
              omega
          have HA8 : Hid (OwnI W8 W1.heap.size (some ⟨g2, 0, none⟩) c2 (ys ++ [n])) := ok8
          clear HK7 HA7 ha7 hcell hbase ok8 b8 gr8 at8 lt8 bw7
          go_wp2_with fail
          refine ⟨⟨n + 1, some ⟨g, 0, none⟩, c', some ⟨g2, 0, none⟩, c2, by omega, by go_num, by rw [EK.out]; simp, by rw [EA'.out]; simp, by rw [EK.out]; exact HK8, by rw [EA'.out]; exact HA8, fun x y hx hy => by cases hx; cases hy; exact HX8.out, bw8⟩, by simp [intOf]; omega⟩
      · have EK : Hid (keepN l (n + 1) = xs) := by show _ = _; rw [keep_succ, HH.out, HXS.out]; rfl
        have EA : Hid (ableN l (n + 1) = ys) := by show _ = _; rw [able_succ l n r HR.out, HH.out, HYS.out]; rfl
        go_wp2_with fail
        refine ⟨⟨n + 1, ka, kc, ba, bc, by omega, by go_num, by rw [EK.out], by rw [EA.out], by rw [EK.out]; exact HK5, by rw [EA.out]; exact HA5, HX, bw5⟩, by simp [intOf]; omega⟩
    · have ik : ¬ (n : Int) < (N : Int) := by omega
      have e : n = N := by omega
      subst e
      have e : xs = KL := by rw [← HXS.out, HKL.out]
      subst e
      go_wp2_with fail
      go_ret
      first | exact ⟨ka, kc, rfl, HK.out.row (by omega), bel_tr bel bw⟩ | exact ⟨ka, ⟨kc, rfl⟩, HK.out.row (by omega), bel_tr bel bw⟩
end Go.Proofs.Ytmlddgmkbbaccaa
