/- Texts joined: Ip4G -/
import Derived.Test.YtmnkdogdligckaaIp6zb4
import Derived.Test.YtmnkdogdligckaaIp6zb26
namespace Go.Proofs.Ytmnkdogdligckaa
open Go.RowKit
set_option linter.unusedVariables false
set_option linter.unusedSimpArgs false
theorem Owns.trunc {w : World} {B c n : Nat} {a : Option Addr} {l : List Int} (h : Owns w B (.slice a n c) l) (k : Nat) (hk : k ≤ l.length) : Owns w B (.slice a k c) (l.take k) := by
  obtain ⟨h1, h2⟩ := h
  have hl : (l.take k).length = k := by rw [List.length_take]; omega
  refine ⟨by simp, ?_⟩
  rw [hl]
  rcases h2 with ⟨h3, h4⟩ | ⟨g, cap, cur, h3, h4, h5, h6, h7, h8, h9⟩
  · simp only [Value.slice.injEq] at h3
    obtain ⟨rfl, _, rfl⟩ := h3
    obtain rfl : k = 0 := by omega
    exact .inl ⟨rfl, rfl⟩
  · simp only [Value.slice.injEq] at h3
    obtain ⟨rfl, _, rfl⟩ := h3
    refine .inr ⟨g, c, cur, rfl, h4, h5, by omega, h7, h8, ?_⟩
    have : List.take (k * 1) cur.toList = List.take k (List.take (l.length * 1) cur.toList) := by rw [List.take_take, Nat.mul_one, Nat.mul_one, Nat.min_eq_left hk]
    rw [this, h9, List.map_take]
theorem wpList_zeros {ops : Array Oper} {rest : List Oper} {o : Oper} {ac : Act} {Q : Exit → Act → World → Prop} (w : World) (hgd : o.guard = none) (s x : Operand)
    (ho : o.op = .call { callee := .builtin .append, args := #[s, x], argTypes := #[22, 3] })
    (B : Nat) (v : Value) (l : List Int) (m : Nat) (hs : ac.eval s = v) (hown : Owns w B v l) (hx : ac.eval x = .int .i64 m)
    (r : List Int) (hr : l ++ List.replicate m 0 = r) (hm : l.length + m ≤ 1048576) (hbase : B ≤ w.heap.size)
    (h : ∀ a' c' w', Owns w' B (.slice a' r.length c') r → r.length ≤ c' → Below B w w' → wpList Try.prog ops Q rest (ac.put o.dst (.slice a' r.length c')) w') : wpList Try.prog ops Q (o :: rest) ac w := by
  subst hr
  obtain ⟨v', w', h1, h2, h3⟩ := run_append_zeros w o.type B v l m hown hm hbase
  refine wpList_plain hgd fun _ hK => ?_
  obtain ⟨a', c', rfl, h4, h5, h6, h7⟩ := h2.form
  unfold Oper.wp execOp
  simp only [ho, resolve, invoke, builtin, Sem.run_bind, Sem.run_pure, Result.andThen_ok, List.map_toArray, List.map_cons, List.map_nil, hs, hx, h1]
  exact hK _ _ (h a' c' w' h2 h4 ((Below.refl _ _).grown h3 hbase fun k hk => (World.ownsRow.lt hown k hk).1))
set_option maxHeartbeats 1000000 in
theorem grow_nil (n : Nat) (w : World) (hn : n ≤ 1048576) :
    Calls Try.prog 52 #[.slice none 0 0, .int .i64 n] w fun e w' => ∃ a' c', e = .returned (.slice a' 0 c') ∧ Owns w' w.heap.size (.slice a' 0 c') [] ∧ Below w.heap.size w w' := by
  by_cases h0 : n = 0
  · subst h0
    go_enter Try.func52, Try.ntmps52
    go_wp2
    go_ret
    exact ⟨none, 0, rfl, Owns.nil _ _, Below.refl _ _⟩
  · have h1 : (n : Int) > 0 := by omega
    have h2 : ¬ (n : Int) < 0 := by omega
    obtain ⟨r, hr⟩ : ∃ r, ([] : List Int) ++ List.replicate n 0 = r := ⟨_, rfl⟩
    have HR : Hid (([] : List Int) ++ List.replicate n 0 = r) := hr
    have hrl : r.length = n := by rw [← hr]; simp
    clear hr
    go_enter Try.func52, Try.ntmps52
    go_wp2_with (at_builtin; refine wpList_zeros (w := w) rfl _ _ rfl w.heap.size (.slice none 0 0) [] n rfl (Owns.nil _ _) rfl r HR.out (by simpa using hn) (Nat.le_refl _) ?_)
    intro a1 c1 w1 o1 hc1 b1
    have o2 := o1.trunc 0 (by omega)
    simp only [List.take_zero] at o2
    have hcm : c1 ≤ 9223372036854775807 := by
      obtain ⟨_, h⟩ := o2
      rcases h with ⟨h3, _⟩ | ⟨g, cap, cur, h3, h4, h5, h6, h7, _⟩
      · simp only [Value.slice.injEq] at h3
        omega
      · simp only [Value.slice.injEq] at h3
        obtain ⟨_, _, rfl⟩ := h3
        unfold maxLen at h7
        omega
    go_wp2
    go_ret
    exact ⟨a1, c1, rfl, o2, b1⟩
theorem flat_le (ls : List (List Int)) (k : Nat) : (ls.take k).flatten.length ≤ ls.flatten.length := by
  have h : ls.flatten = (ls.take k).flatten ++ (ls.drop k).flatten := by rw [← List.flatten_append, List.take_append_drop]
  rw [h, List.length_append]
  omega
set_option maxRecDepth 100000 in
set_option maxHeartbeats 2000000 in
theorem concat_any (a : Option Addr) (cap : Nat) (ls : List (List Int)) (w : World) (h : Rowss w a ls) (hnil : ∀ i, i < ls.length → ∀ a' c', (∃ b off, a = some ⟨b, off, none⟩ ∧ w.cell? ⟨b, off + i, none⟩ = some (.slice a' (ls.getD i []).length c')) → a' = none → c' = 0)
    (r : List Int) (hr : ls.flatten = r) (hl : r.length ≤ 1048576) :
    Calls Try.prog 35 #[.slice a ls.length cap] w fun e w' => ∃ a' c', e = .returned (.slice a' r.length c') ∧ Fresh w w' a' c' r := by
  have hs := h.small
  have hfl := flat_le ls
  rw [hr] at hfl
  have HRR : Hid (ls.flatten = r) := hr
  obtain ⟨N, hN⟩ : ∃ N, r.length = N := ⟨_, rfl⟩
  have HNN : Hid (r.length = N) := hN
  rw [hN] at hfl hl ⊢
  have FL : Hid (∀ k, (ls.take k).flatten.length ≤ N) := hfl
  clear hr hN
  have HN : Hid (∀ i, i < ls.length → ∀ a' c', (∃ b off, a = some ⟨b, off, none⟩ ∧ w.cell? ⟨b, off + i, none⟩ = some (.slice a' (ls.getD i []).length c')) → a' = none → c' = 0) := hnil
  clear hfl hnil
  go_enter Try.func35, Try.ntmps35
  go_wp2
  go_loop [3, 11] (fun t i => ∃ k : Nat, k ≤ ls.length ∧ i = .int .i64 k ∧ t = .int .i64 ((ls.take k).flatten.length : Nat)) (fun _ i => ls.length - (intOf i).toNat)
  case atStart => exact ⟨0, Nat.zero_le _, rfl, rfl⟩
  case round =>
    obtain ⟨k, hk, rfl, rfl⟩ := hrel
    by_cases hlt : k < ls.length
    · obtain ⟨b, off, rfl, hc⟩ := h.cells (by omega)
      obtain ⟨a', c', hcell, hrow⟩ := hc k hlt
      have e1 : (ls.take (k + 1)).flatten.length = (ls.take k).flatten.length + (ls.getD k []).length := by rw [M.takes_snoc ls k hlt, List.length_append]
      have f1 : (ls.take (k + 1)).flatten.length ≤ N := FL.out (k + 1)
      have f0 : (ls.take k).flatten.length ≤ N := FL.out k
      have hlt' : (k : Int) < (ls.length : Int) := by omega
      generalize hL : ls.getD k [] = L at *
      generalize hT : (ls.take k).flatten.length = T at *
      have E1 : Hid ((ls.take (k + 1)).flatten.length = T + L.length) := e1
      have hTL : T + L.length ≤ 1048576 := by omega
      clear hc h e1 hL hT f1 f0
      have hpos : ¬ ((T : Int) + (L.length : Int) < 0) := by omega
      go_wp2
      exact ⟨⟨k + 1, by omega, int_eq (by omega), int_eq (by have := E1.out; omega)⟩, by simp [intOf]; omega⟩
    · have hlt' : ¬ (k : Int) < (ls.length : Int) := by omega
      obtain rfl : k = ls.length := by omega
      have eT : (ls.take ls.length).flatten.length = N := by rw [List.take_length, HRR.out, HNN.out]
      rw [eT]
      clear eT
      go_wp2_with fail
      refine (grow_nil N w hl).mono ?_
      rintro e w1 ⟨a1, c1, rfl, o1, b1⟩
      have h1 := h.below b1
      have O1 : Owns w1 w.heap.size (.slice a1 (ls.take 0).flatten.length c1) (ls.take 0).flatten := o1
      clear o1
      go_wp2
      go_loopw [6, 27] (fun v i w' => ∃ (k : Nat) (a' : Option Addr) (c' : Nat), k ≤ ls.length ∧ i = .int .i64 k ∧ v = .slice a' (ls.take k).flatten.length c' ∧ Hid (Owns w' w.heap.size (.slice a' (ls.take k).flatten.length c') (ls.take k).flatten) ∧ Hid (Below w.heap.size w w')) (fun _ i _ => ls.length - (intOf i).toNat)
      case atStart => exact ⟨0, a1, c1, Nat.zero_le _, rfl, rfl, O1, b1⟩
      case round =>
        obtain ⟨k, a', c', hk, rfl, rfl, ow, bw⟩ := hrel
        have hb := bw.out
        have hw := h.below hb
        have hsz := hb.size
        by_cases hlt : k < ls.length
        · obtain ⟨b, off, rfl, hc⟩ := hw.cells (by omega)
          obtain ⟨a2, c2, hcell, hrow⟩ := hc k hlt
          have hn2 : a2 = none → c2 = 0 := HN.out k hlt a2 c2 ⟨b, off, rfl, by
            obtain ⟨b', off', e, hc'⟩ := h.cells (by omega)
            cases e
            obtain ⟨a3, c3, h3, _⟩ := hc' k hlt
            have hlb : b < w.heap.size := World.block_lt_of_cell? w _ h3
            rw [← hb.cell (p := ⟨b, off + k, none⟩) hlb]
            exact hcell⟩
          have f1 : (ls.take (k + 1)).flatten.length ≤ N := FL.out (k + 1)
          have e1 : (ls.take k).flatten ++ ls.getD k [] = (ls.take (k + 1)).flatten := (M.takes_snoc ls k hlt).symm
          have hby : M.Bytes (ls.take k).flatten := M.AllBytes.takes h.all k
          have hlt' : (k : Int) < (ls.length : Int) := by omega
          have OW := ow.out
          generalize hL : ls.getD k [] = L at *
          generalize hT : (ls.take k).flatten = T at *
          obtain ⟨R, hR⟩ : ∃ R, (ls.take (k + 1)).flatten = R := ⟨_, rfl⟩
          rw [hR] at f1 e1
          have E1 : Hid (T ++ L = R) := e1
          have E2 : Hid ((ls.take (k + 1)).flatten = R) := hR
          have E3 : Hid (Below w.heap.size w _) := hb
          clear hc e1 hL hT hR hw ow bw hb h h1
          go_wp2_with (at_builtin; refine wpList_app2 _ rfl _ _ rfl w.heap.size _ T rfl OW hby a2 c2 L rfl hrow hn2 R E1.out (by omega) hsz ?_)
          intro a4 c4 w4 o4 hc4 hn4 r4 b4 _
          go_wp2
          refine ⟨⟨k + 1, a4, c4, by omega, int_eq (by omega), by rw [E2.out], by rw [E2.out]; exact o4, E3.out.trans b4⟩, by simp [intOf]; omega⟩
        · have hlt' : ¬ (k : Int) < (ls.length : Int) := by omega
          obtain rfl : k = ls.length := by omega
          have OW := ow.out
          rw [List.take_length, HRR.out] at OW ⊢
          rw [HNN.out]
          go_wp2
          go_ret
          have hby : M.Bytes r := by rw [← HRR.out]; exact M.AllBytes.flat h.all
          have hbw := bw.out
          obtain ⟨a5, c5, e5, h5, h6, _⟩ := OW.form
          simp only [Value.slice.injEq] at e5
          obtain ⟨rfl, _, rfl⟩ := e5
          exact ⟨a', c', rfl, OW, h5, h6, OW.row (by rw [HNN.out]; omega) hby, hbw⟩
end Go.Proofs.Ytmnkdogdligckaa
