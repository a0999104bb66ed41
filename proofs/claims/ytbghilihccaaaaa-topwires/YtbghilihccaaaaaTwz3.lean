/- Texts joined: Room Zer Ip4G -/
import Derived.Test.YtbghilihccaaaaaTwz1
import Derived.Laws.MakeOwn
namespace Go.Proofs.Ytbghilihccaaaaa
open Go.RowKit
set_option linter.unusedVariables false
theorem made_zero (N : Nat) : (madeCells #[Value.int .u8 0] N).toList = List.replicate N (Value.int .u8 0) := by
  apply List.ext_getElem
  · simp [madeCells]
  · intro i h1 h2
    simp [madeCells, Nat.mod_one]
theorem Owns.other {w : World} {B : Nat} {v : Value} {l : List Int} (h : Owns w B v l) {ad : Addr} (ha : ad.block < B) (u : Value) : Owns (w.setCell ad u) B v l := ownsRow_setCell_below h ha u
theorem size_setCell (w : World) (a : Addr) (u : Value) : (w.setCell a u).heap.size = w.heap.size := by simp
end Go.Proofs.Ytbghilihccaaaaa
namespace Go.Proofs.Ytbghilihccaaaaa
open Go.RowKit
set_option linter.unusedVariables false
set_option linter.unusedSimpArgs false
theorem zeroCells_u8 (m : Nat) : Builtin.zeroCells (Value.int .u8 0).cells m = (List.replicate m (Value.int .u8 0)).toArray := by
  apply Array.ext'
  simp [Builtin.zeroCells, Value.cells]
  apply List.ext_getElem
  · simp
  · intro i h1 h2
    simp [Nat.mod_one]
theorem run_append_zeros (w : World) (ty : TypeId) (base : Nat) (v : Value) (l : List Int) (m : Nat) (hown : Owns w base v l) (hm : l.length + m ≤ 1048576) (hbase : base ≤ w.heap.size) :
    ∃ v' w', (Builtin.append_ #[40, 3] ty #[v, .int .i64 m]).run Try.prog w = .ok v' w' ∧ Owns w' base v' (l ++ List.replicate m 0) ∧ w.grownBy w' v.ownBlock := by
  obtain ⟨i, hi, hz, hsz, hby⟩ := info_parts info_u8
  have ht := Try.underlying40
  have hu := Try.underlying3
  have hwr : IntKind.i64.wrap (m : Int) = m := by rw [IntKind.wrap_i64]; omega
  have hlt : ¬ (m : Int) < 0 := by omega
  have hw0 : IntKind.i64.wrap 0 = 0 := by decide
  have hbig : ¬ (281474976710656 : Int) < (m : Int) := by omega
  have hs : (l ++ List.replicate m (0 : Int)).map (Value.int .u8) = l.map (Value.int .u8) ++ List.replicate m (Value.int .u8 0) := by simp
  have hlen : (l.map (Value.int .u8) ++ List.replicate m (Value.int .u8 0)).length = l.length + m := by simp
  have own : Owns w base v l := hown
  unfold Owns at hown ⊢
  simp only [hs, List.length_append, List.length_replicate]
  have grown : ∀ (old : Nat), ∀ (row : Option Nat),
      (w.drew.alloc (.cells ((l.map (Value.int .u8)).toArray ++ (List.replicate m (Value.int .u8 0)).toArray ++ (List.replicate (grownCap w (l.length + m) old 5 - (l.length + m)) (Value.int .u8 0)).toArray) 5)).ownsRow base 5 1
        (.slice (some ⟨w.heap.size, 0, none⟩) (l.length + m) (grownCap w (l.length + m) old 5)) (l.length + m) (l.map (Value.int .u8) ++ List.replicate m (Value.int .u8 0)) ∧
      w.grownBy (w.drew.alloc (.cells ((l.map (Value.int .u8)).toArray ++ (List.replicate m (Value.int .u8 0)).toArray ++ (List.replicate (grownCap w (l.length + m) old 5 - (l.length + m)) (Value.int .u8 0)).toArray) 5)) row := by
    intro old row
    have hge := grownCap_ge w (l.length + m) old 5
    have hcm : grownCap w (l.length + m) old 5 ≤ maxLen := grownCap_le_maxLen w (l.length + m) old 5 (by unfold maxLen; omega)
    refine ⟨⟨by simp, .inr ⟨w.heap.size, _, _, rfl, hbase, heap_alloc_new w.drew _, hge, hcm, ?_, ?_⟩⟩, ⟨rfl, rfl, rfl, by simp, fun k hk _ => (World.grownBy_alloc w.drew _ none).block k hk (by simp)⟩⟩
    · simp; omega
    · simp only [Array.toList_append, List.append_assoc, Nat.mul_one]
      rw [← List.append_assoc, ← hlen]
      exact List.take_left
  rcases hown.2 with ⟨rfl, hl0⟩ | ⟨g, cap, cur, rfl, hbg, hg, hnc, hcm, hcs, htake⟩
  · have hl : l = [] := by cases l with | nil => rfl | cons _ _ => simp at hl0
    subst hl
    by_cases hm0 : m = 0
    · subst hm0
      refine ⟨.slice none 0 0, w, ?_, World.ownsRow_nil w base 5 1, ⟨rfl, rfl, rfl, Nat.le_refl _, fun _ _ _ => rfl⟩⟩
      simp [Builtin.append_, run_underlying ht, run_underlying hu, sizeOf, typeInfo, asIntOf, hi, hsz, hby, asInt, hwr, hw0]
    · have hgr := grown 0 (Value.ownBlock (.slice none 0 0))
      simp only [List.length_nil, Nat.zero_add, List.map_nil, List.nil_append] at hgr ⊢
      refine ⟨_, _, ?_, hgr.1, hgr.2⟩
      have hn : ¬ (m ≤ 0) := by omega
      have h63' : ¬ (9223372036854775807 < (m : Int)) := by omega
      have h48' : ¬ (281474976710656 < Builtin.nextslicecap m 0) := by rw [nextslicecap_zero (by omega)]; simp only [List.length_nil] at hm; omega
      simp [Builtin.append_, run_underlying ht, run_underlying hu, sizeOf, typeInfo, asIntOf, zeroValue, hi, hz, hsz, hby, asInt, hwr, hlt, hbig, hn, hm0, h63', h48', Question.forced, run_firstCells_none, newRow, grownCap, zeroCells_u8]
  · by_cases hroom : l.length + m ≤ cap
    · have hst := run_storeCells_at Try.prog g l.length 5 (List.replicate m (Value.int .u8 0)) 0 cur w hg (by simp; omega) (by intro u hu; rw [List.eq_of_mem_replicate hu]; rfl)
      simp only [Nat.add_zero] at hst
      refine ⟨_, _, ?_, ⟨by simp, .inr ⟨g, cap, _, rfl, hbg, setRow_heap w g cur (cur.toList.take l.length ++ List.replicate m (Value.int .u8 0) ++ cur.toList.drop (l.length + m)).toArray 5 _ hg, hroom, hcm, ?_, ?_⟩⟩, ⟨rfl, rfl, rfl, by simp, fun k _ hk => setRow_other w g k _ (fun e => hk (by simp [Value.ownBlock, e]))⟩⟩
      · by_cases hm0 : m = 0
        · subst hm0
          simp only [List.replicate_zero] at hst
          simp [Builtin.append_, run_underlying ht, run_underlying hu, sizeOf, typeInfo, asIntOf, hi, hsz, hby, asInt, hwr, hw0, hroom, Addr.add_lit, hst]
          intro hh
          omega
        · simp [Builtin.append_, run_underlying ht, run_underlying hu, sizeOf, typeInfo, asIntOf, zeroValue, hi, hz, hsz, hby, asInt, hwr, hlt, hbig, hm0, hroom, Addr.add_lit, zeroCells_u8, hst]
      · simp; omega
      · simp only [Nat.mul_one] at htake ⊢
        rw [htake, ← hlen]
        exact List.take_left
    · have holds : ∀ j u, (l.map (Value.int .u8))[j]? = some u → w.cell? ((⟨g, 0, none⟩ : Addr).add j) = some u := World.ownsRow.cells (g := g) hown rfl
      have hgr := grown cap (Value.ownBlock (.slice (some ⟨g, 0, none⟩) l.length cap))
      refine ⟨_, _, ?_, hgr.1, hgr.2⟩
      have h63' : ¬ (9223372036854775807 < ((l.length : Int) + (m : Int))) := by omega
      have hfit := growslice_fits (need := l.length + m) (old := cap) (bytes := 1) (by omega) (by omega)
      have h48' : ¬ (281474976710656 < Builtin.nextslicecap (l.length + m) cap) := by omega
      have hm0 : ¬ m = 0 := by omega
      have hfo := run_firstCells_some (P := Try.prog) w.drew 1 l.length ⟨g, 0, none⟩ l.length cap (l.map (Value.int .u8)) (by simp) (by simpa using holds)
      simp [Builtin.append_, run_underlying ht, run_underlying hu, sizeOf, typeInfo, asIntOf, zeroValue, hi, hz, hsz, hby, asInt, hwr, hlt, hbig, hroom, hm0, h63', h48', Question.forced, hfo, newRow, grownCap, zeroCells_u8]
theorem Owns.trunc {w : World} {B c n : Nat} {a : Option Addr} {l : List Int} (h : Owns w B (.slice a n c) l) (k : Nat) (hk : k ≤ l.length) : Owns w B (.slice a k c) (l.take k) := by
  obtain ⟨h1, h2⟩ := h
  have hl : (l.take k).length = k := by rw [List.length_take]; omega
  refine ⟨by simp, ?_⟩
  rw [hl]
  rcases h2 with ⟨h3, h4⟩ | ⟨g, cap, cur, h3, h4, h5, h6, h7, h8, h9⟩
  · simp only [Value.slice.injEq] at h3
    obtain ⟨rfl, _, rfl⟩ := h3
    obtain rfl : k = 0 := by omega
    exact .inl ⟨rfl, rfl⟩
  · simp only [Value.slice.injEq] at h3
    obtain ⟨rfl, _, rfl⟩ := h3
    refine .inr ⟨g, c, cur, rfl, h4, h5, by omega, h7, h8, ?_⟩
    have : List.take (k * 1) cur.toList = List.take k (List.take (l.length * 1) cur.toList) := by rw [List.take_take, Nat.mul_one, Nat.mul_one, Nat.min_eq_left hk]
    rw [this, h9, List.map_take]
theorem wpList_zeros {ops : Array Oper} {rest : List Oper} {o : Oper} {ac : Act} {Q : Exit → Act → World → Prop} (w : World) (hgd : o.guard = none) (s x : Operand)
    (ho : o.op = .call { callee := .builtin .append, args := #[s, x], argTypes := #[40, 3] })
    (B : Nat) (v : Value) (l : List Int) (m : Nat) (hs : ac.eval s = v) (hown : Owns w B v l) (hx : ac.eval x = .int .i64 m)
    (r : List Int) (hr : l ++ List.replicate m 0 = r) (hm : l.length + m ≤ 1048576) (hbase : B ≤ w.heap.size)
    (h : ∀ a' c' w', Owns w' B (.slice a' r.length c') r → r.length ≤ c' → Below B w w' → wpList Try.prog ops Q rest (ac.put o.dst (.slice a' r.length c')) w') : wpList Try.prog ops Q (o :: rest) ac w := by
  subst hr
  obtain ⟨v', w', h1, h2, h3⟩ := run_append_zeros w o.type B v l m hown hm hbase
  refine wpList_plain hgd fun _ hK => ?_
  obtain ⟨a', c', rfl, h4, h5, h6, h7⟩ := h2.form
  unfold Oper.wp execOp
  simp only [ho, resolve, invoke, builtin, Sem.run_bind, Sem.run_pure, Result.andThen_ok, List.map_toArray, List.map_cons, List.map_nil, hs, hx, h1]
  exact hK _ _ (h a' c' w' h2 h4 ((Below.refl _ _).grown h3 hbase fun k hk => (World.ownsRow.lt hown k hk).1))
set_option maxHeartbeats 1000000 in
theorem grow_nil (n : Nat) (w : World) (hn : n ≤ 1048576) :
    Calls Try.prog 77 #[.slice none 0 0, .int .i64 n] w fun e w' => ∃ a' c', e = .returned (.slice a' 0 c') ∧ Owns w' w.heap.size (.slice a' 0 c') [] ∧ Below w.heap.size w w' := by
  by_cases h0 : n = 0
  · subst h0
    go_enter Try.func77, Try.ntmps77
    go_wp2
    go_ret
    exact ⟨none, 0, rfl, Owns.nil _ _, Below.refl _ _⟩
  · have h1 : (n : Int) > 0 := by omega
    have h2 : ¬ (n : Int) < 0 := by omega
    obtain ⟨r, hr⟩ : ∃ r, ([] : List Int) ++ List.replicate n 0 = r := ⟨_, rfl⟩
    have HR : Hid (([] : List Int) ++ List.replicate n 0 = r) := hr
    have hrl : r.length = n := by rw [← hr]; simp
    clear hr
    go_enter Try.func77, Try.ntmps77
    go_wp2_with (at_builtin; refine wpList_zeros (w := w) rfl _ _ rfl w.heap.size (.slice none 0 0) [] n rfl (Owns.nil _ _) rfl r HR.out (by simpa using hn) (Nat.le_refl _) ?_)
    intro a1 c1 w1 o1 hc1 b1
    have o2 := o1.trunc 0 (by omega)
    simp only [List.take_zero] at o2
    have hcm : c1 ≤ 9223372036854775807 := by
      obtain ⟨_, h⟩ := o2
      rcases h with ⟨h3, _⟩ | ⟨g, cap, cur, h3, h4, h5, h6, h7, _⟩
      · simp only [Value.slice.injEq] at h3
        omega
      · simp only [Value.slice.injEq] at h3
        obtain ⟨_, _, rfl⟩ := h3
        unfold maxLen at h7
        omega
    go_wp2
    go_ret
    exact ⟨a1, c1, rfl, o2, b1⟩
theorem flat_le (ls : List (List Int)) (k : Nat) : (ls.take k).flatten.length ≤ ls.flatten.length := by
  have h : ls.flatten = (ls.take k).flatten ++ (ls.drop k).flatten := by rw [← List.flatten_append, List.take_append_drop]
  rw [h, List.length_append]
  omega
set_option maxRecDepth 100000 in
set_option maxHeartbeats 2000000 in
theorem concat_any (a : Option Addr) (cap : Nat) (ls : List (List Int)) (w : World) (h : Rowss w a ls) (hnil : ∀ i, i < ls.length → ∀ a' c', (∃ b off, a = some ⟨b, off, none⟩ ∧ w.cell? ⟨b, off + i, none⟩ = some (.slice a' (ls.getD i []).length c')) → a' = none → c' = 0)
    (r : List Int) (hr : ls.flatten = r) (hl : r.length ≤ 1048576) :
    Calls Try.prog 56 #[.slice a ls.length cap] w fun e w' => ∃ a' c', e = .returned (.slice a' r.length c') ∧ Fresh w w' a' c' r := by
  have hs := h.small
  have hfl := flat_le ls
  rw [hr] at hfl
  have HRR : Hid (ls.flatten = r) := hr
  obtain ⟨N, hN⟩ : ∃ N, r.length = N := ⟨_, rfl⟩
  have HNN : Hid (r.length = N) := hN
  rw [hN] at hfl hl ⊢
  have FL : Hid (∀ k, (ls.take k).flatten.length ≤ N) := hfl
  clear hr hN
  have HN : Hid (∀ i, i < ls.length → ∀ a' c', (∃ b off, a = some ⟨b, off, none⟩ ∧ w.cell? ⟨b, off + i, none⟩ = some (.slice a' (ls.getD i []).length c')) → a' = none → c' = 0) := hnil
  clear hfl hnil
  go_enter Try.func56, Try.ntmps56
  go_wp2
  go_loop [3, 11] (fun t i => ∃ k : Nat, k ≤ ls.length ∧ i = .int .i64 k ∧ t = .int .i64 ((ls.take k).flatten.length : Nat)) (fun _ i => ls.length - (intOf i).toNat)
  case atStart => exact ⟨0, Nat.zero_le _, rfl, rfl⟩
  case round =>
    obtain ⟨k, hk, rfl, rfl⟩ := hrel
    by_cases hlt : k < ls.length
    · obtain ⟨b, off, rfl, hc⟩ := h.cells (by omega)
      obtain ⟨a', c', hcell, hrow⟩ := hc k hlt
      have e1 : (ls.take (k + 1)).flatten.length = (ls.take k).flatten.length + (ls.getD k []).length := by rw [M.takes_snoc ls k hlt, List.length_append]
      have f1 : (ls.take (k + 1)).flatten.length ≤ N := FL.out (k + 1)
      have f0 : (ls.take k).flatten.length ≤ N := FL.out k
      have hlt' : (k : Int) < (ls.length : Int) := by omega
      generalize hL : ls.getD k [] = L at *
      generalize hT : (ls.take k).flatten.length = T at *
      have E1 : Hid ((ls.take (k + 1)).flatten.length = T + L.length) := e1
      have hTL : T + L.length ≤ 1048576 := by omega
      clear hc h e1 hL hT f1 f0
      have hpos : ¬ ((T : Int) + (L.length : Int) < 0) := by omega
      go_wp2
      exact ⟨⟨k + 1, by omega, int_eq (by omega), int_eq (by have := E1.out; omega)⟩, by simp [intOf]; omega⟩
    · have hlt' : ¬ (k : Int) < (ls.length : Int) := by omega
      obtain rfl : k = ls.length := by omega
      have eT : (ls.take ls.length).flatten.length = N := by rw [List.take_length, HRR.out, HNN.out]
      rw [eT]
      clear eT
      go_wp2_with fail
      refine (grow_nil N w hl).mono ?_
      rintro e w1 ⟨a1, c1, rfl, o1, b1⟩
      have h1 := h.below b1
      have O1 : Owns w1 w.heap.size (.slice a1 (ls.take 0).flatten.length c1) (ls.take 0).flatten := o1
      clear o1
      go_wp2
      go_loopw [6, 27] (fun v i w' => ∃ (k : Nat) (a' : Option Addr) (c' : Nat), k ≤ ls.length ∧ i = .int .i64 k ∧ v = .slice a' (ls.take k).flatten.length c' ∧ Hid (Owns w' w.heap.size (.slice a' (ls.take k).flatten.length c') (ls.take k).flatten) ∧ Hid (Below w.heap.size w w')) (fun _ i _ => ls.length - (intOf i).toNat)
      case atStart => exact ⟨0, a1, c1, Nat.zero_le _, rfl, rfl, O1, b1⟩
      case round =>
        obtain ⟨k, a', c', hk, rfl, rfl, ow, bw⟩ := hrel
        have hb := bw.out
        have hw := h.below hb
        have hsz := hb.size
        by_cases hlt : k < ls.length
        · obtain ⟨b, off, rfl, hc⟩ := hw.cells (by omega)
          obtain ⟨a2, c2, hcell, hrow⟩ := hc k hlt
          have hn2 : a2 = none → c2 = 0 := HN.out k hlt a2 c2 ⟨b, off, rfl, by
            obtain ⟨b', off', e, hc'⟩ := h.cells (by omega)
            cases e
            obtain ⟨a3, c3, h3, _⟩ := hc' k hlt
            have hlb : b < w.heap.size := World.block_lt_of_cell? w _ h3
            rw [← hb.cell (p := ⟨b, off + k, none⟩) hlb]
            exact hcell⟩
          have f1 : (ls.take (k + 1)).flatten.length ≤ N := FL.out (k + 1)
          have e1 : (ls.take k).flatten ++ ls.getD k [] = (ls.take (k + 1)).flatten := (M.takes_snoc ls k hlt).symm
          have hby : M.Bytes (ls.take k).flatten := M.AllBytes.takes h.all k
          have hlt' : (k : Int) < (ls.length : Int) := by omega
          have OW := ow.out
          generalize hL : ls.getD k [] = L at *
          generalize hT : (ls.take k).flatten = T at *
          obtain ⟨R, hR⟩ : ∃ R, (ls.take (k + 1)).flatten = R := ⟨_, rfl⟩
          rw [hR] at f1 e1
          have E1 : Hid (T ++ L = R) := e1
          have E2 : Hid ((ls.take (k + 1)).flatten = R) := hR
          have E3 : Hid (Below w.heap.size w _) := hb
          clear hc e1 hL hT hR hw ow bw hb h h1
          go_wp2_with (at_builtin; refine wpList_app2 _ rfl _ _ rfl w.heap.size _ T rfl OW hby a2 c2 L rfl hrow hn2 R E1.out (by omega) hsz ?_)
          intro a4 c4 w4 o4 hc4 hn4 r4 b4 _
          go_wp2
          refine ⟨⟨k + 1, a4, c4, by omega, int_eq (by omega), by rw [E2.out], by rw [E2.out]; exact o4, E3.out.trans b4⟩, by simp [intOf]; omega⟩
        · have hlt' : ¬ (k : Int) < (ls.length : Int) := by omega
          obtain rfl : k = ls.length := by omega
          have OW := ow.out
          rw [List.take_length, HRR.out] at OW ⊢
          rw [HNN.out]
          go_wp2
          go_ret
          have hby : M.Bytes r := by rw [← HRR.out]; exact M.AllBytes.flat h.all
          have hbw := bw.out
          obtain ⟨a5, c5, e5, h5, h6, _⟩ := OW.form
          simp only [Value.slice.injEq] at e5
          obtain ⟨rfl, _, rfl⟩ := e5
          exact ⟨a', c', rfl, OW, h5, h6, OW.row (by rw [HNN.out]; omega) hby, hbw⟩
end Go.Proofs.Ytbghilihccaaaaa
