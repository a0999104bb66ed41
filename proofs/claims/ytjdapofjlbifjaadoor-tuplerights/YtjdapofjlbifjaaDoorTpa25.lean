/- Texts joined: AtI -/
import Derived.Test.YtjdapofjlbifjaaDoorTpa16
import Derived.Test.YtjdapofjlbifjaaDoorTpa24
import Derived.Deep.AppendLies
import Derived.Deep.RegionLaw
import Derived.Deep.RegionHeld3
namespace Go.Proofs.YtjdapofjlbifjaaDoor
open Go.RowKit
set_option linter.unusedVariables false
set_option linter.unusedSimpArgs false
theorem info_intZ : (Tryd.prog.info? 3).map (fun i => (i.zero, i.size, i.bytes)) = some (some (.int .i64 0), 1, 8) := by kernel_rfl
def OwnsZ (w : World) (B : Nat) (v : Value) (l : List Nat) : Prop := w.ownsRow B 3 1 v l.length (l.map fun n : Nat => Value.int .i64 (n : Int))
theorem OwnsZ.below {w w' : World} {B : Nat} {v : Value} {l : List Nat} (h : OwnsZ w B v l) (hb : Below w.heap.size w w') : OwnsZ w' B v l := by
  obtain ⟨h1, h2⟩ := h
  refine ⟨h1, ?_⟩
  rcases h2 with h2 | ⟨g, cap, cur, h3, h4, h5, h6⟩
  · exact .inl h2
  · refine .inr ⟨g, cap, cur, h3, h4, (hb.block g ?_).trans h5, h6⟩
    exact (Array.getElem?_eq_some_iff.1 h5).1
theorem OwnsZ.cells {w : World} {B : Nat} {a : Option Addr} {c : Nat} {l : List Nat} (h : OwnsZ w B (.slice a l.length c) l) (hp : 0 < l.length) : ∃ g, a = some ⟨g, 0, none⟩ ∧ ∀ i, i < l.length → w.cell? ⟨g, i, none⟩ = some (.int .i64 ((l.getD i 0 : Nat) : Int)) := by
  have h0 := h
  obtain ⟨h1, h2⟩ := h
  rcases h2 with ⟨h3, h4⟩ | ⟨g, cap, cur, h3, h4, h5, h6, h7, h8, h9⟩
  · omega
  · simp only [Value.slice.injEq] at h3
    obtain ⟨rfl, _, rfl⟩ := h3
    refine ⟨g, rfl, fun i hi => ?_⟩
    have hc := World.ownsRow.cellAt (e := 3) (size := 1) h0 i (by omega)
    rw [hc]
    simp [hi]
theorem or_words (x y : Int) (hx : 0 ≤ x ∧ x ≤ 255) (hy : 0 ≤ y ∧ y ≤ 255) : bits .or .i64 (x * 256) y = x * 256 + y :=
  bits_join .i64 63 (by decide) wraps_i64 8 (x * 256) y (by omega) (by omega) (by omega) (by omega) (by omega) (by omega)
theorem add_lists (x y : List UInt8) (hx : x.length ≤ 1000) (hy : y.length ≤ 1000) (w : World) : (Op.stringOp .add (ByteArray.mk x.toArray) (ByteArray.mk y.toArray)).run Tryd.prog w = .ok (.string (ByteArray.mk (x ++ y).toArray)) w :=
  run_string_add_lists w x y (by omega) (by omega)
theorem hexS_len (n : Nat) : (hexS n).length ≤ 4 := by
  rw [hexS_eq, List.length_map, List.length_range]
  unfold nd
  repeat' split
  all_goals omega
theorem dec_len (x : Int) (h0 : 0 ≤ x) (h1 : x ≤ 255) : (Lib.itoa x).length ≤ 4 := by
  have := dec_le x h0 h1
  simpa [dec] using this
set_option maxRecDepth 100000 in
set_option maxHeartbeats 4000000 in
theorem rtext_any (f h l : Int) (w : World) (ho : Ad.ok ⟨f, h, l⟩) :
    Calls Tryd.prog 44 #[.agg #[.int .i64 f, .int .u64 h, .int .u64 l]] w fun e w' => e = .returned (.string ⟨(Ad.text ⟨f, h, l⟩).toArray⟩) ∧ Below w.heap.size w w' := by
  have hb := fun w => rbytes_any f h l w ho
  have L := bytes_len ⟨f, h, l⟩
  have hT : Ad.text ⟨f, h, l⟩ = if Ad.right ⟨f, h, l⟩ then (if f = 4 then text4 (Ad.bytes ⟨f, h, l⟩) else text6 (Ad.bytes ⟨f, h, l⟩)) else [] := rfl
  obtain ⟨T, hTT⟩ : ∃ T, Ad.text ⟨f, h, l⟩ = T := ⟨_, rfl⟩
  rw [hTT] at hT ⊢
  generalize Ad.bytes ⟨f, h, l⟩ = b at *
  generalize Ad.right ⟨f, h, l⟩ = R at *
  simp only at L
  have HL : Hid _ := L
  have HT : Hid _ := hT
  clear L hT hTT ho
  go_enter Tryd.func44, Tryd.ntmps44
  go_wp2_with fail
  refine (hb _).mono ?_
  rintro e w1 ⟨a, c, rfl, f1⟩
  have b1 := f1.below
  have r1 := f1.row
  have hby := r1.bytes
  have bw : Below w.heap.size w w1 := ((Below.refl _ _).alloc (Nat.le_refl _) _).trans (b1.mono (by simp))
  have z1 := bw.size
  clear hb f1 b1
  by_cases h4 : R = true ∧ f = 4
  · obtain ⟨rfl, rfl⟩ := h4
    have L4 : b.length = 4 := by have := HL.out; simpa using this
    have T0 : T = text4 b := by have := HT.out; simpa using this
    have i4 : ((b.length : Int) == 4) = true := by rw [L4]; rfl
    have hT4 : Hid (T = Lib.join ((b.take 4).map Lib.itoa) [46]) := by
      show _ = _
      rw [T0, text4, ← L4, List.take_length]
      unfold words4
      rw [List.map_map]
      rfl
    have H4 : Hid (b.length = 4) := L4
    obtain ⟨bk, off, rfl, hcb⟩ := r1.cells (by omega)
    have HC : Hid (∀ i, i < b.length → w1.cell? ⟨bk, off + i, none⟩ = some (.int .u8 (b.getD i 0))) := hcb
    clear T0 L4 HL HT hcb
    go_wp2
    go_loopw [4, 5] (fun s i w' => ∃ (k m : Nat) (acc : List UInt8), k ≤ 4 ∧ s = .string (ByteArray.mk acc.toArray) ∧ i = .int .i64 k ∧ acc.length ≤ 5 * k ∧ w' = w1.drewN m ∧ Hid (acc = Lib.join ((b.take k).map Lib.itoa) [46])) (fun _ i _ => 4 - (intOf i).toNat)
    case atStart => exact ⟨0, 0, [], Nat.zero_le _, rfl, rfl, Nat.le_refl _, rfl, rfl⟩
    case round =>
      obtain ⟨k, m, acc, hk, rfl, rfl, hl, rfl, hr⟩ := hrel
      by_cases hlt : k < 4
      · have ilt : (k : Int) < 4 := by omega
        have hkb : k < b.length := by rw [H4.out]; exact hlt
        have hx := hby.get k
        have cx : (w1.drewN m).cell? ⟨bk, off + k, none⟩ = some (.int .u8 (b.getD k 0)) := HC.out k hkb
        have hsn : Lib.join ((b.take (k + 1)).map Lib.itoa) [46] = if (b.take k).map Lib.itoa = [] then Lib.itoa (b.getD k 0) else Lib.join ((b.take k).map Lib.itoa) [46] ++ 46 :: Lib.itoa (b.getD k 0) := by
          rw [List.take_succ_eq_append_getElem hkb, List.map_append, List.map_cons, List.map_nil, join_snoc]
          simp [hkb]
        have hil := dec_len (b.getD k 0) hx.1 hx.2
        obtain ⟨x, hxx⟩ : ∃ x, b.getD k 0 = x := ⟨_, rfl⟩
        rw [hxx] at cx hx hsn hil
        obtain ⟨xn, rfl⟩ := Int.eq_ofNat_of_zero_le hx.1
        have hdg := rdigits10_any xn (w1.drewN m) (by omega)
        rw [dg10 40 xn [] (by show xn < 2 ^ 40; omega) (by omega), List.append_nil, ← Lib.itoa_nonneg] at hdg
        have hib : (k : Int) < (b.length : Int) := by omega
        generalize Lib.itoa (xn : Int) = d at *
        clear hxx
        by_cases hk0 : k = 0
        · have hk1 : ¬ (0 : Int) < (k : Int) := by omega
          have hacc : acc = [] := by rw [hr.out, hk0]; rfl
          have hq : Hid (d = Lib.join ((b.take (k + 1)).map Lib.itoa) [46]) := by show _ = _; rw [hsn, hk0]; simp
          have hadd := add_lists acc d (by omega) (by omega)
          rw [show acc ++ d = d by rw [hacc]; rfl] at hadd
          clear hsn hr hacc hk0
          go_wp2_with (go_at_call 45; refine hdg.mono ?_; rintro e w' ⟨rfl, m2, rfl⟩)
          exact ⟨⟨k + 1, _, d, by omega, by first | rfl | trivial, int_eq (by omega), by omega, rfl, hq⟩, by simp [intOf]; omega⟩
        · have hk1 : (0 : Int) < (k : Int) := by omega
          have hne : ¬ (b.take k).map Lib.itoa = [] := by
            intro e
            have := congrArg List.length e
            rw [List.length_map, List.length_take, List.length_nil] at this
            omega
          rw [if_neg hne, ← hr.out] at hsn
          have hq : Hid (acc ++ [46] ++ d = Lib.join ((b.take (k + 1)).map Lib.itoa) [46]) := by show _ = _; rw [hsn]; simp
          have hadd := add_lists acc [46] (by omega) (by simp)
          have hadd1 : ∀ W, (Op.stringOp .add (ByteArray.mk acc.toArray) (ByteArray.mk #[46])).run Tryd.prog W = .ok (.string (ByteArray.mk (acc ++ [46]).toArray)) W := hadd
          have hadd2 := add_lists (acc ++ [46]) d (by simp; omega) (by omega)
          have hll : (acc ++ [46] ++ d).length ≤ 5 * (k + 1) := by simp; omega
          generalize acc ++ [46] ++ d = acc2 at *
          generalize acc ++ [46] = acc1 at *
          clear hsn hr hadd hne hk0
          go_wp2_with (go_at_call 45; refine hdg.mono ?_; rintro e w' ⟨rfl, m2, rfl⟩)
          exact ⟨⟨k + 1, _, acc2, by omega, by first | rfl | trivial, int_eq (by omega), hll, rfl, hq⟩, by simp [intOf]; omega⟩
      · have ek : k = 4 := by omega
        subst ek
        have ilt : ¬ ((4 : Nat) : Int) < 4 := by omega
        obtain rfl : T = acc := by rw [hT4.out, hr.out]
        clear hr hT4
        go_wp2
        go_ret
        exact ⟨rfl, below_drewN bw m⟩
  · obtain ⟨N, hN, hN8, hN4, hTN⟩ : ∃ N, b.length = 2 * N ∧ N ≤ 8 ∧ b.length ≠ 4 ∧ ∃ G : List Nat, G = (List.range N).map (word b) ∧
        T = ogF G (fmB (G.map fun n => decide (n = 0)) 0 (-1) 1).1 (fmB (G.map fun n => decide (n = 0)) 0 (-1) 1).2 (N + 1) 0 [] ∧
        (((fmB (G.map fun n => decide (n = 0)) 0 (-1) 1).1 = -1 ∧ (fmB (G.map fun n => decide (n = 0)) 0 (-1) 1).2 = 1) ∨ (0 ≤ (fmB (G.map fun n => decide (n = 0)) 0 (-1) 1).1 ∧ (fmB (G.map fun n => decide (n = 0)) 0 (-1) 1).1 + (fmB (G.map fun n => decide (n = 0)) 0 (-1) 1).2 ≤ N ∧ 2 ≤ (fmB (G.map fun n => decide (n = 0)) 0 (-1) 1).2)) := by
      cases R with
      | false =>
        have L0 : b.length = 0 := by simpa using HL.out
        have T0 : T = [] := by simpa using HT.out
        exact ⟨0, by omega, by omega, by omega, [], rfl, by rw [T0]; rfl, .inl ⟨rfl, rfl⟩⟩
      | true =>
        have hf : ¬ f = 4 := fun e => h4 ⟨rfl, e⟩
        have L6 : b.length = 16 := by have := HL.out; simpa [hf] using this
        have T0 : T = text6 b := by have := HT.out; simpa [hf] using this
        refine ⟨8, by omega, by omega, by omega, gwords b, rfl, ?_, ?_⟩
        · rw [T0, ← gtext b hby]; rfl
        · have := fm_bd b
          exact this
    obtain ⟨G, hG, hTG, hfm⟩ := hTN
    have HN : Hid (b.length = 2 * N) := hN
    have HG : Hid (G = (List.range N).map (word b)) := hG
    have HTG : Hid _ := hTG
    have HFM : Hid _ := hfm
    have i4 : ((b.length : Int) == 4) = false := by simp; omega
    have hrow : Hid (Row w1 a b) := r1
    have hGl : G.length = N := by rw [hG]; simp
    have HGl : Hid (G.length = N) := hGl
    clear h4 HL HT hN hG hTG hfm r1 hN4 hGl
    go_wp2
    go_loopw [6, 7] (fun v i w' => ∃ (j : Nat) (l : List Nat) (a' : Option Addr) (c' : Nat), j ≤ N ∧ v = .slice a' l.length c' ∧ i = .int .i64 ((2 * j : Nat) : Int) ∧ l.length ≤ j ∧ OwnsZ w' w1.heap.size (.slice a' l.length c') l ∧ Below w1.heap.size w1 w' ∧ Hid (l = G.take j)) (fun _ i _ => 2 * N - (intOf i).toNat)
    case atStart => exact ⟨0, [], none, 0, Nat.zero_le _, rfl, rfl, Nat.le_refl _, World.ownsRow_nil _ _ _ _, Below.refl _ _, rfl⟩
    case round =>
      obtain ⟨j, l, a', c', hj, rfl, rfl, hl, own, bel, hr⟩ := hrel
      have zr := bel.size
      by_cases hlt : j < N
      · have hjb : 2 * j + 1 < b.length := by rw [HN.out]; omega
        obtain ⟨bk, off, ha, hcb⟩ := (hrow.out.below bel).cells (by omega)
        subst ha
        have hx := hby.get (2 * j)
        have hy := hby.get (2 * j + 1)
        have cx := hcb (2 * j) (by omega)
        have cy := hcb (2 * j + 1) hjb
        have hU : ((word b j : Nat) : Int) = 256 * b.getD (2 * j) 0 + b.getD (2 * j + 1) 0 := by unfold word; omega
        have hGj : Hid (l ++ [word b j] = G.take (j + 1)) := by
          show _ = _
          have hjG : j < G.length := by rw [HGl.out]; exact hlt
          rw [List.take_succ_eq_append_getElem hjG, ← hr.out]
          congr 1
          simp only [HG.out]
          simp
        generalize b.getD (2 * j) 0 = x at *
        generalize b.getD (2 * j + 1) 0 = y at *
        generalize word b j = U at *
        have hor : bits .or .i64 (x * 256) y = (U : Int) := by rw [or_words x y hx hy]; omega
        have wU : (U : Int) ≤ 65535 := by omega
        have i1 : ((2 * j : Nat) : Int) + 1 < (b.length : Int) := by omega
        have i0 : ((2 * j : Nat) : Int) < (b.length : Int) := by omega
        clear hU hcb hr
        obtain ⟨p, hp⟩ : ∃ p, 2 * j = p := ⟨_, rfl⟩
        rw [hp] at cx cy i0 i1 hjb ⊢
        have HP : Hid (2 * j = p) := hp
        have hp14 : p ≤ 14 := by omega
        have i2 : (0 : Int) ≤ (p : Int) + 1 := by omega
        have i3 : ((p : Int) + 1).toNat = p + 1 := by omega
        have wp1 : IntKind.i64.wrap ((p : Int) + 1) = (p : Int) + 1 := wraps_i64 _ (by omega) (by omega)
        have wx1 : IntKind.i64.wrap x = x := wraps_i64 _ (by omega) (by omega)
        have wy1 : IntKind.i64.wrap y = y := wraps_i64 _ (by omega) (by omega)
        have wx2 : IntKind.i64.wrap (x * 256) = x * 256 := wraps_i64 _ (by omega) (by omega)
        have HLT : Hid (j < N) := hlt
        clear hp hlt
        obtain ⟨i9, hi, hz0, hz1, hz2⟩ := info_parts info_intZ
        have OWN : Hid ((wr.alloc (.cells #[.int .i64 (U : Int)] 3)).ownsRow w1.heap.size 3 1 (.slice a' l.length c') l.length (l.map fun n : Nat => Value.int .i64 (n : Int))) := World.ownsRow.alloc own _
        have NEW : Hid (∀ j u, ([.int .i64 (U : Int)] : List Value)[j]? = some u → (wr.alloc (.cells #[.int .i64 (U : Int)] 3)).cell? ((⟨wr.heap.size, 0, none⟩ : Addr).add j) = some u) :=
          World.news_of_block (cs := #[.int .i64 (U : Int)]) (t := 3) (fr := (0, 0)) (World.heap_new wr _)
        go_wp2_with fail
        go_region_law (refine step_append_lies _ rfl (.tmp 42) (.tmp 56) 44 rfl w1.heap.size 3 i9 (.int .i64 0) 1 8 Tryd.underlying44 hi hz0 hz1 hz2 rfl (by decide) (.slice a' l.length c') l.length (l.map fun n : Nat => Value.int .i64 (n : Int)) (by simp [Act.eval, Act.put]) OWN.out ⟨wr.heap.size, 0, none⟩ 1 1 [.int .i64 (U : Int)] (by simp [Act.eval, Act.put]) rfl NEW.out (by simp [Value.oneCell']) (by decide) (by unfold maxLen; omega) (by omega) (by show w1.heap.size ≤ (wr.alloc _).heap.size; rw [World.size_alloc]; omega) (wr.heap.size + 1) (by show (wr.alloc _).heap.size = _; rw [World.size_alloc]) ?_; intro gx cx' w3 hown3 hgrow3 hat hlt3)
        all_goals (
          have own3 : OwnsZ w3 w1.heap.size (.slice (some ⟨gx, 0, none⟩) (l ++ [U]).length cx') (l ++ [U]) := by
            show World.ownsRow _ _ _ _ _ (l ++ [U]).length ((l ++ [U]).map fun n : Nat => Value.int .i64 (n : Int))
            rw [List.length_append, List.map_append]
            exact hown3
          have hll : (l ++ [U]).length = l.length + 1 := by simp
          have bel3 : Below w1.heap.size w1 w3 := (bel.alloc zr _).trans (((Below.refl _ _).drew).trans ((Below.refl _ _).grown hgrow3 (by show w1.heap.size ≤ (wr.alloc _).heap.size; rw [World.size_alloc]; omega) fun k hk => (World.ownsRow.lt own k hk).1))
          rw [← hll]
          rw [← hll] at hown3
          generalize l ++ [U] = l2 at *
          have hl2 : l2.length ≤ j + 1 := by omega
          clear hown3 hgrow3 hat OWN NEW own hll
          go_wp2
          exact ⟨⟨j + 1, l2, _, cx', (by have := HLT.out; omega), by first | rfl | trivial, int_eq (by have := HP.out; omega), hl2, own3, bel3, hGj⟩, by have := HP.out; have := HLT.out; simp [intOf]; omega⟩)
      · have ej : j = N := by omega
        subst ej
        obtain rfl : l = G := by rw [hr.out, ← HGl.out, List.take_length]
        have i1 : ¬ ((2 * j : Nat) : Int) + 1 < (b.length : Int) := by rw [HN.out]; omega
        have cells : Hid (∀ i, i < l.length → ∃ g, a' = some ⟨g, 0, none⟩ ∧ wr.cell? ⟨g, i, none⟩ = some (.int .i64 ((l.getD i 0 : Nat) : Int))) := fun i hi => by
          obtain ⟨g, h1, h2⟩ := own.cells (by omega)
          exact ⟨g, h1, h2 i hi⟩
        have hwd : Hid (∀ i, i < l.length → l.getD i 0 < 65536) := fun i hi => by
          rw [HG.out] at hi ⊢
          simp at hi
          simp [hi]
          exact word_lt b hby i
        have belw : Below w.heap.size w wr := bw.trans (bel.mono z1)
        generalize hzs : (l.map fun n => decide (n = 0)) = zs at *
        have HZ : Hid (∀ i, i < l.length → zs[i]? = some (decide (l.getD i 0 = 0))) := fun i hi => by rw [← hzs]; simp [hi]
        have hzl : Hid (zs.length = l.length) := by show _ = _; rw [← hzs]; simp
        generalize hFM : fmB zs 0 (-1) 1 = FM at *
        have HFM0 : Hid (fmB (zs.drop 0) 0 (-1) 1 = FM) := hFM
        obtain ⟨W2, hW2⟩ : ∃ W2, wr = W2 := ⟨_, rfl⟩
        rw [hW2] at cells belw
        have HJ : Hid (l.length = j) := HGl.out
        have il : (l.length : Int) = (j : Int) := by rw [HJ.out]
        clear hr hFM hzs own bel hrow zr HGl HG HN
        rw [hW2]
        clear hW2
        go_wp2
        go_loopw [8, 9, 10] (fun a b c w' => ∃ (i m : Nat) (fr : Int), i ≤ j ∧ a = .int .i64 fr ∧ b = .int .i64 m ∧ c = .int .i64 i ∧ -1 ≤ fr ∧ fr ≤ 8 ∧ m ≤ 8 ∧ w' = W2 ∧ Hid (fmB (zs.drop i) i fr m = FM)) (fun _ _ c _ => j - (intOf c).toNat)
        case atStart => exact ⟨0, 1, -1, Nat.zero_le _, rfl, rfl, rfl, by omega, by omega, by omega, rfl, HFM0⟩
        case round =>
          obtain ⟨i, m, fr, hi, rfl, rfl, rfl, hf0, hf1, hm, hw', hr⟩ := hrel
          obtain rfl : W2 = wr := hw'.symm
          by_cases hij : i < j
          · have ilt : (i : Int) < (l.length : Int) := by omega
            have HIJ : Hid (i < j) := hij
            clear hij
            go_wp2
            go_loopw [11] (fun a w' => ∃ n : Nat, a = .int .i64 n ∧ i + n ≤ j ∧ w' = W2 ∧ Hid (zrB (zs.drop i) = n + zrB (zs.drop (i + n)))) (fun a _ => j - (intOf a).toNat)
            case atStart => exact ⟨0, rfl, by have := HIJ.out; omega, rfl, by show _ = _; simp⟩
            case round =>
              obtain ⟨n, rfl, hn, hw', hz⟩ := hrel
              obtain rfl : W2 = wr := hw'.symm
              have step : Hid (∀ n' : Nat, n' = zrB (zs.drop i) → (n' ≤ 8 ∧ (if m < n' then fmB (zs.drop (i + 1)) (i + 1) (i : Int) n' else fmB (zs.drop (i + 1)) (i + 1) fr m) = FM)) := fun n' h => by
                have hz1 := zrB_le (zs.drop i)
                rw [List.length_drop, hzl.out, HJ.out] at hz1
                have h1 := hr.out
                have hizs : i < zs.length := by rw [hzl.out, HJ.out]; exact HIJ.out
                rw [List.drop_eq_getElem_cons hizs] at h1
                unfold fmB at h1
                rw [← List.drop_eq_getElem_cons hizs, ← h] at h1
                exact ⟨by omega, h1⟩
              by_cases hin : i + n < j
              · have iin : (i : Int) + (n : Int) < (l.length : Int) := by omega
                obtain ⟨g, ha, hc⟩ := cells.out (i + n) (by rw [HJ.out]; exact hin)
                subst ha
                have hzi := HZ.out (i + n) (by rw [HJ.out]; exact hin)
                obtain ⟨v, hv⟩ : ∃ v, l.getD (i + n) 0 = v := ⟨_, rfl⟩
                rw [hv] at hc hzi
                have hinz : i + n < zs.length := by rw [hzl.out, HJ.out]; exact hin
                have hd := List.drop_eq_getElem_cons hinz
                rw [show zs[i + n] = decide (v = 0) from by rw [List.getElem?_eq_getElem hinz] at hzi; exact Option.some.inj hzi] at hd
                by_cases hv0 : v = 0
                · have hq : Hid (zrB (zs.drop i) = (n + 1) + zrB (zs.drop (i + (n + 1)))) := by
                    show zrB (zs.drop i) = (n + 1) + zrB (zs.drop (i + n + 1))
                    rw [hz.out, hd]
                    conv => lhs; unfold zrB
                    rw [if_pos (by simp [hv0])]
                    omega
                  have iv : ((v : Int) == 0) = true := by simp; omega
                  clear hz hzi hd hv hv0 step hr
                  go_wp2
                  all_goals exact ⟨⟨n + 1, int_eq (by omega), by omega, by first | rfl | trivial, hq⟩, by simp [intOf]; omega⟩
                · have hq : zrB (zs.drop i) = n := by
                    rw [hz.out, hd]
                    unfold zrB
                    rw [if_neg (by simp [hv0])]
                    omega
                  have iv : ((v : Int) == 0) = false := by simp; omega
                  obtain ⟨n8, hstep⟩ := step.out n hq.symm
                  have HS : Hid _ := hstep
                  clear hz hzi hd hv hv0 step hr hq hstep
                  by_cases hmn : m < n
                  · have imn : (m : Int) < (n : Int) := by omega
                    have hq2 : Hid (fmB (zs.drop (i + 1)) (i + 1) (i : Int) n = FM) := by have := HS.out; rw [if_pos hmn] at this; exact this
                    clear HS hmn
                    go_wp2
                    all_goals exact ⟨⟨i + 1, n, (i : Int), (by have := HIJ.out; omega), by first | rfl | trivial, by first | rfl | trivial, int_eq (by omega), by omega, by omega, n8, by first | rfl | trivial, hq2⟩, by have := HIJ.out; simp [intOf]; omega⟩
                  · have imn : ¬ (m : Int) < (n : Int) := by omega
                    have hq2 : Hid (fmB (zs.drop (i + 1)) (i + 1) fr m = FM) := by have := HS.out; rw [if_neg hmn] at this; exact this
                    clear HS hmn
                    go_wp2
                    all_goals exact ⟨⟨i + 1, m, fr, (by have := HIJ.out; omega), by first | rfl | trivial, by first | rfl | trivial, int_eq (by omega), hf0, hf1, hm, by first | rfl | trivial, hq2⟩, by have := HIJ.out; simp [intOf]; omega⟩
              · have iin : ¬ (i : Int) + (n : Int) < (l.length : Int) := by omega
                have hq : zrB (zs.drop i) = n := by
                  rw [hz.out, List.drop_eq_nil_iff.2 (by rw [hzl.out, HJ.out]; omega)]
                  rfl
                obtain ⟨n8, hstep⟩ := step.out n hq.symm
                have HS : Hid _ := hstep
                clear hz step hr hq hstep
                by_cases hmn : m < n
                · have imn : (m : Int) < (n : Int) := by omega
                  have hq2 : Hid (fmB (zs.drop (i + 1)) (i + 1) (i : Int) n = FM) := by have := HS.out; rw [if_pos hmn] at this; exact this
                  clear HS hmn
                  go_wp2
                  all_goals exact ⟨⟨i + 1, n, (i : Int), (by have := HIJ.out; omega), by first | rfl | trivial, by first | rfl | trivial, int_eq (by omega), by omega, by omega, n8, by first | rfl | trivial, hq2⟩, by have := HIJ.out; simp [intOf]; omega⟩
                · have imn : ¬ (m : Int) < (n : Int) := by omega
                  have hq2 : Hid (fmB (zs.drop (i + 1)) (i + 1) fr m = FM) := by have := HS.out; rw [if_neg hmn] at this; exact this
                  clear HS hmn
                  go_wp2
                  all_goals exact ⟨⟨i + 1, m, fr, (by have := HIJ.out; omega), by first | rfl | trivial, by first | rfl | trivial, int_eq (by omega), hf0, hf1, hm, by first | rfl | trivial, hq2⟩, by have := HIJ.out; simp [intOf]; omega⟩
          · have ilt : ¬ (i : Int) < (l.length : Int) := by omega
            have hFM : FM = (fr, m) := by
              rw [← hr.out, List.drop_eq_nil_iff.2 (by rw [hzl.out, HJ.out]; omega)]
              rfl
            have hfm := HFM.out
            have htg := HTG.out
            rw [hFM] at hfm htg
            simp only at hfm htg
            have HFM2 : Hid ((fr = -1 ∧ m = 1) ∨ (0 ≤ fr ∧ fr + m ≤ j ∧ 2 ≤ m)) := hfm
            have HT2 : Hid (ogF l fr m (j + 1) 0 [] = T) := htg.symm
            clear hr hFM HFM HTG hfm htg HFM0 hij
            go_wp2
            go_loopw [4, 12] (fun s c w' => ∃ (k f md : Nat) (acc : List UInt8), k ≤ j ∧ s = .string (ByteArray.mk acc.toArray) ∧ c = .int .i64 k ∧ acc.length ≤ 6 * k ∧ j + 1 ≤ f + k ∧ w' = W2.drewN md ∧ Hid (ogF l fr m f k acc = T)) (fun _ c _ => j - (intOf c).toNat)
            case atStart => exact ⟨0, j + 1, 0, [], Nat.zero_le _, rfl, rfl, Nat.le_refl _, Nat.le_refl _, rfl, HT2⟩
            case round =>
              obtain ⟨k, f', md, acc, hk, rfl, rfl, hal, hfk, rfl, hr⟩ := hrel
              obtain ⟨f2, rfl⟩ : ∃ f2, f' = f2 + 1 := ⟨f' - 1, by omega⟩
              have hr1 := hr.out
              unfold ogF at hr1
              by_cases hkj : k < j
              · rw [if_pos (by rw [HJ.out]; exact hkj)] at hr1
                have ilk : (k : Int) < (l.length : Int) := by omega
                by_cases hkf : (k : Int) = fr
                · rw [if_pos hkf] at hr1
                  obtain ⟨h1, h2⟩ : k + m ≤ j ∧ 2 ≤ m := by rcases HFM2.out with h | h <;> omega
                  have ieq : ((k : Int) == fr) = true := by simp [hkf]
                  have hadd := add_lists acc [58, 58] (by omega) (by simp)
                  have hadd1 : ∀ W, (Op.stringOp .add (ByteArray.mk acc.toArray) (ByteArray.mk #[58, 58])).run Tryd.prog W = .ok (.string (ByteArray.mk (acc ++ [58, 58]).toArray)) W := hadd
                  have hll : (acc ++ [58, 58]).length ≤ 6 * (k + m) := by simp; omega
                  generalize acc ++ [58, 58] = acc2 at *
                  have hq : Hid (ogF l fr m f2 (k + m) acc2 = T) := hr1
                  have HKF : Hid ((k : Int) = fr) := hkf
                  clear hr hr1 hadd hkf
                  go_wp2
                  all_goals exact ⟨⟨k + m, f2, md, acc2, h1, by first | rfl | trivial, int_eq (by omega), hll, by omega, by first | rfl | trivial, hq⟩, by simp [intOf]; omega⟩
                · rw [if_neg hkf] at hr1
                  have ieq : ((k : Int) == fr) = false := by simp [hkf]
                  obtain ⟨g, ha, hc⟩ := cells.out k (by rw [HJ.out]; exact hkj)
                  subst ha
                  have hv := hwd.out k (by rw [HJ.out]; exact hkj)
                  generalize l.getD k 0 = v at *
                  have hc' : (W2.drewN md).cell? ⟨g, k, none⟩ = some (.int .i64 (v : Int)) := hc
                  have hdg := rdigits16_any v (W2.drewN md) (by omega)
                  rw [dg16 v hv] at hdg
                  have hdl := hexS_len v
                  generalize hexS v = d at *
                  clear hr hc
                  by_cases hcond : 0 < k ∧ (fr < 0 ∨ ¬ (k : Int) = fr + m)
                  · rw [if_pos hcond] at hr1
                    have hadd := add_lists acc [58] (by omega) (by simp)
                    have hadd1 : ∀ W, (Op.stringOp .add (ByteArray.mk acc.toArray) (ByteArray.mk #[58])).run Tryd.prog W = .ok (.string (ByteArray.mk (acc ++ [58]).toArray)) W := hadd
                    have hadd2 := add_lists (acc ++ [58]) d (by simp; omega) (by omega)
                    have hll : (acc ++ [58] ++ d).length ≤ 6 * (k + 1) := by simp; omega
                    generalize acc ++ [58] ++ d = acc2 at *
                    generalize acc ++ [58] = acc1 at *
                    have hq : Hid (ogF l fr m f2 (k + 1) acc2 = T) := hr1
                    have ik0 : (0 : Int) < (k : Int) := by omega
                    by_cases hfr : fr < 0
                    · clear hr1 hadd hkf hcond
                      go_wp2_with (go_at_call 45; refine hdg.mono ?_; rintro e w' ⟨rfl, m2, rfl⟩)
                      all_goals exact ⟨⟨k + 1, f2, _, acc2, by omega, by first | rfl | trivial, int_eq (by omega), hll, by omega, rfl, hq⟩, by simp [intOf]; omega⟩
                    · have ine : ((k : Int) != fr + (m : Int)) = true := by simp; rcases hcond.2 with h | h; omega; exact h
                      clear hr1 hadd hkf hcond
                      go_wp2_with (go_at_call 45; refine hdg.mono ?_; rintro e w' ⟨rfl, m2, rfl⟩)
                      all_goals exact ⟨⟨k + 1, f2, _, acc2, by omega, by first | rfl | trivial, int_eq (by omega), hll, by omega, rfl, hq⟩, by simp [intOf]; omega⟩
                  · rw [if_neg hcond] at hr1
                    have hadd2 := add_lists acc d (by omega) (by omega)
                    have hll : (acc ++ d).length ≤ 6 * (k + 1) := by simp; omega
                    generalize acc ++ d = acc2 at *
                    have hq : Hid (ogF l fr m f2 (k + 1) acc2 = T) := hr1
                    by_cases hk0 : 0 < k
                    · have ik0 : (0 : Int) < (k : Int) := by omega
                      have hfr : ¬ fr < 0 := fun h => hcond ⟨hk0, .inl h⟩
                      have ine : ((k : Int) != fr + (m : Int)) = false := by
                        have : (k : Int) = fr + m := Classical.byContradiction fun h => hcond ⟨hk0, .inr h⟩
                        simp [this]
                      clear hr1 hkf hcond
                      go_wp2_with (go_at_call 45; refine hdg.mono ?_; rintro e w' ⟨rfl, m2, rfl⟩)
                      all_goals exact ⟨⟨k + 1, f2, _, acc2, by omega, by first | rfl | trivial, int_eq (by omega), hll, by omega, rfl, hq⟩, by simp [intOf]; omega⟩
                    · have ik0 : ¬ (0 : Int) < (k : Int) := by omega
                      clear hr1 hkf hcond
                      go_wp2_with (go_at_call 45; refine hdg.mono ?_; rintro e w' ⟨rfl, m2, rfl⟩)
                      all_goals exact ⟨⟨k + 1, f2, _, acc2, by omega, by first | rfl | trivial, int_eq (by omega), hll, by omega, rfl, hq⟩, by simp [intOf]; omega⟩
              · rw [if_neg (by rw [HJ.out]; exact hkj)] at hr1
                have ilk : ¬ (k : Int) < (l.length : Int) := by omega
                subst hr1
                clear hr HT2
                go_wp2
                go_ret
                exact ⟨rfl, below_drewN belw md⟩
end Go.Proofs.YtjdapofjlbifjaaDoor
