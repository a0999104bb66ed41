/- Texts joined: CmA CmB CkY -/
import Derived.Test.YtgppfkbapieneaaDoorChx18
import Derived.Test.YtgppfkbapieneaaDoorChx38
import Derived.Laws.AppendOwnNone
namespace Go.Proofs.YtgppfkbapieneaaDoor
open Go.RowKit
set_option linter.unusedVariables false
set_option linter.unusedSimpArgs false
/-- The error of a cut. -/
def errC (l : List Rl) (dim : Int) : Int := if 0 ≤ dim ∧ dim < 7 then (if 64 < l.length then 17 else if l.all (·.right) then 0 else 1) else 1
theorem err_ok {l : List Rl} {dim : Int} (h : errC l dim = 0) : ∃ d : Nat, dim = (d : Int) ∧ d < 7 ∧ l.length ≤ 64 ∧ ∀ r ∈ l, r.right = true := by
  unfold errC at h
  split at h
  · split at h
    · cases h
    · split at h
      · rename_i h1 h2 h3
        exact ⟨dim.toNat, by omega, by omega, by omega, fun r hr => List.all_eq_true.1 h3 r hr⟩
      · cases h
  · cases h
theorem cut_err (a : Option Addr) (c : Nat) (l : List Rl) (dim : Int) (w : World) (hT : Top w) (hrow : RowR w a l) (h : errC l dim ≠ 0) :
    Calls Tryd.prog 10 #[.slice a l.length c, .int .i64 dim] w fun e w' => e = .returned (.tuple #[.agg zc, .int .i64 (errC l dim)]) ∧ Below w.heap.size w w' := by
  unfold errC at h ⊢
  by_cases hd : 0 ≤ dim ∧ dim < 7
  · rw [if_pos hd] at h ⊢
    by_cases hn : 64 < l.length
    · rw [if_pos hn]
      exact cut_many a l.length c dim w hd hn
    · rw [if_neg hn] at h ⊢
      by_cases ha : l.all (·.right) = true
      · rw [if_pos ha] at h
        exact absurd rfl h
      · rw [if_neg ha]
        obtain ⟨d, rfl⟩ : ∃ d : Nat, dim = (d : Int) := ⟨dim.toNat, by omega⟩
        refine cut_wrong a c l d w hT (by omega) hrow (by omega) ?_
        simp only [List.all_eq_true, Classical.not_forall] at ha
        obtain ⟨r, hr, hf⟩ := ha
        exact ⟨r, hr, by simpa using hf⟩
  · rw [if_neg hd]
    exact cut_dim a l.length c dim w hd
/-- A cut in memory of one's own. -/
structure CutIn (w : World) (B : Nat) (g1 c1 : Nat) (ka : Option Addr) (kc : Nat) (sa : Option Addr) (sc : Nat) (vs : List Value) (L : List Pt) (K : List Nat) (S : List (List Nat)) : Prop where
  sts : OwnP w B (some ⟨g1, 0, none⟩) c1 L
  cls : OwnI w B ka kc K
  set : SetsO w B sa sc S vs
theorem CutIn.below {w w' : World} {B g1 c1 : Nat} {ka : Option Addr} {kc : Nat} {sa : Option Addr} {sc : Nat} {vs : List Value} {L : List Pt} {K : List Nat} {S : List (List Nat)} (h : CutIn w B g1 c1 ka kc sa sc vs L K S) (hb : Below w.heap.size w w') : CutIn w' B g1 c1 ka kc sa sc vs L K S :=
  ⟨h.sts.below hb, h.cls.below hb, h.set.below hb⟩
/-- What is known of the plain cut. -/
structure CutP (l : List Rl) (d : Nat) (L : List Pt) (K : List Nat) (S : List (List Nat)) : Prop where
  stn : L.map Pt.n = startsL (spns l d)
  ok : ∀ p ∈ L, p.ok
  cls : K = classL (rowL (spns l d))
  set : S = setsL (rowL (spns l d))
  len : K.length = L.length
  few : L.length ≤ 2 * l.length + 1
  num : S.length ≤ L.length
  each : ∀ s ∈ S, s.length ≤ l.length
  right : RightC L (ints K) (S.map ints)
theorem cutP_mk {l : List Rl} {d : Nat} {L : List Pt} (hl : ∀ r ∈ l, r.ok ∧ r.right = true) (hd : d < 7) (hs : L.Pairwise fun p q => p.n < q.n) (hn : L.map Pt.n = startsL (spns l d)) (hok : ∀ p ∈ L, p.ok) (hf : L.length ≤ 2 * l.length + 1) : CutP l d L (classL (rowL (spns l d))) (setsL (rowL (spns l d))) := by
  have hlen : L.length = (startsL (spns l d)).length := by rw [← hn, List.length_map]
  have hrl : (rowL (spns l d)).length = L.length := by rw [rowL, List.length_map, hlen]
  refine ⟨hn, hok, rfl, rfl, by rw [class_len, hrl], hf, ?_, fun s hs' => ?_, cut_right hl hd hs hn hok⟩
  · have := sets_len (rowL (spns l d))
    rw [hrl] at this
    exact this
  · have h1 := sets_mem hs'
    unfold rowL at h1
    obtain ⟨z, _, rfl⟩ := List.mem_map.1 h1
    have := List.length_filter_le (fun i => ((spns l d)[i]?.map (·.holds z)).getD false) (List.range (spns l d).length)
    unfold setOf
    simpa using this
theorem cut_ok (a : Option Addr) (c : Nat) (l : List Rl) (dim : Int) (w : World) (hT : Top w) (hrow : RowR w a l) (h : errC l dim = 0) :
    Calls Tryd.prog 10 #[.slice a l.length c, .int .i64 dim] w fun e w' => ∃ g1 c1 ka kc sa sc vs L K S, e = .returned (.tuple #[.agg #[.slice (some ⟨g1, 0, none⟩) L.length c1, .slice ka L.length kc, .slice sa S.length sc], .int .i64 0]) ∧ CutIn w' w.heap.size g1 c1 ka kc sa sc vs L K S ∧ CutP l dim.toNat L K S ∧ Below w.heap.size w w' := by
  obtain ⟨d, rfl, hd, hl, hr⟩ := err_ok h
  refine (cut_yes a c l d w hT hl hrow hd hr).mono ?_
  rintro e w' ⟨g1, c1, L, ka, kc, sa, sc, vs, rfl, h1, h2, h3, hs, hm, hll, hb⟩
  have hlr : ∀ r ∈ l, r.ok ∧ r.right = true := fun r hr' => ⟨hrow.each r hr', hr r hr'⟩
  obtain ⟨hn, hok⟩ := cut_starts hlr hd hs hm
  have er := cut_rows hlr hd hn hok
  rw [er] at h2 h3
  rw [er]
  rw [Int.toNat_natCast]
  exact ⟨g1, c1, ka, kc, sa, sc, vs, L, _, _, rfl, ⟨h1, h2, h3⟩, cutP_mk hlr hd hs hn hok hll, hb⟩
theorem CutIn.rp {w : World} {B g1 c1 : Nat} {ka : Option Addr} {kc : Nat} {sa : Option Addr} {sc : Nat} {vs : List Value} {L : List Pt} {K : List Nat} {S : List (List Nat)} (h : CutIn w B g1 c1 ka kc sa sc vs L K S) {l : List Rl} {d : Nat} (hp : CutP l d L K S) : RowP w (some ⟨g1, 0, none⟩) L := h.sts.row hp.ok
theorem CutIn.ri {w : World} {B g1 c1 : Nat} {ka : Option Addr} {kc : Nat} {sa : Option Addr} {sc : Nat} {vs : List Value} {L : List Pt} {K : List Nat} {S : List (List Nat)} (h : CutIn w B g1 c1 ka kc sa sc vs L K S) {l : List Rl} {d : Nat} (hp : CutP l d L K S) (hl : l.length ≤ 64) : RowI w ka (ints K) := h.cls.row (by have := hp.len; have := hp.few; omega)
theorem CutIn.rs {w : World} {B g1 c1 : Nat} {ka : Option Addr} {kc : Nat} {sa : Option Addr} {sc : Nat} {vs : List Value} {L : List Pt} {K : List Nat} {S : List (List Nat)} (h : CutIn w B g1 c1 ka kc sa sc vs L K S) {l : List Rl} {d : Nat} (hp : CutP l d L K S) (hl : l.length ≤ 64) : RowS w sa (S.map ints) := h.set.rows (by have := hp.num; have := hp.few; omega) (fun s hs => by have := hp.each s hs; omega)
/-- A cut that lay there already when memory from another place on was written. -/
theorem CutIn.low {w0 w w' : World} {B g1 c1 : Nat} {ka : Option Addr} {kc : Nat} {sa : Option Addr} {sc : Nat} {vs : List Value} {L : List Pt} {K : List Nat} {S : List (List Nat)} (h0 : CutIn w0 B g1 c1 ka kc sa sc vs L K S) (h : CutIn w B g1 c1 ka kc sa sc vs L K S) (hb : Below w0.heap.size w w') : CutIn w' B g1 c1 ka kc sa sc vs L K S := by
  have own : ∀ {t : TypeId} {k n : Nat} {v : Value} {xs : List Value}, w0.ownsRow B t k v n xs → w.ownsRow B t k v n xs → w'.ownsRow B t k v n xs := fun {t k n v xs} o0 o => by
    obtain ⟨h1, h2⟩ := o
    refine ⟨h1, ?_⟩
    rcases h2 with h2 | ⟨g, cap, cur, h3, h4, h5, h6⟩
    · exact .inl h2
    · obtain ⟨cur0, hb0⟩ := ownsRow_blk o0 (g := g) (by rw [h3]; rfl)
      exact .inr ⟨g, cap, cur, h3, h4, (hb.block g hb0.lt).trans h5, h6⟩
  refine ⟨own h0.sts h.sts, own h0.cls h.cls, own h0.set.row h.set.row, fun i s hs => ?_⟩
  obtain ⟨ai, ci, h1, h2⟩ := h.set.each i s hs
  obtain ⟨ai', ci', h1', h2'⟩ := h0.set.each i s hs
  rw [h1] at h1'
  cases h1'
  exact ⟨ai, ci, h1, own h2' h2⟩
theorem SetsO.at_ {w : World} {B : Nat} {a : Option Addr} {c : Nat} {S : List (List Nat)} {vs : List Value} (h : SetsO w B a c S vs) {i : Nat} {s : List Nat} (hi : S[i]? = some s) : ∃ b off ai ci, a = some ⟨b, off, none⟩ ∧ w.cell? ⟨b, off + i, none⟩ = some (Value.slice ai s.length ci) ∧ OwnI w B ai ci s := by
  obtain ⟨ai, ci, h1, h2⟩ := h.each i s hi
  obtain ⟨r1, r2⟩ := h.row
  have hlt : i < S.length := (List.getElem?_eq_some_iff.1 hi).1
  rcases r2 with ⟨_, r3⟩ | ⟨g, cap, cur, r3, r4, r5, r6, r7, r8, r9⟩
  · omega
  · simp only [Value.slice.injEq] at r3
    obtain ⟨rfl, _, rfl⟩ := r3
    have hb : Blk w g 24 cur := r5
    refine ⟨g, 0, ai, ci, rfl, hb.cell _ _ ?_, h2⟩
    rw [Nat.zero_add]
    have h11 : (cur.toList.take (S.length * 1))[i]? = vs[i]? := by rw [r9]
    rw [List.getElem?_take_of_lt (by omega), Array.getElem?_toList] at h11
    rw [h11, h1]
/-- Two sets, one of each cut, as they lie. -/
structure Four (w : World) (g5 b off Q sc i : Nat) (ai : Option Addr) (n ci g7 b' off' sd : Nat) (ai' : Option Addr) (ci' : Nat) : Prop where
  one : w.cell? ⟨g5, 2, none⟩ = some (.slice (some ⟨b, off, none⟩) Q sc)
  two : w.cell? ⟨b, off + i, none⟩ = some (.slice ai n ci)
  three : w.cell? ⟨g7, 2, none⟩ = some (.slice (some ⟨b', off', none⟩) Q sd)
  four : w.cell? ⟨b', off' + i, none⟩ = some (.slice ai' (n + 1) ci')
theorem Four.below {w w' : World} {g5 b off Q sc i : Nat} {ai : Option Addr} {n ci g7 b' off' sd : Nat} {ai' : Option Addr} {ci' : Nat} (h : Four w g5 b off Q sc i ai n ci g7 b' off' sd ai' ci') (hb : Below w.heap.size w w') : Four w' g5 b off Q sc i ai n ci g7 b' off' sd ai' ci' :=
  ⟨kept hb h.one, kept hb h.two, kept hb h.three, kept hb h.four⟩
theorem Four.cells {w : World} {g5 b off Q sc i : Nat} {ai : Option Addr} {n ci g7 b' off' sd : Nat} {ai' : Option Addr} {ci' : Nat} (h : Four w g5 b off Q sc i ai n ci g7 b' off' sd ai' ci') : w.cell? ⟨g5, 2, none⟩ = some (.slice (some ⟨b, off, none⟩) Q sc) ∧ w.cell? ⟨b, off + i, none⟩ = some (.slice ai n ci) ∧ w.cell? ⟨g7, 2, none⟩ = some (.slice (some ⟨b', off', none⟩) Q sd) ∧ w.cell? ⟨b', off' + i, none⟩ = some (.slice ai' (n + 1) ci') := ⟨h.one, h.two, h.three, h.four⟩
/-- What Spot answers. -/
def spotR (k : Ky) (dim : Int) : Pt × Bool := if k.right = true ∧ 0 ≤ dim ∧ dim < 7 then (k.spot dim.toNat, true) else (pt0, false)
set_option maxRecDepth 100000 in
set_option maxHeartbeats 4000000 in
theorem spot_ck (k : Ky) (dim : Int) (w : World) (ho : k.ok) :
    Calls Tryd.prog 14 #[.agg k.v, .int .i64 dim] w fun e w' => e = .returned (.tuple #[.agg (spotR k dim).1.v, .bool (spotR k dim).2]) ∧ Below w.heap.size w w' := by
  have K1 := hidW (fun W => rightDim_any dim W)
  have K2 := hidW (fun W => rightKey_any k W ho)
  have KS : Hid (∀ d : Nat, d < 7 → k.right = true → ∀ W, Calls Tryd.prog 40 #[.agg k.v, .int .i64 (d : Int)] W fun e w' => e = .returned (.agg (k.spot d).v) ∧ Below W.heap.size W w') := fun d hd hr W => spot_any k d hd W hr
  have hs2 : (Tryd.prog.info? 40).map (·.size) = some k.v.size := info_ky k
  obtain ⟨W1, hW1⟩ : ∃ W1, w.alloc (.cells k.v 40) = W1 := ⟨_, rfl⟩
  obtain ⟨W2, hW2⟩ : ∃ W2, W1.alloc (.cells z3 42) = W2 := ⟨_, rfl⟩
  have b1 := bel_nw hW1
  have b2 := bel_al b1 hW2
  have B1' := blk_nw hW1
  have HB1 : Hid (Blk W2 w.heap.size 40 k.v) := B1'.al hW2
  have HB2 : Hid (Blk W2 W1.heap.size 42 z3) := blk_nw hW2
  have gw : w.heap.size ≤ W1.heap.size := Nat.le_of_lt B1'.lt
  clear b1 B1'
  by_cases hd : 0 ≤ dim ∧ dim < 7
  · obtain ⟨d, hdd⟩ : ∃ d : Nat, dim = (d : Int) := ⟨dim.toNat, by omega⟩
    have hd7 : d < 7 := by omega
    have hf : (decide (0 ≤ dim) && decide (dim < 7)) = true := by simp [hd.1, hd.2]
    rw [hf] at K1
    have HS : Hid (spotR k dim = if k.right = true then (k.spot d, true) else (pt0, false)) := by
      show _ = _
      unfold spotR
      rw [hdd]
      simp only [Int.toNat_natCast]
      by_cases hr : k.right = true
      · rw [if_pos ⟨hr, by omega, by omega⟩, if_pos hr]
      · rw [if_neg (fun h => hr h.1), if_neg hr]
    rw [HS.out]
    clear hf HS
    subst hdd
    have KS' : Hid _ := KS.out d hd7
    clear KS
    obtain ⟨KV, hKV⟩ : ∃ KV, k.v = KV := ⟨_, rfl⟩
    rw [hKV] at hs2 hW1 HB1 K2 KS' ⊢
    have hk2 := HB1.out.at_
    go_enter Tryd.func14, Tryd.ntmps14
    go_wp2_with fail
    refine Calls.mono (K1.out _) ?_
    rintro e W2' ⟨rfl, e1⟩
    rw [e1]
    clear e1
    go_wp2_with (refine wpList_load_at_w rfl _ _ rfl _ 0 (by rfl) _ hk2 Tryd.underlying40 hs2 ?_)
    refine Calls.mono (K2.out _) ?_
    rintro e W3 ⟨rfl, bb⟩
    have b3 := bel_tr b2 bb
    have HB3 : Hid (Blk W3 w.heap.size 40 KV) := HB1.out.kept bb
    have HB4 : Hid (Blk W3 W1.heap.size 42 z3) := HB2.out.kept bb
    clear bb K2 K1 hW1 hW2 hk2 b2
    cases hr : k.right with
    | false =>
      simp only [Bool.false_eq_true, if_false]
      have B4 := HB4.out
      go_wp2_with (refine wpList_st rfl 42 _ _ rfl W1.heap.size z3 z3 (by rfl) (by rfl) B4 (by kernel_rfl) rfl (by kernel_rfl) ?_)
      all_goals exact ret_cell_tmp (k := 4) (j := 5) Tryd.f14 (by kernel_rfl) (B4.set _) Tryd.underlying42 (by kernel_rfl) (by rfl) (by rfl) rfl ⟨rfl, below_setRow b3 gw _⟩
    | true =>
      simp only [if_true]
      have KS2 : Hid _ := KS'.out hr
      have hk3 := HB3.out.at_
      go_wp2_with (refine wpList_load_at_w rfl _ _ rfl _ 0 (by rfl) _ hk3 Tryd.underlying40 hs2 ?_)
      refine Calls.mono (KS2.out _) ?_
      rintro e W4 ⟨rfl, bb⟩
      have b4 := bel_tr b3 bb
      have B5 : Blk W4 W1.heap.size 42 z3 := HB4.out.kept bb
      clear bb KS2 KS' hk3 b3
      go_wp2_with (refine wpList_st rfl 42 _ _ rfl W1.heap.size (k.spot d).v z3 (by rfl) (by rfl) B5 (by kernel_rfl) rfl (by kernel_rfl) ?_)
      exact ret_cell_tmp (k := 4) (j := 5) Tryd.f14 (by kernel_rfl) (B5.set _) Tryd.underlying42 (by kernel_rfl) (by rfl) (by rfl) rfl ⟨rfl, below_setRow b4 gw _⟩
  · have hf : (decide (0 ≤ dim) && decide (dim < 7)) = false := by
      rw [Bool.and_eq_false_iff]
      simp only [decide_eq_false_iff_not]
      omega
    rw [hf] at K1
    have HS : Hid (spotR k dim = (pt0, false)) := by
      show _ = _
      unfold spotR
      rw [if_neg (fun h => hd h.2)]
    rw [HS.out]
    clear hf HS KS K2
    obtain ⟨KV, hKV⟩ : ∃ KV, k.v = KV := ⟨_, rfl⟩
    rw [hKV] at hs2 hW1 HB1 ⊢
    go_enter Tryd.func14, Tryd.ntmps14
    go_wp2_with fail
    refine Calls.mono (K1.out _) ?_
    rintro e W2' ⟨rfl, e1⟩
    rw [e1]
    clear e1 hW1 hW2 K1
    have B4 := HB2.out
    go_wp2_with (refine wpList_st rfl 42 _ _ rfl W1.heap.size z3 z3 (by rfl) (by rfl) B4 (by kernel_rfl) rfl (by kernel_rfl) ?_)
    exact ret_cell_tmp (k := 4) (j := 5) Tryd.f14 (by kernel_rfl) (B4.set _) Tryd.underlying42 (by kernel_rfl) (by rfl) (by rfl) rfl ⟨rfl, below_setRow b2 gw _⟩
end Go.Proofs.YtgppfkbapieneaaDoor
