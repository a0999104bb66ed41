/- Texts joined: FgR -/
import Derived.Test.YtkeeidfpgfdldaaFpz6
import Derived.Laws.CopyOwn
namespace Go.Proofs.Ytkeeidfpgfdldaa
open Go.RowKit
set_option linter.unusedVariables false
set_option linter.unusedSimpArgs false
/-- Pieces laid into bytes, one after the other. -/
def paste (L : List Int) : List Pc → List Int
 | [] => L
 | p :: ps => paste (splice L p.off.toNat p.data) ps
theorem paste_snoc : ∀ (ps : List Pc) (L : List Int) (p : Pc), paste L (ps ++ [p]) = splice (paste L ps) p.off.toNat p.data
 | [], _, _ => rfl
 | q :: ps, L, p => by simp only [List.cons_append, paste]; exact paste_snoc ps _ p
theorem paste_length : ∀ (ps : List Pc) (L : List Int), (∀ p ∈ ps, p.off.toNat + p.data.length ≤ L.length) → (paste L ps).length = L.length
 | [], _, _ => rfl
 | q :: ps, L, h => by
  have h1 := length_splice L q.off.toNat q.data (h q (by simp))
  simp only [paste]
  rw [paste_length ps _ (fun p hp => by rw [h1]; exact h p (by simp [hp])), h1]
theorem wpList_make_full {ops : Array Oper} {rest : List Oper} {o : Oper} {ac : Act} {Q : Exit → Act → World → Prop} (w : World) (hgd : o.guard = none) (l c : Operand) (hop : o.op = Op.makeSlice 40 l c)
  (kl kc : IntKind) (N : Nat) (hl : ac.eval l = .int kl (N : Int)) (hc : ac.eval c = .int kc (N : Int)) (hN : N ≤ 281474976710656)
  (h : wpList Try.prog ops Q rest (ac.put o.dst (.slice (some ⟨w.heap.size, 0, none⟩) N N)) (w.alloc (.cells (List.replicate N (Value.int .u8 0)).toArray 5))) :
  wpList Try.prog ops Q (o :: rest) ac w := by
 obtain ⟨i0, hi, hz0, hz1, hz2⟩ := info_parts info_u8
 refine wpList_plain hgd fun K hK => ?_
 have hr := run_make (P := Try.prog) w 40 5 i0 (.int .u8 0) Try.underlying40 hi hz0 kl kc (N : Int) (N : Int) (by omega) (Int.le_refl _) (by rw [hz2]; omega) (by omega)
 rw [Int.toNat_natCast, hz1, Nat.mul_one] at hr
 unfold Oper.wp
 simp [execOp, hop, hl, hc, hr, Result.andThen]
 refine hK _ _ ?_
 rw [← made_zero] at h
 exact h
theorem step_copy9 {ops : Array Oper} {o : Oper} {a : Act} {w : World} {K : Act → World → Prop} {Q : Exit → Act → World → Prop} {E : Prop} (hgd : o.guard = none) (d s : Operand) (dT sT : TypeId)
  (ho : o.op = .call { callee := .builtin .copy, args := #[d, s], argTypes := #[dT, sT] }) (elem : TypeId) (hu : Try.prog.underlying dT = some (.slice elem)) (hsz : (Try.prog.info? elem).map (·.size) = some 1)
  (dp sp : Option Addr) (dLen dCap sLen sCap : Nat) (hd : a.eval d = .slice dp dLen dCap) (hs : a.eval s = .slice sp sLen sCap)
  (g off : Nat) (cur : List Value) (t : TypeId) (hg : Blk w g t cur.toArray) (cs : List Value) (hn : cs.length = Nat.min sLen dLen)
  (hpos : 0 < cs.length → dp = some ⟨g, off, none⟩ ∧ ∃ ad, sp = some ad ∧ ∀ j v, cs[j]? = some v → w.cell? (ad.add j) = some v)
  (hfit : off + cs.length ≤ cur.length) (h1 : ∀ v ∈ cs, v.oneCell' = true)
  (h : K (a.put o.dst (goInt cs.length)) (w.setRow g (splice cur off cs).toArray)) :
  if Region.wanted o (yielded ops a.tmps) = true then Oper.wp Try.prog o a w K Q else E := by
 have hw : Region.wanted o (yielded ops a.tmps) = true := by simp [Region.wanted, hgd]
 rw [if_pos hw]
 by_cases h0 : cs.length = 0
 ·obtain rfl : cs = [] := List.eq_nil_of_length_eq_zero h0
  have hrun := run_copy_none (P := Try.prog) w dT sT o.type elem dp sp dLen dCap sLen sCap hu hsz (by simpa using hn.symm)
  have hself : w.setRow g (splice cur off []).toArray = w := by
   have e : splice cur off ([] : List Value) = cur := by simp [splice]
   rw [e]; exact setRow_self hg
  rw [hself] at h
  unfold Oper.wp
  simp [execOp, ho, resolve, invoke, builtin, hd, hs, hrun, Result.andThen]
  exact h
 ·obtain ⟨rfl, ad, rfl, hsrc⟩ := hpos (by omega)
  have hrun := run_copy_row (P := Try.prog) w dT sT o.type elem g off dLen dCap ad sLen sCap cur.toArray t cs hu hsz hg hn hsrc (by simpa using hfit) h1
  unfold Oper.wp
  simp [execOp, ho, resolve, invoke, builtin, hd, hs, hrun, Result.andThen]
  simp [splice] at h ⊢
  exact h
set_option maxRecDepth 100000 in
set_option maxHeartbeats 4000000 in
theorem fdata_any (g : Gm) (N : Nat) (w : World) (hg : GmR w g) (hr : g.reach = (N : Int)) (hN : N ≤ 65535) (hfit : ∀ p ∈ g.ps, 0 ≤ p.off ∧ p.off.toNat + p.data.length ≤ N) :
  Calls Try.prog 48 #[.agg g.v] w fun e w' => ∃ gd, e = .returned (.agg #[.int .i64 g.hd.fam, .int .i64 g.hd.s.fam, .int .u64 g.hd.s.hi, .int .u64 g.hd.s.lo, .int .i64 g.hd.d.fam, .int .u64 g.hd.d.hi, .int .u64 g.hd.d.lo, .int .i64 g.hd.pr, .int .i64 g.hd.ho, .bool false, .int .u32 0, .int .i64 0, .bool false, .slice g.hd.xa g.hd.X.length g.hd.xc, .slice (some ⟨gd, 0, none⟩) N N]) ∧ w'.heap[gd]? = some (.cells ((paste (List.replicate N 0) g.ps).map (Value.int .u8)).toArray 5 (0, 0)) ∧ w.heap.size ≤ gd ∧ Below w.heap.size w w' := by
 obtain ⟨W1, hW1⟩ : ∃ W, w.alloc (.cells g.v 75) = W := ⟨_, rfl⟩
 obtain ⟨W2, hW2⟩ : ∃ W, W1.alloc (.cells #[.int .i64 0, .int .i64 0, .int .u64 0, .int .u64 0, .int .i64 0, .int .u64 0, .int .u64 0, .int .i64 0, .int .i64 0, .bool false, .int .u32 0, .int .i64 0, .bool false, .slice none 0 0, .slice none 0 0] 42) = W := ⟨_, rfl⟩
 obtain ⟨W3, hW3⟩ : ∃ W, W2.alloc (.cells #[.int .i64 0, .int .i64 0, .int .u64 0, .int .u64 0, .int .i64 0, .int .u64 0, .int .u64 0, .int .i64 0, .int .i64 0, .bool false, .int .u32 0, .int .i64 0, .bool false, .slice none 0 0, .slice none 0 0] 42) = W := ⟨_, rfl⟩
 have b1 := bel_nw hW1
 have b2 := bel_al b1 hW2
 have b3 := bel_al b2 hW3
 have G1 := blk_nw hW1
 have G2 := G1.al hW2
 have R2 := blk_nw hW2
 have P3 := blk_nw hW3
 have G3 := G2.al hW3
 have R3 := R2.al hW3
 have n1 : w.heap.size < W1.heap.size := G1.lt
 have n2 : W1.heap.size < W2.heap.size := R2.lt
 have n3 : W2.heap.size < W3.heap.size := P3.lt
 obtain ⟨W4, hW4⟩ : ∃ W, W3.setRow W2.heap.size #[.int .i64 g.hd.fam, .int .i64 g.hd.s.fam, .int .u64 g.hd.s.hi, .int .u64 g.hd.s.lo, .int .i64 g.hd.d.fam, .int .u64 g.hd.d.hi, .int .u64 g.hd.d.lo, .int .i64 g.hd.pr, .int .i64 g.hd.ho, .bool false, .int .u32 0, .int .i64 0, .bool false, .slice g.hd.xa g.hd.X.length g.hd.xc, .slice none 0 0] = W := ⟨_, rfl⟩
 have P4 : Blk W4 W2.heap.size 42 #[.int .i64 g.hd.fam, .int .i64 g.hd.s.fam, .int .u64 g.hd.s.hi, .int .u64 g.hd.s.lo, .int .i64 g.hd.d.fam, .int .u64 g.hd.d.hi, .int .u64 g.hd.d.lo, .int .i64 g.hd.pr, .int .i64 g.hd.ho, .bool false, .int .u32 0, .int .i64 0, .bool false, .slice g.hd.xa g.hd.X.length g.hd.xc, .slice none 0 0] := by rw [← hW4]; exact P3.set _
 have G4 : Blk W4 w.heap.size 75 g.v := by rw [← hW4]; exact G3.other (by omega) _
 have R4 : Blk W4 W1.heap.size 42 #[.int .i64 0, .int .i64 0, .int .u64 0, .int .u64 0, .int .i64 0, .int .u64 0, .int .u64 0, .int .i64 0, .int .i64 0, .bool false, .int .u32 0, .int .i64 0, .bool false, .slice none 0 0, .slice none 0 0] := by rw [← hW4]; exact R3.other (by omega) _
 have b4 : Below w.heap.size w W4 := by rw [← hW4]; exact below_setRow b3 (by omega) _
 have s4 : W4.heap.size = W3.heap.size := by rw [← hW4, setRow_size]
 have e19 := G4.cell 19 (.int .i64 (N : Int)) (by rw [← hr]; rfl)
 obtain ⟨W5, hW5⟩ : ∃ W, W4.alloc (.cells (List.replicate N (Value.int .u8 0)).toArray 5) = W := ⟨_, rfl⟩
 have b5 := bel_al b4 hW5
 have P5 := P4.al hW5
 have G5 := G4.al hW5
 have R5 := R4.al hW5
 have D5 := blk_nw hW5
 rw [s4] at D5
 have n5 : W3.heap.size < W5.heap.size := D5.lt
 have HS4 : Hid (W4.heap.size = W3.heap.size) := s4
 clear s4
 have e14 := P5.cell 14 (.slice none 0 0) rfl
 have z14 := P5.frozen 14
 obtain ⟨W6, hW6⟩ : ∃ W, W5.setCell ⟨W2.heap.size, 14, none⟩ (.slice (some ⟨W3.heap.size, 0, none⟩) N N) = W := ⟨_, rfl⟩
 have P6 : Blk W6 W2.heap.size 42 #[.int .i64 g.hd.fam, .int .i64 g.hd.s.fam, .int .u64 g.hd.s.hi, .int .u64 g.hd.s.lo, .int .i64 g.hd.d.fam, .int .u64 g.hd.d.hi, .int .u64 g.hd.d.lo, .int .i64 g.hd.pr, .int .i64 g.hd.ho, .bool false, .int .u32 0, .int .i64 0, .bool false, .slice g.hd.xa g.hd.X.length g.hd.xc, .slice (some ⟨W3.heap.size, 0, none⟩) N N] := by rw [← hW6]; exact P5.put 14 _
 have G6 : Blk W6 w.heap.size 75 g.v := by rw [← hW6]; exact G5.put_other P5 (by omega) 14 _
 have R6 : Blk W6 W1.heap.size 42 #[.int .i64 0, .int .i64 0, .int .u64 0, .int .u64 0, .int .i64 0, .int .u64 0, .int .u64 0, .int .i64 0, .int .i64 0, .bool false, .int .u32 0, .int .i64 0, .bool false, .slice none 0 0, .slice none 0 0] := by rw [← hW6]; exact R5.put_other P5 (by omega) 14 _
 have D6 : Blk W6 W3.heap.size 5 (List.replicate N (Value.int .u8 0)).toArray := by rw [← hW6]; exact D5.put_other P5 (by omega) 14 _
 have b6 : Below w.heap.size w W6 := by rw [← hW6]; exact b5.setCell (p := ⟨W2.heap.size, 14, none⟩) (show w.heap.size ≤ W2.heap.size by omega) _
 have e17 := G6.cell 17 (.slice g.pa g.ps.length g.pc) rfl
 have HW4 : Hid _ := hW4
 have HW5 : Hid _ := hW5
 have G2' := G2
 clear hW4 P5 G5 R5 D5 G2 R2 G1 b1 b2 b4 b5
 go_enter Try.func48, Try.ntmps48
 go_wp2_with (first
  | (refine wpList_load_sub rfl _ _ rfl w.heap.size 2 75 (by rfl) _ #[.int .i64 g.hd.fam, .int .i64 g.hd.s.fam, .int .u64 g.hd.s.hi, .int .u64 g.hd.s.lo, .int .i64 g.hd.d.fam, .int .u64 g.hd.d.hi, .int .u64 g.hd.d.lo, .int .i64 g.hd.pr, .int .i64 g.hd.ho, .bool false, .int .u32 0, .int .i64 0, .bool false, .slice g.hd.xa g.hd.X.length g.hd.xc, .slice none 0 0] G2' (by rfl) Try.underlying42 (by kernel_rfl) ?_)
  | (refine wpList_store_row rfl _ _ _ rfl W2.heap.size #[.int .i64 g.hd.fam, .int .i64 g.hd.s.fam, .int .u64 g.hd.s.hi, .int .u64 g.hd.s.lo, .int .i64 g.hd.d.fam, .int .u64 g.hd.d.hi, .int .u64 g.hd.d.lo, .int .i64 g.hd.pr, .int .i64 g.hd.ho, .bool false, .int .u32 0, .int .i64 0, .bool false, .slice g.hd.xa g.hd.X.length g.hd.xc, .slice none 0 0] (by rfl) (by rfl) _ _ P3 (by kernel_rfl) (by rfl) (by kernel_rfl) ?_; rw [HW4.out])
  | (refine wpList_make_full _ rfl _ _ rfl _ _ N (by rfl) (by rfl) (by omega) ?_; rw [HW5.out, HS4.out]))
 have HC : Hid (0 < g.ps.length → ∃ b, g.pa = some ⟨b, 0, none⟩ ∧ b < w.heap.size ∧ ∀ i p, g.ps[i]? = some p → w.cell? ⟨b, 2 * i, none⟩ = some (.int .i64 p.off) ∧ w.cell? ⟨b, 2 * i + 1, none⟩ = some (.slice p.da p.data.length p.dc)) := hg.cells
 have HE : Hid (∀ p ∈ g.ps, Row w p.da p.data ∧ p.data.length ≤ p.dc ∧ (p.da = none → p.dc = 0)) := hg.each
 have HF : Hid (∀ p ∈ g.ps, 0 ≤ p.off ∧ p.off.toNat + p.data.length ≤ N) := hfit
 have few := hg.few
 have HD6 : Hid (Blk W6 W3.heap.size 5 ((paste (List.replicate N 0) (g.ps.take 0)).map (Value.int .u8)).toArray) := by
  show Blk _ _ _ _
  have e : ((paste (List.replicate N 0) (g.ps.take 0)).map (Value.int .u8)) = List.replicate N (Value.int .u8 0) := by simp [paste]
  rw [e]; exact D6
 clear hg hfit D6 e19 e14 z14 e17 G6 G4 R4 P4 hW5 hW6 hr
 go_loopw [15] (fun i wr => ∃ (k : Nat), k ≤ g.ps.length ∧ i = .int .i64 k ∧ Below w.heap.size w wr ∧ Blk wr W2.heap.size 42 #[.int .i64 g.hd.fam, .int .i64 g.hd.s.fam, .int .u64 g.hd.s.hi, .int .u64 g.hd.s.lo, .int .i64 g.hd.d.fam, .int .u64 g.hd.d.hi, .int .u64 g.hd.d.lo, .int .i64 g.hd.pr, .int .i64 g.hd.ho, .bool false, .int .u32 0, .int .i64 0, .bool false, .slice g.hd.xa g.hd.X.length g.hd.xc, .slice (some ⟨W3.heap.size, 0, none⟩) N N] ∧ Blk wr W1.heap.size 42 #[.int .i64 0, .int .i64 0, .int .u64 0, .int .u64 0, .int .i64 0, .int .u64 0, .int .u64 0, .int .i64 0, .int .i64 0, .bool false, .int .u32 0, .int .i64 0, .bool false, .slice none 0 0, .slice none 0 0] ∧ Hid (Blk wr W3.heap.size 5 ((paste (List.replicate N 0) (g.ps.take k)).map (Value.int .u8)).toArray)) (fun i _ => g.ps.length - (intOf i).toNat)
 case atStart => exact ⟨0, Nat.zero_le _, rfl, b6, P6, R6, HD6⟩
 case round =>
  obtain ⟨k, hk, rfl, qb, qp, qr, qd⟩ := hrel
  by_cases hlt : k < g.ps.length
  ·have ik : (k : Int) < (g.ps.length : Int) := by omega
   obtain ⟨b, hpa, hbl, hcs⟩ := HC.out (by omega)
   obtain ⟨p, hp⟩ : ∃ p, g.ps[k]? = some p := ⟨_, List.getElem?_eq_getElem hlt⟩
   obtain ⟨c0, c1⟩ := hcs k p hp
   have d0 := kept qb c0
   have d1 := kept qb c1
   rw [Nat.mul_comm] at d0 d1
   have hmem : p ∈ g.ps := List.mem_of_getElem? hp
   have HP : Hid (g.ps[k]? = some p) := hp
   obtain ⟨o, ho⟩ : ∃ o : Nat, p.off = (o : Int) := ⟨p.off.toNat, by have := (HF.out p hmem).1; omega⟩
   have hfo : o + p.data.length ≤ N := by have := (HF.out p hmem).2; rw [ho] at this; simpa using this
   have HO : Hid (p.off = (o : Int)) := ho
   rw [ho] at d0
   obtain ⟨V1, hV1⟩ : ∃ W, wr.alloc (.cells #[.int .i64 0, .slice none 0 0] 117) = W := ⟨_, rfl⟩
   have N1 := blk_nw hV1
   have kb := bel_al qb hV1
   have m1 : wr.heap.size < V1.heap.size := N1.lt
   have l2 : W2.heap.size < wr.heap.size := qp.lt
   have l1 : W1.heap.size < wr.heap.size := qr.lt
   have l3 : W3.heap.size < wr.heap.size := qd.out.lt
   obtain ⟨V2, hV2⟩ : ∃ W, V1.setRow wr.heap.size #[.int .i64 (o : Int), .slice p.da p.data.length p.dc] = W := ⟨_, rfl⟩
   have N2 : Blk V2 wr.heap.size 117 #[.int .i64 (o : Int), .slice p.da p.data.length p.dc] := by rw [← hV2]; exact N1.set _
   have P2 : Blk V2 W2.heap.size 42 #[.int .i64 g.hd.fam, .int .i64 g.hd.s.fam, .int .u64 g.hd.s.hi, .int .u64 g.hd.s.lo, .int .i64 g.hd.d.fam, .int .u64 g.hd.d.hi, .int .u64 g.hd.d.lo, .int .i64 g.hd.pr, .int .i64 g.hd.ho, .bool false, .int .u32 0, .int .i64 0, .bool false, .slice g.hd.xa g.hd.X.length g.hd.xc, .slice (some ⟨W3.heap.size, 0, none⟩) N N] := by rw [← hV2]; exact (qp.al hV1).other (by omega) _
   have R2 : Blk V2 W1.heap.size 42 #[.int .i64 0, .int .i64 0, .int .u64 0, .int .u64 0, .int .i64 0, .int .u64 0, .int .u64 0, .int .i64 0, .int .i64 0, .bool false, .int .u32 0, .int .i64 0, .bool false, .slice none 0 0, .slice none 0 0] := by rw [← hV2]; exact (qr.al hV1).other (by omega) _
   have D2 : Hid (Blk V2 W3.heap.size 5 ((paste (List.replicate N 0) (g.ps.take k)).map (Value.int .u8)).toArray) := by rw [← hV2]; exact (qd.out.al hV1).other (by omega) _
   have k2 : Below w.heap.size w V2 := by rw [← hV2]; exact below_setRow kb qb.size _
   have HV2 : Hid _ := hV2
   rw [hpa]
   clear c0 c1 hcs hp ho hV2 qp qr qd
   go_wp2_with (refine wpList_store_row rfl _ _ _ rfl wr.heap.size #[.int .i64 (o : Int), .slice p.da p.data.length p.dc] (by rfl) (by rfl) _ _ N1 (by kernel_rfl) (by rfl) (by kernel_rfl) ?_; rw [HV2.out])
   have Pd := P2.drew
   have Nd := N2.drew
   have Rd := R2.drew
   have Dd : Hid (Blk V2.drew W3.heap.size 5 ((paste (List.replicate N 0) (g.ps.take k)).map (Value.int .u8)).toArray) := D2.out.drew
   have kd : Below w.heap.size w V2.drew := k2.drew
   have sd : wr.heap.size < V2.drew.heap.size := Nd.lt
   refine wp_region_noPanic ?_
   refine wp_region_held_drew (S := fun w' => Blk w' W2.heap.size 42 #[.int .i64 g.hd.fam, .int .i64 g.hd.s.fam, .int .u64 g.hd.s.hi, .int .u64 g.hd.s.lo, .int .i64 g.hd.d.fam, .int .u64 g.hd.d.hi, .int .u64 g.hd.d.lo, .int .i64 g.hd.pr, .int .i64 g.hd.ho, .bool false, .int .u32 0, .int .i64 0, .bool false, .slice g.hd.xa g.hd.X.length g.hd.xc, .slice (some ⟨W3.heap.size, 0, none⟩) N N] ∧ Blk w' wr.heap.size 117 #[.int .i64 (o : Int), .slice p.da p.data.length p.dc]) (by kernel_rfl) (by exact ⟨Pd, Nd⟩) (fun hHeld => ?_)
   generalize V2.drew = V3 at Pd Nd Rd Dd kd sd hHeld ⊢
   clear P2 N2 R2 D2 k2
   refine qtk (i := 0) (oi := { dst := some 19, op := Op.fieldAddr 42 (.tmp 3) 10, type := 0, pos := "gram.go:60", after := #[], guard := none }) (v := (.pointer (some ⟨W2.heap.size, 14, none⟩))) hHeld ?_ ?_
   ·intro w9 hSw
    try dsimp only at hSw
    go_simp
   try simp only [qpu]
   refine qtk (i := 1) (oi := { dst := some 20, op := Op.load 40 (.tmp 19), type := 40, pos := "gram.go:60", after := #[{ on := 0, ground := Ground.data }], guard := none }) (v := (.slice (some ⟨W3.heap.size, 0, none⟩) N N)) hHeld ?_ ?_
   ·intro w9 hSw
    try dsimp only at hSw
    have q9 := hSw.1.cell 14 (.slice (some ⟨W3.heap.size, 0, none⟩) N N) rfl
    go_simp
   try simp only [qpu]
   refine qtk (i := 2) (oi := { dst := some 21, op := Op.fieldAddr 117 (.tmp 5) 0, type := 0, pos := "gram.go:60", after := #[], guard := none }) (v := (.pointer (some ⟨wr.heap.size, 0, none⟩))) hHeld ?_ ?_
   ·intro w9 hSw
    try dsimp only at hSw
    go_simp
   try simp only [qpu]
   refine qtk (i := 3) (oi := { dst := some 22, op := Op.load 3 (.tmp 21), type := 3, pos := "gram.go:60", after := #[{ on := 2, ground := Ground.data }], guard := none }) (v := (.int .i64 (o : Int))) hHeld ?_ ?_
   ·intro w9 hSw
    try dsimp only at hSw
    have q9 := hSw.2.cell 0 (.int .i64 (o : Int)) rfl
    go_simp
   try simp only [qpu]
   refine qtk (i := 4) (oi := { dst := some 23, op := Op.slice 40 (.tmp 20) (some (.tmp 22)) none none, type := 40, pos := "gram.go:60", after := #[{ on := 1, ground := Ground.data }, { on := 3, ground := Ground.data }], guard := none }) (v := (.slice (if N = o then some ⟨W3.heap.size, 0, none⟩ else some ⟨W3.heap.size, o, none⟩) (N - o) (N - o))) hHeld ?_ ?_
   ·intro w9 hSw
    try dsimp only at hSw
    go_simp
    intro hNo
    omega
   try simp only [qpu]
   refine qtk (i := 5) (oi := { dst := some 24, op := Op.fieldAddr 117 (.tmp 5) 1, type := 0, pos := "gram.go:60", after := #[], guard := none }) (v := (.pointer (some ⟨wr.heap.size, 1, none⟩))) hHeld ?_ ?_
   ·intro w9 hSw
    try dsimp only at hSw
    go_simp
   try simp only [qpu]
   refine qtk (i := 6) (oi := { dst := some 25, op := Op.load 40 (.tmp 24), type := 40, pos := "gram.go:60", after := #[{ on := 5, ground := Ground.data }], guard := none }) (v := (.slice p.da p.data.length p.dc)) hHeld ?_ ?_
   ·intro w9 hSw
    try dsimp only at hSw
    have q9 := hSw.2.cell 1 (.slice p.da p.data.length p.dc) rfl
    go_simp
   try simp only [qpu]
   have rowp : Row V3 p.da p.data := (HE.out p hmem).1.below kd
   have plen : ((paste (List.replicate N 0) (g.ps.take k)).map (Value.int .u8)).length = N := by
    rw [List.length_map, paste_length _ _ (fun q hq => by rw [List.length_replicate]; exact (HF.out q (List.mem_of_mem_take hq)).2), List.length_replicate]
   obtain ⟨CUR, hCUR⟩ : ∃ c, paste (List.replicate N 0) (g.ps.take k) = c := ⟨_, rfl⟩
   have hnx : paste (List.replicate N 0) (g.ps.take (k + 1)) = splice CUR o p.data := by
    rw [List.take_add_one, HP.out, ← hCUR]
    show paste _ (g.ps.take k ++ [p]) = _
    rw [paste_snoc, HO.out, Int.toNat_natCast]
   have HNX : Hid (paste (List.replicate N 0) (g.ps.take (k + 1)) = splice CUR o p.data) := hnx
   rw [hCUR] at Dd plen
   clear hnx hCUR
   have P4 := Pd.other (show W2.heap.size ≠ W3.heap.size by omega) (splice (CUR.map (Value.int .u8)) o (p.data.map (Value.int .u8))).toArray
   have R4 := Rd.other (show W1.heap.size ≠ W3.heap.size by omega) (splice (CUR.map (Value.int .u8)) o (p.data.map (Value.int .u8))).toArray
   have N4 := Nd.other (show wr.heap.size ≠ W3.heap.size by omega) (splice (CUR.map (Value.int .u8)) o (p.data.map (Value.int .u8))).toArray
   have D4 := Dd.out.set (splice (CUR.map (Value.int .u8)) o (p.data.map (Value.int .u8))).toArray
   have k4 := below_setRow kd (show w.heap.size ≤ W3.heap.size by omega) (splice (CUR.map (Value.int .u8)) o (p.data.map (Value.int .u8))).toArray
   refine wpAnyH_ready (rs := [7]) (by kernel_rfl) (by simp) ?_
   refine AllReadyH.cons (o := { dst := some 26, op := Op.call { callee := Callee.builtin Builtin.copy, args := #[.tmp 23, .tmp 25], argTypes := #[40, 40] }, type := 3, pos := "gram.go:60", after := #[{ on := 4, ground := Ground.data }, { on := 6, ground := Ground.data }], guard := none }) rfl (fun K hK => ?_) AllReadyH.nil
   refine step_copy9 rfl (.tmp 23) (.tmp 25) 40 40 rfl 5 Try.underlying40 (by kernel_rfl) (if N = o then some ⟨W3.heap.size, 0, none⟩ else some ⟨W3.heap.size, o, none⟩) p.da (N - o) (N - o) p.data.length p.dc (by rfl) (by rfl) W3.heap.size o (CUR.map (Value.int .u8)) 5 Dd.out (p.data.map (Value.int .u8)) (by rw [List.length_map]; exact (Nat.min_eq_left (by omega)).symm) (fun hps => ?_) (by rw [List.length_map, plen]; exact hfo) (fun v hv => by obtain ⟨y, _, rfl⟩ := List.mem_map.1 hv; rfl) ?_
   ·rw [List.length_map] at hps
    refine ⟨if_neg (by omega), ?_⟩
    obtain ⟨b9, f9, hh, hc⟩ := rowp.cells hps
    refine ⟨_, hh, fun j v hj => ?_⟩
    have hjl : j < p.data.length := by
     have := (List.getElem?_eq_some_iff.1 hj).1
     simpa using this
    have e1 : Addr.add ⟨b9, f9, none⟩ j = ⟨b9, f9 + j, none⟩ := Go.WideShapes.add_plain ..
    rw [e1, hc j hjl, ← hj]
    simp [hjl]
   refine hK.out _ _ (by exact ⟨P4, N4⟩) (fun hHeld => ?_)
   clear hK K hHeld
   try simp only [qpu]
   refine wpAnyH_done (by kernel_rfl) ?_ _
   refine NoPanic.normal ?_
   have HD : Hid (Blk (V3.setRow W3.heap.size (splice (CUR.map (Value.int .u8)) o (p.data.map (Value.int .u8))).toArray) W3.heap.size 5 ((paste (List.replicate N 0) (g.ps.take (k + 1))).map (Value.int .u8)).toArray) := by
    show Blk _ _ _ _
    rw [HNX.out, show (splice CUR o p.data).map (Value.int .u8) = splice (CUR.map (Value.int .u8)) o (p.data.map (Value.int .u8)) by simp [splice, List.map_take, List.map_drop]]
    exact D4
   generalize V3.setRow _ _ = V4 at P4 R4 k4 HD ⊢
   clear D4 N4 Pd Nd Rd Dd kd rowp plen
   go_wp2
   exact ⟨⟨k + 1, by omega, by go_num, k4, P4, R4, HD⟩, by simp [intOf]; omega⟩
  ·have ik : ¬ (k : Int) < (g.ps.length : Int) := by omega
   have hke : g.ps.take k = g.ps := List.take_of_length_le (by omega)
   rw [hke] at qd
   have l2 : W2.heap.size < wr.heap.size := qp.lt
   have qf := qr.set #[.int .i64 g.hd.fam, .int .i64 g.hd.s.fam, .int .u64 g.hd.s.hi, .int .u64 g.hd.s.lo, .int .i64 g.hd.d.fam, .int .u64 g.hd.d.hi, .int .u64 g.hd.d.lo, .int .i64 g.hd.pr, .int .i64 g.hd.ho, .bool false, .int .u32 0, .int .i64 0, .bool false, .slice g.hd.xa g.hd.X.length g.hd.xc, .slice (some ⟨W3.heap.size, 0, none⟩) N N]
   have bf := below_setRow qb (Nat.le_of_lt n1) #[.int .i64 g.hd.fam, .int .i64 g.hd.s.fam, .int .u64 g.hd.s.hi, .int .u64 g.hd.s.lo, .int .i64 g.hd.d.fam, .int .u64 g.hd.d.hi, .int .u64 g.hd.d.lo, .int .i64 g.hd.pr, .int .i64 g.hd.ho, .bool false, .int .u32 0, .int .i64 0, .bool false, .slice g.hd.xa g.hd.X.length g.hd.xc, .slice (some ⟨W3.heap.size, 0, none⟩) N N]
   have df : Hid _ := qd.out.other (show W3.heap.size ≠ W1.heap.size by omega) #[.int .i64 g.hd.fam, .int .i64 g.hd.s.fam, .int .u64 g.hd.s.hi, .int .u64 g.hd.s.lo, .int .i64 g.hd.d.fam, .int .u64 g.hd.d.hi, .int .u64 g.hd.d.lo, .int .i64 g.hd.pr, .int .i64 g.hd.ho, .bool false, .int .u32 0, .int .i64 0, .bool false, .slice g.hd.xa g.hd.X.length g.hd.xc, .slice (some ⟨W3.heap.size, 0, none⟩) N N]
   go_wp2_with (first
    | (refine wpList_load_row rfl _ _ rfl W2.heap.size (by rfl) _ _ _ _ qp Try.underlying42 rfl (by kernel_rfl) ?_)
    | (refine wpList_store_row rfl _ _ _ rfl W1.heap.size #[.int .i64 g.hd.fam, .int .i64 g.hd.s.fam, .int .u64 g.hd.s.hi, .int .u64 g.hd.s.lo, .int .i64 g.hd.d.fam, .int .u64 g.hd.d.hi, .int .u64 g.hd.d.lo, .int .i64 g.hd.pr, .int .i64 g.hd.ho, .bool false, .int .u32 0, .int .i64 0, .bool false, .slice g.hd.xa g.hd.X.length g.hd.xc, .slice (some ⟨W3.heap.size, 0, none⟩) N N] (by rfl) (by rfl) _ _ qr (by kernel_rfl) (by rfl) (by kernel_rfl) ?_))
   exact ret_cell (k := 2) Try.f48 (by kernel_rfl) qf Try.underlying42 (by kernel_rfl) (by rfl) rfl ⟨W3.heap.size, rfl, df.out, by omega, bf⟩
end Go.Proofs.Ytkeeidfpgfdldaa
