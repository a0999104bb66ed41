/- For every input the law LookSwaps returns true and leaves its arguments as they were; the variables that its row lists hold what they are listed with (the card ties them to the program's text). -/
import Derived.Test.YtmfgjicfdjjihaaGreatDoorLxa0
import Derived.Test.YtmfgjicfdjjihaaGreatDoorLxa1
import Derived.Test.YtmfgjicfdjjihaaGreatDoorLxa2
import Derived.Test.YtmfgjicfdjjihaaGreatDoorLxa3
import Derived.Test.YtmfgjicfdjjihaaGreatDoorLxa4
import Derived.Test.YtmfgjicfdjjihaaGreatDoorLxa5
import Derived.Test.YtmfgjicfdjjihaaGreatDoorLxa6
import Derived.Test.YtmfgjicfdjjihaaGreatDoorLxa7
import Derived.Test.YtmfgjicfdjjihaaGreatDoorLxa8
import Derived.Test.YtmfgjicfdjjihaaGreatDoorLxa9
import Derived.Test.YtmfgjicfdjjihaaGreatDoorLxa10
import Derived.Test.YtmfgjicfdjjihaaGreatDoorLxa11
import Derived.Test.YtmfgjicfdjjihaaGreatDoorLxa12
import Derived.Test.YtmfgjicfdjjihaaGreatDoorLxa13
import Derived.Test.YtmfgjicfdjjihaaGreatDoorLxa14
import Derived.Test.YtmfgjicfdjjihaaGreatDoorLxa15
import Derived.Test.YtmfgjicfdjjihaaGreatDoorLxa16
import Derived.Test.YtmfgjicfdjjihaaGreatDoorLxa17
import Derived.Test.YtmfgjicfdjjihaaGreatDoorLxa18
import Derived.Test.YtmfgjicfdjjihaaGreatDoorLxa19
import Derived.Test.YtmfgjicfdjjihaaGreatDoorLxa20
import Derived.Test.YtmfgjicfdjjihaaGreatDoorLxa21
import Derived.Test.YtmfgjicfdjjihaaGreatDoorLxa22
import Derived.Test.YtmfgjicfdjjihaaGreatDoorLxa23
import Derived.Test.YtmfgjicfdjjihaaGreatDoorLxa24
import Derived.Test.YtmfgjicfdjjihaaGreatDoorLxa25
import Derived.Test.YtmfgjicfdjjihaaGreatDoorLxa26
import Derived.Test.YtmfgjicfdjjihaaGreatDoorLxa27
import Derived.Test.YtmfgjicfdjjihaaGreatDoorLxa28
import Derived.Test.YtmfgjicfdjjihaaGreatDoorLxa29
import Derived.Test.YtmfgjicfdjjihaaGreatDoorLxa30
import Derived.Test.YtmfgjicfdjjihaaGreatDoorLxa31
import Derived.Test.YtmfgjicfdjjihaaGreatDoorLxa32
import Derived.Test.YtmfgjicfdjjihaaGreatDoorLxa33
import Derived.Test.YtmfgjicfdjjihaaGreatDoorLxa34
import Derived.Test.YtmfgjicfdjjihaaGreatDoorLxa35
import Derived.Test.YtmfgjicfdjjihaaGreatDoorLxa36
import Derived.Test.YtmfgjicfdjjihaaGreatDoorLxa37
import Derived.Test.YtmfgjicfdjjihaaGreatDoorLxa38
import Derived.Test.YtmfgjicfdjjihaaGreatDoorLxa39
import Derived.Test.YtmfgjicfdjjihaaGreatDoorLxa40
import Derived.Test.YtmfgjicfdjjihaaGreatDoorLxa41
import Derived.Test.YtmfgjicfdjjihaaGreatDoorLxa42
import Derived.Test.YtmfgjicfdjjihaaGreatDoorLxb0
import Derived.Test.YtmfgjicfdjjihaaGreatDoorLxb1
import Derived.Deep.QuietTactic
import Derived.BigQuiet
import Derived.Deep.AppendLies
import Derived.Deep.WholeRow
import Derived.BigRegion
import Derived.Deep.RegionHeld3
import Derived.Laws.BytesArg
import Derived.Laws.MakeOwn
import Derived.Test.YtmfgjicfdjjihaaGreatDoorRows
import Derived.WalkKit
import Derived.Laws.BitsAllLaws
import Derived.Laws.BitsLemmas
import Derived.Laws.Bits128
import Derived.Laws.AppendOwn
import Derived.Laws.AppendOwnNone
import Derived.Laws.OwnMore
import Derived.OwnWalk
import Derived.KernelRfl
import Derived.Below
import Derived.Deep.Draws
import Derived.Laws.World
import Derived.Laws.Shifts
import Derived.Laws.ShiftsVarLaws
import Derived.Laws.StructEq
import Derived.Deep.RegionWith
import Derived.Deep.DeepCutAuto
import Derived.RegionTactic
import Derived.Test.YtmfgjicfdjjihaaGreatDoorShelf
import Derived.Sort.OwnSortedInts
import Derived.Sort.Grow
import Derived.Laws.Bits64b
import Derived.Test.YtmfgjicfdjjihaaGreatDoorCards
import Derived.Test.YtmfgjicfdjjihaaGreatDoorTie
import Derived.ProofKit
import Derived.OpenShut
import Derived.ChangeOld
import Derived.Carry
import Derived.SizedLaws
import Derived.Deep.DeepHandedRow
import Derived.SevenTiedAt
import Derived.Lib.SmallJoins
import Derived.Deep.Slices
import Derived.Deep.Strs
import Derived.ChangeSame
import Derived.Stop.LaidErr
import Derived.Lib.LaidTab
namespace Go.Proofs.YtmfgjicfdjjihaaGreatDoor
abbrev lxb4o0 : Oper := { dst := some 55, op := Op.call { callee := Callee.value (.func 19), args := #[.tmp 53, .tmp 54], argTypes := #[48, 26] }, type := 34, pos := "law.go:83", after := #[{ on := 0, ground := Ground.data }, { on := 1, ground := Ground.data }], guard := none }
abbrev lxb4o1 : Oper := { dst := some 59, op := Op.binOp BinOp.eql 4 (.tmp 56) (.tmp 58) 4, type := 4, pos := "law.go:83", after := #[{ on := 3, ground := Ground.data }, { on := 5, ground := Ground.data }], guard := none }
abbrev lxb4o2 : Oper := { dst := some 56, op := Op.binOp BinOp.eql 34 (.tmp 55) (.const (.int .i64 0)) 34, type := 4, pos := "law.go:83", after := #[{ on := 2, ground := Ground.data }], guard := none }
abbrev lxb4o3 : Oper := { dst := some 58, op := Op.load 4 (.tmp 57), type := 4, pos := "law.go:83", after := #[{ on := 4, ground := Ground.data }], guard := none }
abbrev lxb4o4 : Oper := { dst := some 57, op := Op.fieldAddr 53 (.tmp 8) 1, type := 0, pos := "law.go:83", after := #[], guard := none }
abbrev lxb4o5 : Oper := { dst := some 54, op := Op.load 26 (.tmp 9), type := 26, pos := "law.go:83", after := #[], guard := none }
abbrev lxb4o6 : Oper := { dst := some 53, op := Op.move (.tmp 3), type := 48, pos := "law.go:83", after := #[], guard := none }
end Go.Proofs.YtmfgjicfdjjihaaGreatDoor
namespace Go.Proofs.YtmfgjicfdjjihaaGreatDoor
open Go.RowKit
set_option linter.unusedVariables false
set_option linter.unusedSimpArgs false
/-- What lies there while the script is played. -/
structure SwI (w wr : World) (g nb : Nat) (m : Nat) (l0 : List Rl) (oh un : TO) : Prop where
 hb : Blk wr g 66 (hv oh (m : Int))
 ho : TO.own wr w.heap.size l0 oh
 nbk : Blk wr nb 26 un.v
 no : TO.own wr w.heap.size l0 un
 l64 : l0.length ≤ 64
 cst : costN l0 6 ≤ 4096
 rls : ∀ r ∈ l0, r.ok ∧ r.right = true
 gw : w.heap.size ≤ g
 nw : w.heap.size ≤ nb
 bel : Below w.heap.size w wr
theorem SwI.below {w wr wr' : World} {g nb m : Nat} {l0 : List Rl} {oh un : TO} (h : SwI w wr g nb m l0 oh un) (hb : Below wr.heap.size wr wr') : SwI w wr' g nb m l0 oh un :=
 ⟨h.hb.kept hb, h.ho.below hb, h.nbk.kept hb, h.no.below hb, h.l64, h.cst, h.rls, h.gw, h.nw, bel_tr h.bel hb⟩
theorem comp_two {l : List Rl} {E : Int} {B : Nat} {e : Ending} {w : World} (h : CompGot l E B e w) : (E ≠ 0 ∧ e = .returned (.tuple #[.agg zc3, .int .i64 E])) ∨ (E = 0 ∧ ∃ da dc D xa xc X fa fc F fn, List.length F = fn ∧ e = .returned (.tuple #[.agg #[.slice da 7 dc, .slice xa 6 xc, .slice fa fn fc], .int .i64 0]) ∧ TO.own w B l ⟨da, dc, D, xa, xc, X, fa, fc, F⟩) := by
 rcases h with ⟨h0, rfl⟩ | ⟨h0, da, dc, D, xa, xc, X, fa, fc, F, rfl, hD, hX, hF, hT⟩
 ·exact .inl ⟨h0, rfl⟩
 ·exact .inr ⟨h0, da, dc, D, xa, xc, X, fa, fc, F, _, rfl, rfl, hD, hX, hF, hT⟩
abbrev z14 : Array Value := #[.bool false, .bool false, .slice none 0 0, .int .i64 0, .int .i64 0, .int .i64 0, .int .u64 0, .int .u64 0, .int .i64 0, .int .u64 0, .int .u64 0, .int .i64 0, .int .i64 0, .int .i64 0]
theorem act_key {w : World} {ab : Nat} {x : Ac} {AV : Array Value} (hA : x.v = AV) (h : Blk w ab 53 AV) : CellsAt w ab 3 x.k.v := by
 subst hA
 refine ⟨h.lt, fun j v hj => ?_⟩
 have hj' : j < 11 := (Array.getElem?_eq_some_iff.1 hj).1
 refine h.cell (3 + j) v ?_
 have hs : ∀ j, j < 11 → x.v[3 + j]? = x.k.v[j]? := fun j hj => by
  match j, hj with
  | 0, _ => rfl
  | 1, _ => rfl
  | 2, _ => rfl
  | 3, _ => rfl
  | 4, _ => rfl
  | 5, _ => rfl
  | 6, _ => rfl
  | 7, _ => rfl
  | 8, _ => rfl
  | 9, _ => rfl
  | 10, _ => rfl
 rw [hs j hj']
 exact hj
set_option maxRecDepth 100000 in
set_option maxHeartbeats 32000000 in
theorem lookSwaps_walk (a : Option Addr) (c : Nat) (l : List Ac) (w : World) (hN44 : l.length ≤ 17592186044416) (hrow : RowA w a l) (hT : Top w) (hDb : Deb w) (hSd : Sds w) (hL : Lks w) : Calls Tryz.prog 6 #[.slice a l.length c] w fun e w' => e = .returned (.bool true) ∧ Below w.heap.size w w' := by
 have KA : Hid (∀ W, Below w.heap.size w W → Calls Tryz.prog 11 #[] W fun e w' => e = .returned (.bool true) ∧ Below W.heap.size W w') := fun W hb => alive_lk W (hT.below hb) (hDb.below hb) (hSd.below hb) (hL.below hb)
 have K1 : Hid _ := new_lk w hT hDb hSd
 have HLK : Hid (Lks w) := hL
 have HROW : Hid (RowA w a l) := hrow
 have hsa0 : (Tryz.prog.info? 53).map (·.size) = some 14 := by kernel_rfl
 have HSA : Hid ((Tryz.prog.info? 53).map (·.size) = some 14) := hsa0
 have hst : (Tryz.prog.info? 26).map (·.size) = some 3 := by kernel_rfl
 obtain ⟨FV, hFV⟩ : ∃ FV : List Rl → Ky → Int × Int, ∀ l0 k, FV l0 k = if k.right = true then (firstN (ofB l0 (·.takes k)), (0 : Int)) else (0, 1) := ⟨_, fun _ _ => rfl⟩
 have KH : Hid (∀ (V : World) (g nb m : Nat) (l0 : List Rl) (oh un : TO) (k : Ky), k.ok → SwI w V g nb m l0 oh un → Calls Tryz.prog 20 #[.pointer (some ⟨g, 0, none⟩), .agg k.v] V fun e w' => e = .returned (.tuple #[.int .i64 (FV l0 k).1, .int .i64 (FV l0 k).2]) ∧ Below V.heap.size V w') := fun V g nb m l0 oh un k ko h => by
  have := hfind_lk g oh (m : Int) k l0 w.heap.size V h.hb h.ho h.l64 h.cst (HLK.out.below h.bel) ko
  rw [findA_of h.ho h.l64 h.rls ko, ← hFV] at this
  exact this
 have KN : Hid (∀ (V : World) (g nb m : Nat) (l0 : List Rl) (oh un : TO) (k : Ky), k.ok → SwI w V g nb m l0 oh un → Calls Tryz.prog 13 #[.agg un.v, .agg k.v] V fun e w' => e = .returned (.tuple #[.int .i64 (FV l0 k).1, .int .i64 (FV l0 k).2]) ∧ Below V.heap.size V w') := fun V g nb m l0 oh un k ko h => by
  have := rlookup_lk un.tr k V (h.no.ok h.l64 h.cst) ko
  rw [findA_of h.no h.l64 h.rls ko, ← hFV, h.no.val] at this
  exact this
 have KT : Hid (∀ (V : World) (g nb m : Nat) (l0 : List Rl) (oh un : TO), SwI w V g nb m l0 oh un → Calls Tryz.prog 21 #[.pointer (some ⟨g, 0, none⟩)] V fun e w' => e = .returned (.int .i64 (m : Int)) ∧ Below V.heap.size V w') := fun V g nb m l0 oh un h => turns_lk g oh (m : Int) V h.hb
 obtain ⟨N, hN⟩ : ∃ N, l.length = N := ⟨_, rfl⟩
 have HN : Hid (l.length = N) := hN
 rw [hN] at hN44 ⊢
 clear hN hrow hT hDb hSd hL hFV
 go_enter Tryz.func6, Tryz.ntmps6
 go_wp2_with fail
 refine Calls.mono K1.out ?_
 rintro e W1 ⟨g, oh, rfl, hbh, hoh, hg, b1⟩
 have HBH : Hid (Blk W1 g 66 (hv oh 0)) := hbh
 have HOH : Hid (TO.own W1 w.heap.size [] oh) := hoh
 have HG : Hid (w.heap.size ≤ g) := hg
 have KA' : Hid _ := KA.out W1 b1
 clear K1 hbh hoh hg KA
 go_wp2_with fail
 refine Calls.mono KA'.out ?_
 rintro e W2 ⟨rfl, q2⟩
 have b2 := bel_tr b1 q2
 have K4 : Hid (Calls Tryz.prog 18 #[.slice none 0 0, .int .i64 13] W2 fun e w' => ∃ da dc D xa xc X fa fc F fn, List.length F = fn ∧ e = .returned (.tuple #[.agg #[.slice da 7 dc, .slice xa 6 xc, .slice fa fn fc], .int .i64 0]) ∧ TO.own w' W2.heap.size [] ⟨da, dc, D, xa, xc, X, fa, fc, F⟩ ∧ Below W2.heap.size W2 w') := by
  refine (rcompile_any none 0 [] 13 W2 ⟨fun q hq => (by cases hq), fun i q hq => (by simp at hq)⟩).mono ?_
  rintro e w' ⟨h, hb⟩
  rw [errT_13] at h
  obtain ⟨⟨da, dc, D, xa, xc, X, fa, fc, F⟩, h1, h2⟩ := comp_own h
  exact ⟨da, dc, D, xa, xc, X, fa, fc, F, _, rfl, h1, h2, hb⟩
 clear KA'
 go_wp2_with fail
 refine Calls.mono K4.out ?_
 rintro e W3 ⟨da, dc, D, xa, xc, X, fa, fc, F, fn, hfn, rfl, hou, q3⟩
 obtain ⟨W4, hW4⟩ : ∃ W4, W3.alloc (.cells #[.slice da 7 dc, .slice xa 6 xc, .slice fa fn fc] 26) = W4 := ⟨_, rfl⟩
 have q4 := bel_al q3 hW4
 have q24 := bel_tr q2 q4
 have HI : Hid (SwI w W4 g W3.heap.size 0 [] oh ⟨da, dc, D, xa, xc, X, fa, fc, F⟩) := by
  refine ⟨HBH.out.kept q24, HOH.out.below q24, ?_, (hou.below (bel_nw hW4)).base b2.size, by simp, by rw [cost_nil]; omega, fun r hr => (by cases hr), HG.out, (bel_tr b2 q3).size, bel_tr b1 q24⟩
  show Blk W4 W3.heap.size 26 #[.slice da 7 dc, .slice xa 6 xc, .slice fa F.length fc]
  rw [hfn]
  exact blk_nw hW4
 clear K4 hou hfn q2 q3 q4 HBH HOH b2
 go_wp2_with fail
 go_loopw [6, 28] (fun v6 i wr => ∃ (n m : Nat) (l0 : List Rl) (oh un : TO), n ≤ N ∧ m ≤ n ∧ v6 = .int .i64 m ∧ i = .int .i64 n ∧ Hid (SwI w wr g W3.heap.size m l0 oh un)) (fun _ i _ => N - (intOf i).toNat)
 case atStart => exact ⟨0, 0, [], oh, _, Nat.zero_le _, Nat.le_refl _, rfl, rfl, HI⟩
 case round =>
  clear HI
  obtain ⟨n, m, l0, oh, un, hn, hmn, rfl, rfl, HI⟩ := hrel
  by_cases hlt : n < N
  rotate_left
  ·have ik : ¬ (n : Int) < (N : Int) := by omega
   have bw := HI.out.bel
   go_wp2
   go_ret
   exact ⟨rfl, bw⟩
  have ik : (n : Int) < (N : Int) := by omega
  have in0 : (0 : Int) ≤ (n : Int) := by omega
  have hw1 : IntKind.i64.wrap ((n : Int) + 1) = ((n + 1 : Nat) : Int) := by simp [IntKind.wrap, IntKind.bits, IntKind.signed]; omega
  have hwm : IntKind.i64.wrap ((m : Int) + 1) = ((m + 1 : Nat) : Int) := by simp [IntKind.wrap, IntKind.bits, IntKind.signed]; omega
  obtain ⟨x, hx⟩ : ∃ x, l[n]? = some x := ⟨_, List.getElem?_eq_getElem (by rw [HN.out]; exact hlt)⟩
  obtain ⟨b, off, ha, hc⟩ := (HROW.out.low HI.out.bel).cells n x hx
  have HXO : Hid (x.ok wr) := (HROW.out.low HI.out.bel).each x (List.mem_of_getElem? hx)
  obtain ⟨AV, hAV⟩ : ∃ AV, x.v = AV := ⟨_, rfl⟩
  have HAV : Hid (x.v = AV) := hAV
  have hsA : (Tryz.prog.info? 53).map (·.size) = some AV.size := by rw [← hAV]; exact HSA.out
  rw [hAV] at hc
  have hsto : (Instr.storeAt 53 (.pointer (some ⟨wr.heap.size, 0, none⟩)) (.agg AV)).run Tryz.prog (wr.alloc (.cells z14 53)) = .ok () (wr.alloc (.cells AV 53)) := run_storeAt_new (P := Tryz.prog) wr 53 z14 AV hsA (by rw [← hAV]; rfl) (by rw [← hAV]; simp [Ac.v, Value.oneCell'])
  obtain ⟨W5, hW5⟩ : ∃ W5, wr.alloc (.cells AV 53) = W5 := ⟨_, rfl⟩
  rw [hW5] at hsto
  have q5 := bel_nw hW5
  have HAB : Hid (Blk W5 wr.heap.size 53 AV) := blk_nw hW5
  have HI5 : Hid (SwI w W5 g W3.heap.size m l0 oh un) := HI.out.below q5
  have HGN : Hid (g < wr.heap.size ∧ W3.heap.size < wr.heap.size) := ⟨HI.out.hb.lt, HI.out.nbk.lt⟩
  have hc0 := HAB.out.cell 0 (.bool x.sw) (by rw [← hAV]; rfl)
  have HC1 : Hid (AV[1]? = some (.bool x.bd)) := by rw [← hAV]; exact rfl
  have HC2 : Hid (AV[2]? = some (.slice x.ra x.R.length x.rc)) := by rw [← hAV]; exact rfl
  have HKO : Hid x.k.ok := HXO.out.k
  have HRR : Hid (RowR wr x.ra x.R) := HXO.out.r
  have HKEY : Hid (∀ V, Blk V wr.heap.size 53 AV → CellsAt V wr.heap.size 3 x.k.v) := fun V h => act_key HAV.out h
  have hsk : (Tryz.prog.info? 33).map (·.size) = some x.k.v.size := by show _ = some 11; kernel_rfl
  obtain ⟨KV, hKV⟩ : ∃ KV, x.k.v = KV := ⟨_, rfl⟩
  have HKV : Hid (x.k.v = KV) := hKV
  rw [hKV] at hsk HKEY
  obtain ⟨sw, hsw⟩ : ∃ sw, x.sw = sw := ⟨_, rfl⟩
  obtain ⟨bd, hbd⟩ : ∃ bd, x.bd = bd := ⟨_, rfl⟩
  rw [hsw] at hc0
  rw [hbd] at HC1
  subst ha
  clear hx hAV hKV hsw hbd HXO HI
  cases sw
  ·have atk := HKEY.out _ HAB.out
   have KH1 : Hid _ := KH.out W5 g W3.heap.size m l0 oh un x.k HKO.out HI5.out
   rw [HKV.out] at KH1
   go_wp2_with (first
    | (refine wpList_load_at rfl _ _ rfl b (off + n * 14) (by rfl) _ hc Tryz.underlying53 hsA ?_)
    | (refine wpList_store_new _ _ rfl _ _ _ rfl _ _ rfl rfl hsto ?_)
    | (refine wpList_load_at rfl _ _ rfl wr.heap.size 3 (by rfl) _ atk Tryz.underlying33 hsk ?_))
   clear hc hsto hc0
   refine Calls.mono KH1.out ?_
   rintro e V1 ⟨rfl, p1⟩
   have SI1 : Hid (SwI w V1 g W3.heap.size m l0 oh un) := HI5.out.below p1
   have AB1 : Hid (Blk V1 wr.heap.size 53 AV) := HAB.out.kept p1
   have KN1 : Hid _ := KN.out V1 g W3.heap.size m l0 oh un x.k HKO.out SI1.out
   rw [HKV.out] at KN1
   have atk1 := HKEY.out _ AB1.out
   have atn := SI1.out.nbk.at_
   clear KH1 atk
   go_wp2_with (first
    | (refine wpList_load_at rfl _ _ rfl W3.heap.size 0 (by rfl) _ atn Tryz.underlying26 hst ?_)
    | (refine wpList_load_at rfl _ _ rfl wr.heap.size 3 (by rfl) _ atk1 Tryz.underlying33 hsk ?_))
   refine Calls.mono KN1.out ?_
   rintro e V2 ⟨rfl, p2⟩
   have SI2 : Hid (SwI w V2 g W3.heap.size m l0 oh un) := SI1.out.below p2
   have KT2 : Hid _ := KT.out V2 g W3.heap.size m l0 oh un SI2.out
   clear KN1 atk1 atn
   go_wp2_with fail
   refine Calls.mono KT2.out ?_
   rintro e V3 ⟨rfl, p3⟩
   have SI3 : Hid (SwI w V3 g W3.heap.size m l0 oh un) := SI2.out.below p3
   clear KT2
   go_wp2
   exact ⟨⟨n + 1, m, l0, oh, un, by omega, by omega, rfl, by first | rfl | (congr 1), SI3⟩, by simp only [intOf]; omega⟩
  ·have KC : Hid (Calls Tryz.prog 18 #[.slice x.ra x.R.length x.rc, .int .i64 4096] W5 fun e w' => CompGot x.R (errT x.R (errC x.R 0) 4096) W5.heap.size e w' ∧ Below W5.heap.size W5 w') := rcompile_any x.ra x.rc x.R 4096 W5 (HRR.out.low q5)
   have hc2 := HAB.out.cell 2 _ HC2.out
   have HR64 : Hid (errT x.R (errC x.R 0) 4096 = 0 → x.R.length ≤ 64 ∧ costN x.R 6 ≤ 4096 ∧ ∀ r ∈ x.R, r.ok ∧ r.right = true) := fun h => by
    obtain ⟨g1, g2, _, _, g5⟩ := errT_ok h
    obtain ⟨_, _, _, _, g6⟩ := err_ok g1
    exact ⟨g2, g5, fun r hr => ⟨HRR.out.each r hr, g6 r hr⟩⟩
   obtain ⟨E, hE⟩ : ∃ E, errT x.R (errC x.R 0) 4096 = E := ⟨_, rfl⟩
   rw [hE] at KC HR64
   clear hE HC2 HRR
   go_wp2_with (first
    | (refine wpList_load_at rfl _ _ rfl b (off + n * 14) (by rfl) _ hc Tryz.underlying53 hsA ?_)
    | (refine wpList_store_new _ _ rfl _ _ _ rfl _ _ rfl rfl hsto ?_))
   refine Calls.mono KC.out ?_
   rintro e W6 ⟨hgot, q6⟩
   clear hc hsto hc0 hc2 KC
   rcases comp_two hgot with ⟨hne, rfl⟩ | ⟨rfl, da, dc, D, xa, xc, X, fa, fc, F, fn, hfn, rfl, hou⟩
   ·have hne' : (E != 0) = true := by simpa using hne
    obtain ⟨W7, hW7⟩ : ∃ W7, W6.alloc (.cells zc3 26) = W7 := ⟨_, rfl⟩
    have hst7 : (Instr.storeAt 26 (.pointer (some ⟨W6.heap.size, 0, none⟩)) (.agg zc3)).run Tryz.prog (W6.alloc (.cells zc3 26)) = .ok () (W6.alloc (.cells zc3 26)) := run_storeAt_new (P := Tryz.prog) W6 26 zc3 _ (by kernel_rfl) rfl (by kernel_rfl)
    rw [hW7] at hst7
    have HI7 : Hid (SwI w W7 g W3.heap.size m l0 oh un) := HI5.out.below (bel_al q6 hW7)
    clear hgot hne
    go_wp2_with (first | (refine wpList_store_new _ _ rfl _ _ _ rfl _ _ rfl rfl hst7 ?_))
    exact ⟨⟨n + 1, m, l0, oh, un, by omega, by omega, rfl, by first | rfl | (congr 1), HI7⟩, by simp only [intOf]; omega⟩
   ·obtain ⟨r64, rcs, rrl⟩ := HR64.out rfl
    have HR6 : Hid (x.R.length ≤ 64 ∧ costN x.R 6 ≤ 4096 ∧ ∀ r ∈ x.R, r.ok ∧ r.right = true) := ⟨r64, rcs, rrl⟩
    have HF10 : Hid (F.length ≤ 10000) := (tab_small r64 rcs hou.is).2.2
    obtain ⟨W7, hW7⟩ : ∃ W7, W6.alloc (.cells #[.slice da 7 dc, .slice xa 6 xc, .slice fa fn fc] 26) = W7 := ⟨_, rfl⟩
    have q7 := bel_al q6 hW7
    have HI7 : Hid (SwI w W7 g W3.heap.size m l0 oh un) := HI5.out.below q7
    have HOU : Hid (TO.own W7 W5.heap.size x.R ⟨da, dc, D, xa, xc, X, fa, fc, F⟩) := hou.below (bel_nw hW7)
    have HTB : Hid (Blk W7 W6.heap.size 26 #[.slice da 7 dc, .slice xa 6 xc, .slice fa fn fc]) := blk_nw hW7
    have HAB7 : Hid (Blk W7 wr.heap.size 53 AV) := HAB.out.kept q7
    have HFN : Hid (F.length = fn) := hfn
    have HLT : Hid (wr.heap.size < W6.heap.size) := Nat.lt_of_lt_of_le HAB.out.lt q6.size
    have h57 : W5.heap.size ≤ W7.heap.size := q7.size
    have H57 : Hid (w.heap.size ≤ W5.heap.size ∧ W5.heap.size ≤ W6.heap.size) := ⟨HI5.out.bel.size, q6.size⟩
    have hc1 := HAB7.out.cell 1 _ HC1.out
    clear hgot hou r64 rcs rrl HR64 HI5 hfn h57 q6 q7
    cases bd
    ·have atb := HTB.out.at_
     have hnb : Blk W7 W3.heap.size 26 un.v := HI7.out.nbk
     obtain ⟨W8, hW8⟩ : ∃ W8, W7.setRow W3.heap.size #[.slice da 7 dc, .slice xa 6 xc, .slice fa fn fc] = W8 := ⟨_, rfl⟩
     have u8 : Upd W3.heap.size W7 W8 := by rw [← hW8]; exact Upd.setRow _ _ _
     have t8 : Tc (· == 26) W7 W8 := u8.tc hnb
     have HTB8 : Hid (Blk W8 W6.heap.size 26 #[.slice da 7 dc, .slice xa 6 xc, .slice fa fn fc]) := HTB.out.upd u8 (by have := HGN.out; have := HLT.out; omega)
     have HAB8 : Hid (Blk W8 wr.heap.size 53 AV) := HAB7.out.upd u8 (by have := HGN.out; omega)
     have HNB8 : Hid (Blk W8 W3.heap.size 26 #[.slice da 7 dc, .slice xa 6 xc, .slice fa fn fc]) := by show Blk _ _ _ _; rw [← hW8]; exact hnb.set _
     have HHB8 : Hid (Blk W8 g 66 (hv oh (m : Int))) := HI7.out.hb.tc t8 (by rfl)
     have HOU8 : Hid (TO.own W8 W5.heap.size x.R ⟨da, dc, D, xa, xc, X, fa, fc, F⟩) := HOU.out.tc t8 (by rfl) (by rfl) (by rfl) (by rfl) (by rfl)
     have B8 : Hid (Below w.heap.size w W8) := Below.upd HI7.out.bel u8 HI7.out.nw
     have HNG : Hid (W3.heap.size ≠ g) := fun e => by
      have h1 := HI7.out.hb
      have h2 := HI7.out.nbk
      rw [e] at h2
      have h3 : some (Obj.cells (hv oh (m : Int)) 66 (0, 0)) = some (Obj.cells un.v 26 (0, 0)) := (show W7.heap[g]? = _ from h1).symm.trans h2
      simp only [Option.some.injEq, Obj.cells.injEq] at h3
      exact absurd h3.2.1 (by decide)
     have HGW : Hid (w.heap.size ≤ g ∧ w.heap.size ≤ W3.heap.size) := ⟨HI7.out.gw, HI7.out.nw⟩
     have HUV : Hid ((⟨da, dc, D, xa, xc, X, fa, fc, F⟩ : TO).v = #[.slice da 7 dc, .slice xa 6 xc, .slice fa fn fc]) := by rw [← HFN.out]; exact rfl
     have KSW : Hid (∀ V, Below W8.heap.size W8 V → Calls Tryz.prog 19 #[.pointer (some ⟨g, 0, none⟩), .agg #[.slice da 7 dc, .slice xa 6 xc, .slice fa fn fc]] V fun e w' => e = .returned (.int .i64 0) ∧ Upd g V w' ∧ ∃ o' : TO, Blk w' g 66 (hv o' ((m + 1 : Nat) : Int)) ∧ TO.own w' V.heap.size x.R o') := fun V hb => by
      have := swap_yes g oh m (by omega) x.R ⟨da, dc, D, xa, xc, X, fa, fc, F⟩ W5.heap.size V (HHB8.out.kept hb) (HOU8.out.below hb) HR6.out.1 HR6.out.2.1 (HLK.out.below (bel_tr B8.out hb))
      rw [HUV.out] at this
      exact this
     have HG8 : Hid (Blk W8.drew g 66 (hv oh (m : Int))) := HHB8.out.drew
     clear u8 t8 HI7 HOU HHB8
     go_wp2_with (first
      | (refine wpList_load_at rfl _ _ rfl W6.heap.size 0 (by rfl) _ atb Tryz.underlying26 hst ?_)
      | (refine wpList_st rfl 26 _ _ rfl W3.heap.size #[.slice da 7 dc, .slice xa 6 xc, .slice fa fn fc] un.v (by rfl) (by rfl) hnb (by kernel_rfl) rfl (by kernel_rfl) ?_; rw [hW8]; clear hnb atb hc1 hW8))
     refine wp_region_noPanic ?_
     refine wp_region_held_drew (S := fun w'' => Blk w'' W6.heap.size 26 #[.slice da 7 dc, .slice xa 6 xc, .slice fa fn fc] ∧ Blk w'' wr.heap.size 53 AV) (by kernel_rfl) ⟨HTB8.out.drew, HAB8.out.drew⟩ (fun hHeld => ?_)
     refine qtk (i := 0) (oi := lxb4o6) (v := (.pointer (some ⟨g, 0, none⟩))) hHeld ?_ ?_
     ·intro w9 hSw
      try dsimp only at hSw
      go_simp
     try simp only [qpu]
     refine qty (i := 1) (oi := lxb4o5) (v := (.agg #[.slice da 7 dc, .slice xa 6 xc, .slice fa fn fc])) (yieldsIf_at (by rfl) _ _ rfl W6.heap.size 0 (by rfl) _ (fun _ h => h.1.at_) Tryz.underlying26 hst) hHeld ?_
     try simp only [qpu]
     refine qtk (i := 4) (oi := lxb4o4) (v := (.pointer (some ⟨wr.heap.size, 1, none⟩))) hHeld ?_ ?_
     ·intro w9 hSw
      try dsimp only at hSw
      go_simp
     try simp only [qpu]
     refine qtk (i := 5) (oi := lxb4o3) (v := (.bool false)) hHeld ?_ ?_
     ·intro w9 hSw
      try dsimp only at hSw
      have hcc := hSw.2.cell 1 _ HC1.out
      go_simp
     try simp only [qpu]
     refine wpAnyH_ready (rs := [2]) (by kernel_rfl) (by simp) ?_
     refine AllReadyH.cons (o := lxb4o0) rfl (fun K hK => ?_) AllReadyH.nil
     go_simp
     refine Calls.mono (KSW.out _ (below_drew W8)) ?_
     rintro e W9 ⟨rfl, u9', o9, hB9, hO9⟩
     have HU9 : Hid (Upd g W8.drew W9) := u9'
     have HB9 : Hid (Blk W9 g 66 (hv o9 ((m + 1 : Nat) : Int))) := hB9
     have HO9 : Hid (TO.own W9 W8.drew.heap.size x.R o9) := hO9
     refine hK.out _ _ ⟨HTB8.out.drew.upd u9' (by have := HGN.out; have := HLT.out; omega), HAB8.out.drew.upd u9' (by have := HGN.out; omega)⟩ (fun hHeld => ?_)
     clear hK K u9' hB9 hO9
     try simp only [qpu]
     refine qtk (i := 3) (oi := lxb4o2) (v := (.bool true)) hHeld ?_ ?_
     ·intro w9 hSw
      try dsimp only at hSw
      go_simp
     try simp only [qpu]
     refine qtk (i := 6) (oi := lxb4o1) (v := (.bool false)) hHeld ?_ ?_
     ·intro w9 hSw
      try dsimp only at hSw
      go_simp
     try simp only [qpu]
     refine wpAnyH_done (by kernel_rfl) ?_ _
     refine NoPanic.normal ?_

     have u9 : Upd g W8 W9 := (Upd.of_below (below_drew W8)).trans HU9.out
     have HI9 : Hid (SwI w W9 g W3.heap.size (m + 1) x.R o9 ⟨da, dc, D, xa, xc, X, fa, fc, F⟩) := by
      refine ⟨HB9.out, HO9.out.base (bel_tr B8.out (below_drew W8)).size, ?_, ((HOU8.out.below (below_drew W8)).upd HU9.out HG8.out).base H57.out.1, HR6.out.1, HR6.out.2.1, HR6.out.2.2, HGW.out.1, HGW.out.2, Below.upd (bel_tr B8.out (below_drew W8)) HU9.out HGW.out.1⟩
      rw [HUV.out]
      exact (HNB8.out.drew).upd HU9.out (by have := HGN.out; have := HNG.out; omega)
     have HAB9 : Hid (Blk W9 wr.heap.size 53 AV) := HAB8.out.drew.upd HU9.out (by have := HGN.out; omega)
     have atk := HKEY.out _ HAB9.out
     have KH1 : Hid _ := KH.out W9 g W3.heap.size (m + 1) x.R o9 ⟨da, dc, D, xa, xc, X, fa, fc, F⟩ x.k HKO.out HI9.out
     rw [HKV.out] at KH1
     go_wp2_with (first | (refine wpList_load_at rfl _ _ rfl wr.heap.size 3 (by rfl) _ atk Tryz.underlying33 hsk ?_))
     refine Calls.mono KH1.out ?_
     rintro e V1 ⟨rfl, p1⟩
     have SI1 : Hid (SwI w V1 g W3.heap.size (m + 1) x.R o9 ⟨da, dc, D, xa, xc, X, fa, fc, F⟩) := HI9.out.below p1
     have AB1 : Hid (Blk V1 wr.heap.size 53 AV) := HAB9.out.kept p1
     have KN1 : Hid _ := KN.out V1 g W3.heap.size (m + 1) x.R o9 ⟨da, dc, D, xa, xc, X, fa, fc, F⟩ x.k HKO.out SI1.out
     rw [HKV.out] at KN1
     have atk1 := HKEY.out _ AB1.out
     have atn := SI1.out.nbk.at_
     clear KH1 atk
     go_wp2_with (first
      | (refine wpList_load_at rfl _ _ rfl W3.heap.size 0 (by rfl) _ atn Tryz.underlying26 hst ?_)
      | (refine wpList_load_at rfl _ _ rfl wr.heap.size 3 (by rfl) _ atk1 Tryz.underlying33 hsk ?_))
     refine Calls.mono KN1.out ?_
     rintro e V2 ⟨rfl, p2⟩
     have SI2 : Hid (SwI w V2 g W3.heap.size (m + 1) x.R o9 ⟨da, dc, D, xa, xc, X, fa, fc, F⟩) := SI1.out.below p2
     have KT2 : Hid _ := KT.out V2 g W3.heap.size (m + 1) x.R o9 ⟨da, dc, D, xa, xc, X, fa, fc, F⟩ SI2.out
     clear KN1 atk1 atn
     go_wp2_with fail
     refine Calls.mono KT2.out ?_
     rintro e V3 ⟨rfl, p3⟩
     have SI3 : Hid (SwI w V3 g W3.heap.size (m + 1) x.R o9 ⟨da, dc, D, xa, xc, X, fa, fc, F⟩) := SI2.out.below p3
     clear KT2
     go_wp2
     exact ⟨⟨n + 1, (m + 1), x.R, o9, ⟨da, dc, D, xa, xc, X, fa, fc, F⟩, by omega, by omega, rfl, by first | rfl | (congr 1), SI3⟩, by simp only [intOf]; omega⟩
    ·have hf7 : OwnJ W7 W5.heap.size fa fc F := HOU.out.f
     obtain ⟨a1, c1, W8, hrun1, ho1, hb1⟩ := run_appJs W7 24 W7.heap.size none 0 [] (OwnJ.nil _ _) fa fc F (hf7.row (by have := HF10.out; omega)) (fun e => by
      have hf := hf7
      rw [e] at hf
      rcases hf.2 with ⟨h5, h6⟩ | ⟨g, cap, cur, h5, _⟩
      ·injection h5 with e0 e1 e2
       exact ⟨e2, List.eq_nil_of_length_eq_zero h6⟩
      ·injection h5 with e0
       cases e0) (by have := HF10.out; simp only [List.length_nil]; omega) (Nat.le_refl _)
     rw [List.nil_append, HFN.out, List.length_nil] at hrun1
     rw [List.nil_append] at ho1
     have HR1 : Hid _ := hrun1
     obtain ⟨W9, hW9⟩ : ∃ W9, W8.alloc (.cells #[.int .i64 0] 3) = W9 := ⟨_, rfl⟩
     have q9 := bel_al hb1 hW9
     obtain ⟨g2, c2, WA, hrun2, ho2, hg2, hb2⟩ := run_appJ1 W9 24 W7.heap.size a1 c1 F (ho1.below (bel_nw hW9)) W8.heap.size 1 0 3 (blk_nw hW9) (by have := HF10.out; omega) q9.size
     rw [HFN.out] at hrun2
     have HR2 : Hid _ := hrun2
     have qA : Below W7.heap.size W7 WA := q9.trans hb2
     have HTBA : Hid (Blk WA W6.heap.size 26 #[.slice da 7 dc, .slice xa 6 xc, .slice fa fn fc]) := HTB.out.kept qA
     have HJA : Hid (OwnJ WA W7.heap.size (some ⟨g2, 0, none⟩) c2 (F ++ [0])) := ho2
     have hc7 := HTB.out.cell 2 _ rfl
     have hcA := HTBA.out.cell 2 _ rfl
     have hfA := HTBA.out.frozen 2
     obtain ⟨WB, hWB⟩ : ∃ WB, WA.setCell ⟨W6.heap.size, 2, none⟩ (.slice (some ⟨g2, 0, none⟩) (fn + 1) c2) = WB := ⟨_, rfl⟩
     have uB : Upd W6.heap.size WA WB := by
      rw [← hWB, setCell_eq_setRow WA W6.heap.size 2 _ 26 (0, 0) _ HTBA.out]
      exact Upd.setRow _ _ _
     have tB : Tc (· == 26) WA WB := uB.tc HTBA.out
     have HTBB : Hid (Blk WB W6.heap.size 26 #[.slice da 7 dc, .slice xa 6 xc, .slice (some ⟨g2, 0, none⟩) (fn + 1) c2]) := by
      have := HTBA.out.put 2 (.slice (some ⟨g2, 0, none⟩) (fn + 1) c2)
      rw [hWB] at this
      exact this
     have hIA := HI7.out.below qA
     have HNT : Hid (W3.heap.size ≠ W6.heap.size ∧ g ≠ W6.heap.size) := by have := HGN.out; have := HLT.out; exact ⟨by omega, by omega⟩
     have HIB : Hid (SwI w WB g W3.heap.size m l0 oh un) := ⟨hIA.hb.upd uB HNT.out.2, hIA.ho.tc tB (by rfl) (by rfl) (by rfl) (by rfl) (by rfl), hIA.nbk.upd uB HNT.out.1, hIA.no.tc tB (by rfl) (by rfl) (by rfl) (by rfl) (by rfl), hIA.l64, hIA.cst, hIA.rls, hIA.gw, hIA.nw, Below.upd hIA.bel uB (Nat.le_trans H57.out.1 H57.out.2)⟩
     have HABB : Hid (Blk WB wr.heap.size 53 AV) := (HAB7.out.kept qA).upd uB (by have := HLT.out; omega)
     have HOB : Hid (TO.own WB W5.heap.size x.R ⟨da, dc, D, xa, xc, X, fa, fc, F⟩) := (HOU.out.below qA).tc tB (by rfl) (by rfl) (by rfl) (by rfl) (by rfl)
     have HJB : Hid (OwnJ WB W7.heap.size (some ⟨g2, 0, none⟩) c2 (F ++ [0])) := ownsRow_tc HJA.out tB (by rfl)
     have KSN : Hid (∀ V, Below WB.heap.size WB V → Calls Tryz.prog 19 #[.pointer (some ⟨g, 0, none⟩), .agg #[.slice da 7 dc, .slice xa 6 xc, .slice (some ⟨g2, 0, none⟩) (fn + 1) c2]] V fun e w' => e = .returned (.int .i64 1) ∧ Below V.heap.size V w') := fun V hb => by
      have hok0 := (HOB.out.below hb).ok HR6.out.1 HR6.out.2.1
      obtain ⟨t1, t2⟩ := tab_bounds HOB.out.is HR6.out.1 HR6.out.2.1
      have := swap_no g oh (m : Int) ⟨da, dc, D.map ChM.r, xa, xc, X.map CrM.r, some ⟨g2, 0, none⟩, c2, F ++ [0]⟩ V (HIB.out.hb.kept hb) ⟨hok0.dn, hok0.xn, hok0.d, hok0.x, (HJB.out.below hb).row (by rw [List.length_append]; have := HF10.out; simp only [List.length_cons, List.length_nil]; omega)⟩ (fun ht => by
       have h1 := ht.fl
       have h2 := (tabR_of HOB.out.is HR6.out.1).fl
       simp only at h1 h2
       rw [List.length_append, ← h2] at h1
       simp at h1) (HLK.out.below (bel_tr HIB.out.bel hb)) t1 (fun n hn => by
       rcases List.mem_append.1 hn with h | h
       ·exact t2 n h
       ·simp at h; omega)
      rw [show (⟨da, dc, D.map ChM.r, xa, xc, X.map CrM.r, some ⟨g2, 0, none⟩, c2, F ++ [0]⟩ : TR).v = #[.slice da 7 dc, .slice xa 6 xc, .slice (some ⟨g2, 0, none⟩) (fn + 1) c2] from by
       show #[Value.slice da (D.map ChM.r).length dc, Value.slice xa (X.map CrM.r).length xc, Value.slice (some ⟨g2, 0, none⟩) (F ++ [0]).length c2] = _
       rw [List.length_map, List.length_map, HOB.out.is.d7, HOB.out.is.x6, List.length_append, HFN.out]
       rfl] at this
      exact this
     clear hf7 hrun1 hrun2 ho1 ho2 hg2 hb1 hb2 uB tB hIA HJA HI7 HOU q9
     go_wp2_with (first
      | (refine wpList_rn rfl 24 _ _ rfl _ _ rfl rfl _ _ HR1.out ?_; clear HR1 hc7)
      | (refine wpList_rn rfl 24 _ _ rfl _ _ rfl rfl _ _ HR2.out ?_; clear HR2))
     clear hcA hfA hc1
     refine wp_region_noPanic ?_
     refine wp_region_held_drew (S := fun w'' => Blk w'' W6.heap.size 26 #[.slice da 7 dc, .slice xa 6 xc, .slice (some ⟨g2, 0, none⟩) (fn + 1) c2] ∧ Blk w'' wr.heap.size 53 AV) (by kernel_rfl) ⟨HTBB.out.drew, HABB.out.drew⟩ (fun hHeld => ?_)
     refine qtk (i := 0) (oi := lxb4o6) (v := (.pointer (some ⟨g, 0, none⟩))) hHeld ?_ ?_
     ·intro w9 hSw
      try dsimp only at hSw
      go_simp
     try simp only [qpu]
     refine qty (i := 1) (oi := lxb4o5) (v := (.agg #[.slice da 7 dc, .slice xa 6 xc, .slice (some ⟨g2, 0, none⟩) (fn + 1) c2])) (yieldsIf_at (by rfl) _ _ rfl W6.heap.size 0 (by rfl) _ (fun _ h => h.1.at_) Tryz.underlying26 hst) hHeld ?_
     try simp only [qpu]
     refine qtk (i := 4) (oi := lxb4o4) (v := (.pointer (some ⟨wr.heap.size, 1, none⟩))) hHeld ?_ ?_
     ·intro w9 hSw
      try dsimp only at hSw
      go_simp
     try simp only [qpu]
     refine qtk (i := 5) (oi := lxb4o3) (v := (.bool true)) hHeld ?_ ?_
     ·intro w9 hSw
      try dsimp only at hSw
      have hcc := hSw.2.cell 1 _ HC1.out
      go_simp
     try simp only [qpu]
     refine wpAnyH_ready (rs := [2]) (by kernel_rfl) (by simp) ?_
     refine AllReadyH.cons (o := lxb4o0) rfl (fun K hK => ?_) AllReadyH.nil
     go_simp
     refine Calls.mono (KSN.out _ (below_drew WB)) ?_
     rintro e WC ⟨rfl, qC⟩
     have qBC := bel_tr (below_drew WB) qC
     refine hK.out _ _ ⟨HTBB.out.kept qBC, HABB.out.kept qBC⟩ (fun hHeld => ?_)
     clear hK K qC
     try simp only [qpu]
     refine qtk (i := 3) (oi := lxb4o2) (v := (.bool false)) hHeld ?_ ?_
     ·intro w9 hSw
      try dsimp only at hSw
      go_simp
     try simp only [qpu]
     refine qtk (i := 6) (oi := lxb4o1) (v := (.bool false)) hHeld ?_ ?_
     ·intro w9 hSw
      try dsimp only at hSw
      go_simp
     try simp only [qpu]
     refine wpAnyH_done (by kernel_rfl) ?_ _
     refine NoPanic.normal ?_

     have HIC : Hid (SwI w WC g W3.heap.size m l0 oh un) := HIB.out.below qBC
     have HABC : Hid (Blk WC wr.heap.size 53 AV) := HABB.out.kept qBC
     have atk := HKEY.out _ HABC.out
     have KH1 : Hid _ := KH.out WC g W3.heap.size m l0 oh un x.k HKO.out HIC.out
     rw [HKV.out] at KH1
     go_wp2_with (first | (refine wpList_load_at rfl _ _ rfl wr.heap.size 3 (by rfl) _ atk Tryz.underlying33 hsk ?_))
     refine Calls.mono KH1.out ?_
     rintro e V1 ⟨rfl, p1⟩
     have SI1 : Hid (SwI w V1 g W3.heap.size m l0 oh un) := HIC.out.below p1
     have AB1 : Hid (Blk V1 wr.heap.size 53 AV) := HABC.out.kept p1
     have KN1 : Hid _ := KN.out V1 g W3.heap.size m l0 oh un x.k HKO.out SI1.out
     rw [HKV.out] at KN1
     have atk1 := HKEY.out _ AB1.out
     have atn := SI1.out.nbk.at_
     clear KH1 atk
     go_wp2_with (first
      | (refine wpList_load_at rfl _ _ rfl W3.heap.size 0 (by rfl) _ atn Tryz.underlying26 hst ?_)
      | (refine wpList_load_at rfl _ _ rfl wr.heap.size 3 (by rfl) _ atk1 Tryz.underlying33 hsk ?_))
     refine Calls.mono KN1.out ?_
     rintro e V2 ⟨rfl, p2⟩
     have SI2 : Hid (SwI w V2 g W3.heap.size m l0 oh un) := SI1.out.below p2
     have KT2 : Hid _ := KT.out V2 g W3.heap.size m l0 oh un SI2.out
     clear KN1 atk1 atn
     go_wp2_with fail
     refine Calls.mono KT2.out ?_
     rintro e V3 ⟨rfl, p3⟩
     have SI3 : Hid (SwI w V3 g W3.heap.size m l0 oh un) := SI2.out.below p3
     clear KT2
     go_wp2
     exact ⟨⟨n + 1, m, l0, oh, un, by omega, by omega, rfl, by first | rfl | (congr 1), SI3⟩, by simp only [intOf]; omega⟩
end Go.Proofs.YtmfgjicfdjjihaaGreatDoor
namespace Go.Proofs.YtmfgjicfdjjihaaGreatDoor.lookSwaps
open Go.ChangeShapes Go.WideShapes Go.ChangeAt Go.RowKit
set_option linter.unusedVariables false
set_option linter.unusedSimpArgs false
theorem own : ownKnob Tryz.prog.godebug = none := by kernel_rfl
theorem laidOut : laidOutB Tryz.prog = true := by kernel_rfl
set_option maxRecDepth 100000 in
theorem contract (H : Type) (enc : TypeId × Value → H) (W : World) (base : Nat) (args : Array Value) (ds gs : List (DataW H)) (before : List MemPlace)
  (hval : ∀ (j : Nat) t v, Tryz.f6.params[j]? = some t → args[j]? = some v → Value.okWide Tryz.prog W .any base t v)
  (hW : DataW.Whole enc Tryz.prog Tryz.f6.params.toList Rows.lookSwapsSpec.vars false W args.toList ds gs before)
  (hsz : (DataW.weightsEach Tryz.prog (Tryz.f6.params.toList ++ Rows.lookSwapsSpec.plain.varTypes Tryz.prog) (ds ++ gs)).all (· ≤ reachBytes) = true)
  (hL : laidMetH Tryz.prog Rows.lookSwapsRow.laid W) (hsh : W.ShapedOpen Tryz.prog) :
  Calls Tryz.prog 6 args W fun e W' => ∃ v, e = .returned v ∧ Rows.lookSwapsSpec.post enc Tryz.prog Tryz.f6 false true false false W args v W' := by
 have hW' := hW
 obtain ⟨p, q, hA0, hV, rfl, hfz, hnd⟩ := hW
 have hA : DataW.TrodAll enc Tryz.prog W 0 (fun _ => true) true Tryz.f6.params.toList args.toList ds p := hA0
 rw [Tryz.params6] at hA hval hsz
 obtain ⟨v0, vs0, d0, ds0, p0, q0, hargs, rfl, rfl, h0, r0⟩ := trodAll_cons hA
 obtain ⟨rfl, rfl, rfl⟩ := trodAll_nil r0
 obtain rfl : args = #[v0] := by cases args; simp_all
 obtain ⟨rfl, rfl⟩ := trodVars_none hV
 have lt0 : ∀ x ∈ p0, x.block < W.heap.size := by obtain ⟨m, hm⟩ := h0; exact DataW.trod_lt m _ _ _ hm
 have s0 : ∀ n ∈ d0.weights Tryz.prog 47, n ≤ reachBytes := fun n hn => by simpa using List.all_eq_true.1 hsz n (DataW.weights_mem_each (j := 0) (t := 47) rfl rfl n hn)
 obtain ⟨a0, c0, l0, rfl, hs0, w0⟩ := open_acts_lk (hval 0 47 v0 rfl rfl) h0 s0
 obtain ⟨hT, hDb, hSd, hLk⟩ := four_of (show laidMet Tryz.prog Rows.lookSwapsRow.laid W from hL)
 clear hA0 hval
 refine (lookSwaps_walk a0 c0 l0 W hs0 w0 hT hDb hSd hLk).mono fun e W' ⟨he, bel⟩ => ?_
 subst he
 exact ⟨_, rfl, _, _, _, [], _, [], hW', trodAll_mk1 (shut_bool Tryz.underlying4 _), (trodAll_cons_mk (Below.trod laidOut (by kernel_rfl) (of_decide_eq_true (by kernel_rfl)) h0 bel lt0) trodAll_mk0), rfl, bel.frame _, fun h => by cases h⟩
theorem laid_met (os : Os) : laidMet Tryz.prog Rows.lookSwapsRow.laid (({ World.holding Tryz.prog os ⟨#[], #[], []⟩ with heap := ((((World.holding Tryz.prog os ⟨#[], #[], []⟩).heap.modify 2 (layOne (layA Rows.laid_stockade_chunk_greatest))).modify 3 (layOne (layA Rows.laid_math_bits_deBruijn64tab))).modify 1 (layOne (layB Rows.laid_stockade_rfc_sides))).modify 0 (layOne (layB Rows.laid_stockade_look_sides)) } : World).forCall (fun _ _ => 0) ⟨#[], #[.slice none 0 0], []⟩).memory :=
 laidMet_of_run' 8 (by kernel_rfl) (by kernel_rfl)
theorem reads (os : Os) {H : Type} (enc : TypeId × Value → H) : ∃ places, DataW.whole enc Tryz.prog (({ World.holding Tryz.prog os ⟨#[], #[], []⟩ with heap := ((((World.holding Tryz.prog os ⟨#[], #[], []⟩).heap.modify 2 (layOne (layA Rows.laid_stockade_chunk_greatest))).modify 3 (layOne (layA Rows.laid_math_bits_deBruijn64tab))).modify 1 (layOne (layB Rows.laid_stockade_rfc_sides))).modify 0 (layOne (layB Rows.laid_stockade_look_sides)) } : World).forCall (fun _ _ => 0) ⟨#[], #[.slice none 0 0], []⟩).memory Tryz.f6.params.toList Rows.lookSwapsSpec.vars false (#[.slice none 0 0] : Array Value).toList 8 = some ([.nil], [], places) :=
 ⟨[], by kernel_rfl⟩
set_option maxRecDepth 100000 in
theorem lifted (os : Os) (started : os.Started) (H : Type) (enc : TypeId × Value → H) (F : Stop.Interp) :
  ReturnsInHanded {} Tryz.checked os 6 .any ((OpenSpec.ofChange Rows.lookSwapsSpec).preRow enc Tryz.prog Tryz.f6 Rows.lookSwapsRow.domain false Rows.lookSwapsRow.laid) (((OpenSpec.ofChange Rows.lookSwapsSpec).at F).post enc Tryz.prog Tryz.f6 false true false false) := by
 obtain ⟨places, hx⟩ := reads os enc
 refine returnsInHanded_of_row (C := Tryz.checked) (s := (OpenSpec.ofChange Rows.lookSwapsSpec)) own started (by kernel_rfl) Tryz.func6
  (witness_row_at (enc := enc) (C := Tryz.checked) false ({ World.holding Tryz.prog os ⟨#[], #[], []⟩ with heap := ((((World.holding Tryz.prog os ⟨#[], #[], []⟩).heap.modify 2 (layOne (layA Rows.laid_stockade_chunk_greatest))).modify 3 (layOne (layA Rows.laid_math_bits_deBruijn64tab))).modify 1 (layOne (layB Rows.laid_stockade_rfc_sides))).modify 0 (layOne (layB Rows.laid_stockade_look_sides)) } : World) #[.slice none 0 0] rfl (by kernel_rfl) (by kernel_rfl) (by kernel_rfl)
   (OpenSpec.preRow_of_cond 8 hx (by kernel_rfl) (fun k hk => by cases hk) (by kernel_rfl) (laid_met os))) ?_
 intro W base args ds gs before hval hW _ _ hsz hL hsh _
 exact contract H enc W base args ds gs before hval hW hsz hL hsh
theorem said : Rows.LookSwapsSaid :=
 OpenClaim.holds_of_cond 6 Tryz.f6 rfl rfl rfl rfl rfl rfl rfl ⟨rfl, rfl, rfl, rfl, rfl⟩ rfl rfl rfl rfl rfl (by kernel_rfl) Tryz.func6 (by kernel_rfl)
  (of_decide_eq_true (by kernel_rfl)) (by unfold Func.isWrapper; first | (rw [if_pos (by decide +kernel)]; kernel_rfl) | (rw [if_neg (by decide +kernel)]; exact ⟨rfl, rfl⟩))
  (fun os started H enc _ F => by rw [OpenClaim.pre_eq_preRow]; exact lifted os started H enc F)
theorem plain (f : FuncId) (fn : Func) (hf : Tryz.pinned.checked.prog.funcNamed "stockade/stockadelaw13.LookSwaps" = some f) (hfn : Tryz.pinned.checked.prog.funcs[f]? = some fn) :
  false = Tryz.pinned.checked.prog.looks [] ∧ ∀ (j : Nat) t, fn.params[j]? = some t → Tryz.pinned.checked.prog.wantsStandIn t = false := by
 obtain rfl : f = 6 := Option.some.inj ((show Tryz.prog.funcNamed "stockade/stockadelaw13.LookSwaps" = some 6 by kernel_rfl).symm.trans hf) |>.symm
 obtain rfl : fn = Tryz.f6 := (Option.some.inj (Tryz.func6.symm.trans hfn)).symm
 refine ⟨by kernel_rfl, fun j t ht => ?_⟩
 rw [Tryz.params6] at ht
 have hm : t ∈ [47] := by simpa using Array.mem_of_getElem? ht
 have hall : ([47].all fun u => !Tryz.prog.wantsStandIn u) = true := by kernel_rfl
 exact (show Tryz.prog.wantsStandIn t = false by simpa using List.all_eq_true.1 hall t hm)
end Go.Proofs.YtmfgjicfdjjihaaGreatDoor.lookSwaps
namespace Go.Proofs.YtmfgjicfdjjihaaGreatDoor
theorem lookSwaps_holds : Rows.LookSwapsCardSaid :=
 Claim7.holds_tied_plain_at .later [] _ _ _ _ lookSwaps.said (fun _ h => by cases h) (by kernel_rfl) (fun _ h => by cases h) lookSwaps_row_tie rfl ⟨rfl, rfl⟩ (by kernel_rfl) rfl lookSwaps.plain (by kernel_rfl)
end Go.Proofs.YtmfgjicfdjjihaaGreatDoor
