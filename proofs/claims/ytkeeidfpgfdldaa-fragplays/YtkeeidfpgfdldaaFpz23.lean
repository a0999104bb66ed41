/- Texts joined: FiJ FpD FpF -/
import Derived.Test.YtkeeidfpgfdldaaFpz19
import Derived.Test.YtkeeidfpgfdldaaFpz22
import Derived.Deep.AppendLies
import Derived.Deep.RegionHeld3
namespace Go.Proofs.Ytkeeidfpgfdldaa
open Go.RowKit
set_option linter.unusedVariables false
set_option linter.unusedSimpArgs false
theorem fl_len {α : Type} (f : α → List Value) (n : Nat) (hf : ∀ a, (f a).length = n) : ∀ L : List α, (L.flatMap f).length = L.length * n
 | [] => by simp
 | a :: r => by simp only [List.flatMap_cons, List.length_append, hf, fl_len f n hf r, List.length_cons, Nat.add_mul]; omega
theorem fl_get {α : Type} (f : α → List Value) (n : Nat) (hf : ∀ a, (f a).length = n) : ∀ (L : List α) (i j : Nat) (q : α), L[i]? = some q → j < n → (L.flatMap f)[i * n + j]? = (f q)[j]?
 | [], i, j, q, h, _ => by simp at h
 | a :: r, 0, j, q, h, hj => by
  obtain rfl : a = q := by simpa using h
  rw [List.flatMap_cons, Nat.zero_mul, Nat.zero_add, List.getElem?_append_left (by rw [hf]; exact hj)]
 | a :: r, i + 1, j, q, h, hj => by
  rw [List.flatMap_cons, List.getElem?_append_right (by rw [hf, Nat.add_mul]; omega), hf]
  have : (i + 1) * n + j - n = i * n + j := by rw [Nat.add_mul]; omega
  rw [this]
  exact fl_get f n hf r i j q (by simpa using h) hj
theorem fl_ext {α : Type} (f : α → List Value) (n : Nat) (hn : 0 < n) (hf : ∀ a, (f a).length = n) (L : List α) (xs : List Value) (hl : xs.length = L.length * n) (h : ∀ i j q, L[i]? = some q → j < n → xs[i * n + j]? = (f q)[j]?) : xs = L.flatMap f := by
 apply List.ext_getElem?
 intro k
 by_cases hk : k < L.length * n
 ·have h1 : k / n < L.length := (Nat.div_lt_iff_lt_mul hn).2 hk
  have h2 : k % n < n := Nat.mod_lt _ hn
  have h3 : k / n * n + k % n = k := by rw [Nat.mul_comm]; exact Nat.div_add_mod k n
  have h4 : L[k / n]? = some L[k / n] := List.getElem?_eq_getElem h1
  have h5 := h (k / n) (k % n) _ h4 h2
  have h6 := fl_get f n hf L (k / n) (k % n) _ h4 h2
  rw [h3] at h5 h6
  rw [h5, h6]
 ·rw [List.getElem?_eq_none (by omega), List.getElem?_eq_none (by rw [fl_len f n hf]; omega)]
theorem setMany_at : ∀ (vs : List Value) (cs : Array Value) (j k : Nat), j + vs.length ≤ cs.size → (setMany cs j vs)[k]? = if j ≤ k ∧ k < j + vs.length then vs[k - j]? else cs[k]?
 | [], cs, j, k, _ => by
  rw [if_neg (by simp only [List.length_nil]; omega)]
  rfl
 | v :: vs, cs, j, k, h => by
  have h' : j + (vs.length + 1) ≤ cs.size := by simpa using h
  unfold setMany
  rw [setMany_at vs (cs.setIfInBounds j v) (j + 1) k (by simp; omega)]
  by_cases h1 : k = j
  ·subst h1
   rw [if_neg (by omega), if_pos (by simp), Array.getElem?_setIfInBounds_self]
   simp
   omega
  ·by_cases h2 : j + 1 ≤ k ∧ k < j + 1 + vs.length
   ·rw [if_pos h2, if_pos (by simp; omega)]
    have : k - j = (k - (j + 1)) + 1 := by omega
    rw [this, List.getElem?_cons_succ]
   ·rw [if_neg h2, if_neg (by simp; omega), Array.getElem?_setIfInBounds_ne (by omega)]
theorem setMany_sz : ∀ (vs : List Value) (cs : Array Value) (j : Nat), (setMany cs j vs).size = cs.size
 | [], _, _ => rfl
 | v :: vs, cs, j => by unfold setMany; rw [setMany_sz]; simp
abbrev pc15 (L : List PkIn) : List Value := L.flatMap fun q => q.v.toList
theorem pkv_len (q : PkIn) : q.v.toList.length = 15 := rfl
/-- A slice of packets of one's own. -/
def ownP (w : World) (a : Option Addr) (c : Nat) (L : List PkIn) : Prop := w.ownsRow 0 42 15 (.slice a L.length c) L.length (pc15 L)
theorem ownP_nil (w : World) : ownP w none 0 [] := ⟨rfl, .inl ⟨rfl, rfl⟩⟩
theorem ownP.cases {w : World} {a : Option Addr} {c : Nat} {L : List PkIn} (h : ownP w a c L) : (a = none ∧ c = 0 ∧ L = []) ∨ ∃ g cur, a = some ⟨g, 0, none⟩ ∧ Blk w g 42 cur ∧ L.length ≤ c ∧ c ≤ maxLen ∧ cur.size = c * 15 ∧ cur.toList.take (L.length * 15) = pc15 L := by
 obtain ⟨h1, h2⟩ := h
 rcases h2 with ⟨h3, h4⟩ | ⟨g, cap, cur, h3, h4, h5, h6, h7, h8, h9⟩
 ·simp only [Value.slice.injEq] at h3
  exact .inl ⟨h3.1, h3.2.2, List.eq_nil_of_length_eq_zero h4⟩
 ·simp only [Value.slice.injEq] at h3
  exact .inr ⟨g, cur, h3.1, h5, by rw [h3.2.2]; exact h6, by rw [h3.2.2]; exact h7, by rw [h3.2.2]; exact h8, h9⟩
theorem ownP.at_ {w : World} {a : Option Addr} {c : Nat} {L : List PkIn} (h : ownP w a c L) {i : Nat} {q : PkIn} (hi : L[i]? = some q) : ∃ g, a = some ⟨g, 0, none⟩ ∧ CellsAt w g (i * 15) q.v := by
 have hlt : i < L.length := (List.getElem?_eq_some_iff.1 hi).1
 rcases h.cases with ⟨_, _, rfl⟩ | ⟨g, cur, h1, h2, h3, _, h4, h5⟩
 ·simp at hi
 ·refine ⟨g, h1, h2.lt, fun j v hj => h2.cell (i * 15 + j) v ?_⟩
  have hj' : j < 15 := (Array.getElem?_eq_some_iff.1 hj).1
  have h6 := fl_get (fun q : PkIn => q.v.toList) 15 pkv_len L i j q hi hj'
  have h7 : (cur.toList.take (L.length * 15))[i * 15 + j]? = q.v.toList[j]? := by rw [h5]; exact h6
  rw [List.getElem?_take_of_lt (by omega)] at h7
  rw [Array.getElem?_toList] at h7
  have h8 : q.v.toList[j]? = some v := by rw [Array.getElem?_toList]; exact hj
  rw [h7]; exact h8
theorem ownP.lt {w : World} {a : Option Addr} {c : Nat} {L : List PkIn} (h : ownP w a c L) {x : Addr} (hx : a = some x) : x.block < w.heap.size := by
 rcases h.cases with ⟨h2, _⟩ | ⟨g, cur, h2, h3, _⟩
 ·rw [h2] at hx; cases hx
 ·rw [h2] at hx; cases hx
  exact h3.lt
theorem ownP.but {F : Nat → Prop} {w w' : World} {a : Option Addr} {c : Nat} {L : List PkIn} (h : ownP w a c L) (hb : But F w w') (hn : Off F a) : ownP w' a c L :=
 ownsRow_block h (fun x hx => hb.block x.block (h.lt hx) (hn x hx))
theorem ownP.below {w w' : World} {a : Option Addr} {c : Nat} {L : List PkIn} (h : ownP w a c L) (hb : Below w.heap.size w w') : ownP w' a c L := h.but (But.of_below hb (fun _ => False)) (fun _ _ h => h)
theorem info_ip15 : (Try.prog.info? 42).map (fun i => (i.zero, i.size, i.bytes)) = some (some (.agg #[.int .i64 0, .int .i64 0, .int .u64 0, .int .u64 0, .int .i64 0, .int .u64 0, .int .u64 0, .int .i64 0, .int .i64 0, .bool false, .int .u32 0, .int .i64 0, .bool false, .slice none 0 0, .slice none 0 0]), 15, 144) := by kernel_rfl
theorem ownBlk_iff {a : Option Addr} {n c k : Nat} : (Value.slice a n c).ownBlock = some k ↔ ∃ x, a = some x ∧ x.block = k := by
 cases a with
 | none => simp [Value.ownBlock]
 | some x => simp [Value.ownBlock]
/-- append of one packet. -/
theorem run_appP (w : World) (ty : TypeId) (a : Option Addr) (c : Nat) (L : List PkIn) (g : Nat) (q : PkIn) (hO : ownP w a c L) (hS : CellsAt w g 0 q.v) (hl : L.length ≤ 1048576) :
  ∃ (a2 : Option Addr) (c2 : Nat) (w' : World), (Builtin.append_ #[54, 54] ty #[.slice a L.length c, .slice (some ⟨g, 0, none⟩) 1 1]).run Try.prog w = .ok (.slice a2 (L.length + 1) c2) w' ∧ ownP w' a2 c2 (L ++ [q]) ∧ But (fun k => ∃ x, a = some x ∧ x.block = k) w w' ∧ ∀ x, a2 = some x → (∃ y, a = some y ∧ y.block = x.block) ∨ w.heap.size ≤ x.block := by
 obtain ⟨i0, hi, hz0, hz1, hz2⟩ := info_parts info_ip15
 obtain ⟨v', w', r1, r2, r3, _, r5⟩ := run_append_own_at (P := Try.prog) w 0 54 ty 42 i0 _ 15 144 Try.underlying54 hi hz0 hz1 hz2 rfl (by decide) _ L.length (pc15 L) hO ⟨g, 0, none⟩ 1 1 q.v.toList rfl (fun j u hj => by
   have e0 : Addr.add ⟨g, 0, none⟩ j = ⟨g, 0 + j, none⟩ := Go.WideShapes.add_plain ..
   rw [e0]
   exact hS.2 j u (by simpa using hj)) (fun u hu => (Array.all_eq_true_iff_forall_mem.1 (show q.v.all (·.oneCell') = true by kernel_rfl)) u (by simpa using hu)) (by unfold maxLen; omega) (by omega) (by omega)
 obtain ⟨a2, c2, rfl⟩ : ∃ a2 c2, v' = .slice a2 (L.length + 1) c2 := by
  rcases r2.2 with ⟨h1, h2⟩ | ⟨g, cap, cur, h1, _⟩
  ·exact absurd h2 (by omega)
  ·exact ⟨_, _, h1⟩
 refine ⟨a2, c2, w', r1, ?_, (But.refl _ _).grown r3 (fun n hn => .inl (ownBlk_iff.1 hn)), fun x hx => ?_⟩
 ·unfold ownP
  have e1 : (L ++ [q]).length = L.length + 1 := by simp
  have e2 : pc15 (L ++ [q]) = pc15 L ++ q.v.toList := by simp [pc15]
  rw [e1, e2]
  exact r2
 ·have hk' := (ownBlk_iff (n := L.length + 1) (c := c2)).2 ⟨x, hx, rfl⟩
  rcases r5 with e | e
  ·rw [e] at hk'; exact .inl (ownBlk_iff.1 hk')
  ·rw [e] at hk'
   injection hk' with hk'
   exact .inr (Nat.le_of_eq hk')
/-- A packet stored at the place i. -/
theorem ownP.put {w : World} {a : Option Addr} {c : Nat} {L : List PkIn} (h : ownP w a c L) {i : Nat} (hi : i < L.length) (q : PkIn) : ∃ g cur, a = some ⟨g, 0, none⟩ ∧ Blk w g 42 cur ∧ i * 15 + 15 ≤ cur.size ∧ ownP (w.setRow g (setMany cur (i * 15) q.v.toList)) a c (L.set i q) := by
 have h' := h
 obtain ⟨h1, h2⟩ := h'
 rcases h2 with ⟨h3, h4⟩ | ⟨g, cap, cur, h3, h4, h5, h6, h7, h8, h9⟩
 ·omega
 ·simp only [Value.slice.injEq] at h3
  obtain ⟨h3, _, h3'⟩ := h3
  have hle : i * 15 + 15 ≤ cur.size := by rw [h8]; have : (i + 1) * 15 ≤ cap * 15 := Nat.mul_le_mul_right 15 (by omega); omega
  refine ⟨g, cur, h3, h5, hle, ?_⟩
  unfold ownP
  rw [List.length_set]
  refine ⟨?_, .inr ⟨g, cap, setMany cur (i * 15) q.v.toList, by rw [h3, h3'], h4, Blk.set (show Blk w g 42 cur from h5) _, h6, h7, by rw [setMany_sz]; exact h8, ?_⟩⟩
  ·rw [fl_len _ 15 pkv_len, List.length_set]
  ·refine fl_ext (fun q : PkIn => q.v.toList) 15 (by omega) pkv_len _ _ ?_ (fun k j p hk hj => ?_)
   ·simp only [List.length_take, Array.length_toList, setMany_sz, List.length_set]
    have : L.length * 15 ≤ cap * 15 := Nat.mul_le_mul_right 15 h6
    omega
   ·have hkl : k < L.length := by have := (List.getElem?_eq_some_iff.1 hk).1; simpa using this
    have hkk : (k + 1) * 15 ≤ L.length * 15 := Nat.mul_le_mul_right 15 (by omega)
    rw [List.getElem?_take_of_lt (by omega), Array.getElem?_toList, setMany_at _ _ _ _ (by rw [pkv_len]; exact hle), pkv_len]
    by_cases hik : i = k
    ·subst hik
     rw [List.getElem?_set_self (by omega)] at hk
     cases hk
     rw [if_pos (by omega)]
     congr 1
     omega
    ·rw [List.getElem?_set_ne hik] at hk
     have hne : ¬ (i * 15 ≤ k * 15 + j ∧ k * 15 + j < i * 15 + 15) := by
      rintro ⟨p1, p2⟩
      rcases Nat.lt_or_ge i k with x | x
      ·have : (i + 1) * 15 ≤ k * 15 := Nat.mul_le_mul_right 15 (by omega)
       omega
      ·have : (k + 1) * 15 ≤ i * 15 := Nat.mul_le_mul_right 15 (by omega)
       omega
     rw [if_neg hne]
     have h6' := fl_get (fun q : PkIn => q.v.toList) 15 pkv_len L k j p hk hj
     have h7' : (cur.toList.take (L.length * 15))[k * 15 + j]? = p.v.toList[j]? := by rw [h9]; exact h6'
     rw [List.getElem?_take_of_lt (by omega), Array.getElem?_toList] at h7'
     exact h7'
theorem Blk.at_ {W : World} {g : Nat} {t : TypeId} {cs : Array Value} (h : Blk W g t cs) : CellsAt W g 0 cs := ⟨h.lt, fun j v hv => by rw [Nat.zero_add]; exact h.cell j v hv⟩
theorem wpList_load_at_w {ops : Array Oper} {rest : List Oper} {o : Oper} {ac : Act} {w : World} {Q : Exit → Act → World → Prop} (hw : Region.wanted o (yielded ops ac.tmps) = true) (ty : TypeId) (p : Operand) (ho : o.op = Op.load ty p) (g k : Nat) (hp : ac.eval p = .pointer (some ⟨g, k, none⟩)) (sub : Array Value)
  (hb : CellsAt w g k sub) {fs : _} (hu : Try.prog.underlying ty = some (.struct fs)) (hi : (Try.prog.info? ty).map (·.size) = some sub.size) (h : wpList Try.prog ops Q rest (ac.put o.dst (.agg sub)) w) : wpList Try.prog ops Q (o :: rest) ac w := by
 refine wpList_step fun K hK => ?_
 rw [if_pos hw]
 have hl := load_at hb hu hi
 unfold Oper.wp
 simp [execOp, ho, hp, Instr.loadAt, Instr.sureAddr, hl, Result.andThen]
 exact hK _ _ h
theorem yieldsIf_at {ops : Array Oper} {S : World → Prop} {o : Oper} {ac : Act} (hw : Region.wanted o (yielded ops ac.tmps) = true) (ty : TypeId) (p : Operand) (ho : o.op = Op.load ty p) (g k : Nat) (hp : ac.eval p = .pointer (some ⟨g, k, none⟩)) (sub : Array Value)
  (hS : ∀ w, S w → CellsAt w g k sub) {fs : _} (hu : Try.prog.underlying ty = some (.struct fs)) (hi : (Try.prog.info? ty).map (·.size) = some sub.size) : YieldsIf Try.prog ops S o (.agg sub) ac := by
 refine .inl ⟨hw, fun w hw' => ?_⟩
 have hl := load_at (hS w hw') hu hi
 simp [execOp, ho, hp, Instr.loadAt, Instr.sureAddr, hl, Result.andThen]
theorem info_ip (q : PkIn) : (Try.prog.info? 42).map (·.size) = some q.v.size := by kernel_rfl
/-- The parts' numbers lie where they can be reckoned with. -/
def PkIn.in_ (q : PkIn) : Prop := 0 ≤ q.p.of ∧ q.p.of ≤ 65535 ∧ q.p.dat.length ≤ 65535
set_option maxRecDepth 100000 in
theorem end_any (q : PkIn) (w : World) (h : q.in_) : Calls Try.prog 50 #[.agg q.v] w fun e w' => e = .returned (.int .i64 q.p.en) ∧ Below w.heap.size w w' := by
 obtain ⟨h1, h2, h3⟩ := h
 have hb : Below w.heap.size w (w.alloc (.cells q.v 42)) := bel_nw rfl
 have d11 := (blk_new w q.v 42).cell 11 (.int .i64 q.p.of) rfl
 have d14 := (blk_new w q.v 42).cell 14 (.slice q.da q.p.dat.length q.dc) rfl
 generalize q.v = PA at *
 have hw : IntKind.i64.wrap (q.p.of + (q.p.dat.length : Int)) = q.p.of + (q.p.dat.length : Int) := by rw [IntKind.wrap_i64]; omega
 go_enter Try.func50, Try.ntmps50
 go_wp2
 go_ret
 exact ⟨by first | rfl | (simp [hw]; done) | exact ret_int (by simpa using hw), hb⟩
/-- A datagram of the document's that came along: its name's eight cells, its parts and where they lie. -/
structure DgIn where
 ns : Ad
 nd : Ad
 np : Int
 ni : Int
 ps : List PkIn
 pa : Option Addr
 pc : Nat
 ends : Int
 dead : Bool
abbrev DgIn.v (g : DgIn) : Array Value := #[.int .i64 g.ns.fam, .int .u64 g.ns.hi, .int .u64 g.ns.lo, .int .i64 g.nd.fam, .int .u64 g.nd.hi, .int .u64 g.nd.lo, .int .i64 g.np, .int .u32 g.ni, .slice g.pa g.ps.length g.pc, .int .i64 g.ends, .bool g.dead]
structure DgIn.ok (w : World) (g : DgIn) : Prop where
 row : RowN 15 PkIn.v PkIn.ok w g.pa g.ps
 in_ : ∀ q ∈ g.ps, q.in_
 few : g.ps.length ≤ 65536
theorem RowN.low {w w' : World} {a : Option Addr} {l : List PkIn} (h : RowN 15 PkIn.v PkIn.ok w a l) (hb : Below w.heap.size w w') : RowN 15 PkIn.v PkIn.ok w' a l := RowN.below (fun h b => h.below b) h hb
theorem DgIn.ok.below {w w' : World} {g : DgIn} (h : g.ok w) (hb : Below w.heap.size w w') : g.ok w' := ⟨h.row.low hb, h.in_, h.few⟩
theorem dg_cells {W : World} {b : Nat} {t : TypeId} {g : DgIn} (h : Blk W b t g.v) : W.cell? ⟨b, 8, none⟩ = some (.slice g.pa g.ps.length g.pc) ∧ W.cell? ⟨b, 9, none⟩ = some (.int .i64 g.ends) ∧ W.cell? ⟨b, 10, none⟩ = some (.bool g.dead) :=
 ⟨h.cell 8 _ rfl, h.cell 9 _ rfl, h.cell 10 _ rfl⟩
abbrev z15 : Array Value := #[.int .i64 0, .int .i64 0, .int .u64 0, .int .u64 0, .int .i64 0, .int .u64 0, .int .u64 0, .int .i64 0, .int .i64 0, .bool false, .int .u32 0, .int .i64 0, .bool false, .slice none 0 0, .slice none 0 0]
theorem store_ip (w : World) (q : PkIn) : (Instr.storeAt 42 (.pointer (some ⟨w.heap.size, 0, none⟩)) (.agg q.v)).run Try.prog (w.alloc (.cells z15 42)) = .ok () (w.alloc (.cells q.v 42)) :=
 run_storeAt_new (P := Try.prog) w 42 z15 q.v (by kernel_rfl) rfl (by kernel_rfl)
theorem wpList_store_new {ops : Array Oper} {rest : List Oper} {o : Oper} {ac : Act} {Q : Exit → Act → World → Prop} (w w' : World) (hgd : o.guard = none) (t : TypeId) (p x : Operand) (ho : o.op = Op.store t p x)
  (v1 v2 : Value) (hp : ac.eval p = v1) (hx : ac.eval x = v2) (hrun : (Instr.storeAt t v1 v2).run Try.prog w = .ok () w') (h : wpList Try.prog ops Q rest (ac.put o.dst undef) w') : wpList Try.prog ops Q (o :: rest) ac w := by
 refine wpList_plain hgd fun K hK => ?_
 unfold Oper.wp
 subst hp
 subst hx
 simp [execOp, ho, hrun, Result.andThen]
 exact hK _ _ h
/-- A slice of the document's datagrams. -/
abbrev RowG (w : World) (a : Option Addr) (L : List DgIn) : Prop := RowN 11 DgIn.v DgIn.ok w a L
theorem RowG.low {w w' : World} {a : Option Addr} {L : List DgIn} (h : RowG w a L) (hb : Below w.heap.size w w') : RowG w' a L := RowN.below (fun h b => h.below b) h hb
def lenP (ps : List PkIn) : Int := sumD (ps.map (·.p))
def lenG : List DgIn → Int
 | [] => 0
 | g :: L => lenP g.ps + lenG L
theorem lenP_nonneg (ps : List PkIn) : 0 ≤ lenP ps := sumA_nonneg _
theorem lenG_nonneg : ∀ L : List DgIn, 0 ≤ lenG L
 | [] => by simp [lenG]
 | g :: L => by have := lenG_nonneg L; have := lenP_nonneg g.ps; simp only [lenG]; omega
theorem lenP_take (ps : List PkIn) (k : Nat) (q : PkIn) (h : ps[k]? = some q) : lenP (ps.take (k + 1)) = lenP (ps.take k) + q.p.dat.length := by
 unfold lenP sumD
 rw [List.take_add_one, h]
 simp only [Option.toList_some, List.map_append, List.map_cons, List.map_nil, sumA_app]
 simp [sumA]
theorem lenP_le (ps : List PkIn) (k : Nat) : lenP (ps.take k) ≤ lenP ps := by
 have : lenP ps = lenP (ps.take k) + lenP (ps.drop k) := by
  unfold lenP sumD
  rw [← sumA_app, ← List.map_append, ← List.map_append, List.take_append_drop]
 have := lenP_nonneg (ps.drop k)
 omega
theorem lenG_app : ∀ a b : List DgIn, lenG (a ++ b) = lenG a + lenG b
 | [], b => by simp [lenG]
 | g :: a, b => by
  have := lenG_app a b
  simp only [List.cons_append, lenG, this]
  omega
theorem lenG_take (L : List DgIn) (k : Nat) (g : DgIn) (h : L[k]? = some g) : lenG (L.take (k + 1)) = lenG (L.take k) + lenP g.ps := by
 rw [List.take_add_one, h, lenG_app]
 simp [lenG]
theorem lenG_le (L : List DgIn) (k : Nat) : lenG (L.take k) ≤ lenG L := by
 have h := lenG_app (L.take k) (L.drop k)
 rw [List.take_append_drop] at h
 have := lenG_nonneg (L.drop k)
 omega
set_option maxRecDepth 100000 in
set_option maxHeartbeats 4000000 in
theorem rbytes_any (tb : Nat) (ga : Option Addr) (gc : Nat) (L : List DgIn) (w : World) (ht : w.cell? ⟨tb, 4, none⟩ = some (.slice ga L.length gc)) (hL : RowG w ga L) (hn : L.length ≤ 65536) (hs : lenG L ≤ 1099511627776) :
  Calls Try.prog 22 #[.pointer (some ⟨tb, 0, none⟩)] w fun e w' => e = .returned (.int .i64 (lenG L)) ∧ w' = w := by
 have HL : Hid (RowG w ga L) := hL
 obtain ⟨N, hN⟩ : ∃ N, L.length = N := ⟨_, rfl⟩
 have HN : Hid (L.length = N) := hN
 rw [hN] at ht hn
 obtain ⟨T, hT⟩ : ∃ T, lenG L = T := ⟨_, rfl⟩
 have HT : Hid (lenG L = T) := hT
 rw [hT] at hs ⊢
 clear hL hN hT
 go_enter Try.func22, Try.ntmps22
 go_wp2_with fail
 go_loopw [3, 4] (fun s i wr => ∃ (k : Nat) (A : Int), k ≤ N ∧ i = .int .i64 k ∧ s = .int .i64 A ∧ Hid (lenG (L.take k) = A) ∧ w = wr) (fun _ i _ => N - (intOf i).toNat)
 case atStart => exact ⟨0, 0, Nat.zero_le _, rfl, rfl, rfl, rfl⟩
 case round =>
  obtain ⟨k, A, hk, rfl, rfl, HA, rfl⟩ := hrel
  by_cases hlt : k < N
  ·have ik : (k : Int) < (N : Int) := by omega
   have ik0 : (0 : Int) ≤ (k : Int) := by omega
   obtain ⟨g, hg⟩ : ∃ g, L[k]? = some g := ⟨_, List.getElem?_eq_getElem (by rw [HN.out]; exact hlt)⟩
   have hok := HL.out.each g (List.mem_of_getElem? hg)
   obtain ⟨b, off, hga, hc⟩ := HL.out.cells k g hg
   have c8 := hc.2 8 (.slice g.pa g.ps.length g.pc) rfl
   have hst := lenG_take L k g hg
   have hle := lenG_le L (k + 1)
   have hA0 := lenG_nonneg (L.take k)
   rw [HA.out] at hst hA0
   rw [hst, HT.out] at hle
   have HSTEP : Hid (lenG (L.take (k + 1)) = A + lenP g.ps) := hst
   have hfew := hok.few
   have HG : Hid (g.ok w) := hok
   obtain ⟨n, hn'⟩ : ∃ n, g.ps.length = n := ⟨_, rfl⟩
   have HNN : Hid (g.ps.length = n) := hn'
   rw [hn'] at c8 hfew
   obtain ⟨P, hP⟩ : ∃ P, lenP g.ps = P := ⟨_, rfl⟩
   have HP : Hid (lenP g.ps = P) := hP
   rw [hP] at hle
   obtain ⟨pa, hpa⟩ : ∃ x, g.pa = x := ⟨_, rfl⟩
   have HPA : Hid (g.pa = pa) := hpa
   rw [hpa] at c8
   subst hga
   clear hg hc hok hst hn' hP hpa
   go_wp2_with fail
   go_loopw [3, 5] (fun s j wr => ∃ (m : Nat) (Bq : Int), m ≤ n ∧ j = .int .i64 m ∧ s = .int .i64 (A + Bq) ∧ Hid (lenP (g.ps.take m) = Bq) ∧ w = wr) (fun _ j _ => n - (intOf j).toNat)
   case atStart => exact ⟨0, 0, Nat.zero_le _, rfl, by simp, rfl, rfl⟩
   case round =>
    obtain ⟨m, Bq, hm, rfl, rfl, HB, rfl⟩ := hrel
    by_cases hmn : m < n
    ·have im : (m : Int) < (n : Int) := by omega
     have im0 : (0 : Int) ≤ (m : Int) := by omega
     obtain ⟨q, hq⟩ : ∃ q, g.ps[m]? = some q := ⟨_, List.getElem?_eq_getElem (by rw [HNN.out]; exact hmn)⟩
     obtain ⟨pb, po, hpa', hqc⟩ := HG.out.row.cells m q hq
     rw [HPA.out] at hpa'
     have d14 := hqc.2 14 (.slice q.da q.p.dat.length q.dc) rfl
     have hst := lenP_take g.ps m q hq
     have hle2 := lenP_le g.ps (m + 1)
     have hB0 := lenP_nonneg (g.ps.take m)
     rw [HB.out] at hst hB0
     rw [hst, HP.out] at hle2
     have HS2 : Hid (lenP (g.ps.take (m + 1)) = Bq + q.p.dat.length) := hst
     obtain ⟨dl, hdl⟩ : ∃ x, q.p.dat.length = x := ⟨_, rfl⟩
     rw [hdl] at d14 hle2 HS2
     have hw1 : IntKind.i64.wrap (A + Bq + (dl : Int)) = A + Bq + (dl : Int) := by rw [IntKind.wrap_i64]; omega
     subst hpa'
     clear hq hqc hst hdl
     go_wp2_with fail
     refine ⟨⟨m + 1, Bq + dl, by omega, by go_num, by first | (rw [show A + (Bq + (dl : Int)) = A + Bq + (dl : Int) by omega]; done) | go_num, HS2, trivial⟩, by simp [intOf]; omega⟩
    ·have im : ¬ (m : Int) < (n : Int) := by omega
     have e : m = n := by omega
     subst e
     have e : Bq = P := by
      rw [← HB.out, ← HP.out, ← HNN.out, List.take_length]
     subst e
     have HA' : Hid (lenG (L.take (k + 1)) = A + Bq) := by show _ = _; rw [HSTEP.out, HP.out]
     go_wp2_with fail
     refine ⟨⟨k + 1, A + Bq, by omega, by go_num, rfl, HA', trivial⟩, by simp [intOf]; omega⟩
  ·have ik : ¬ (k : Int) < (N : Int) := by omega
   have e : k = N := by omega
   subst e
   have e : A = T := by rw [← HA.out, ← HT.out, ← HN.out, List.take_length]
   subst e
   go_wp2_with fail
   go_ret
   exact ⟨rfl, rfl⟩
end Go.Proofs.Ytkeeidfpgfdldaa
