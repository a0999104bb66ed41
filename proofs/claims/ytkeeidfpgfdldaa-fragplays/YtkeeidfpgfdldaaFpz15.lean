/- Texts joined: FiB FgU -/
import Derived.Test.YtkeeidfpgfdldaaFpz10
import Derived.Test.YtkeeidfpgfdldaaFpz14
namespace Go.Proofs.Ytkeeidfpgfdldaa
open Go.RowKit
set_option linter.unusedVariables false
set_option linter.unusedSimpArgs false
def Hd.ab (h : Hd) : Ah := ⟨h.fam, h.s, h.d, h.pr, h.ho, h.X⟩
def Gm.ab (g : Gm) : Ag := ⟨g.ends, g.dead, g.hd.ab, g.ps.map (fun p => (p.off, p.data)), g.size, g.reach, g.last⟩
theorem clash_ab (g : Gm) (of : Int) (mo : Bool) (n : Nat) : clashB g of mo n = clashA g.ab of mo n := by
 unfold clashB clashA Gm.ab
 simp only [List.any_map]
 rfl
theorem paste_ab : ∀ (ps : List Pc) (L : List Int), paste L ps = pasteA L (ps.map fun p => (p.off, p.data))
 | [], _ => rfl
 | p :: r, L => by simp only [paste, List.map_cons, pasteA]; exact paste_ab r _
abbrev toD (G : List (Lit × Gm)) : DataW Value := .map (G.map fun p => (p.1, .held (.agg p.2.v)))
theorem toD_put (G : List (Lit × Gm)) (k : Lit) (g : Gm) : ((toD G).put k (.held (.agg g.v)) : DataW Value) = toD (ins (k, g) (strike k G)) := by
 show DataW.map (DataW.insert (k, (.held (.agg g.v) : DataW Value)) ((G.map fun p => (p.1, (.held (.agg p.2.v) : DataW Value))).filter fun p => !p.1.sameKey k)) = toD _
 have h1 := ins_data (fun g : Gm => (.held (.agg g.v) : DataW Value)) (k, g) (strike k G)
 have h2 := strike_map (fun g : Gm => (.held (.agg g.v) : DataW Value)) k G
 unfold strike at h2
 rw [← h2]
 exact congrArg DataW.map h1.symm
theorem toD_del (G : List (Lit × Gm)) (k : Lit) : (toD G).del k = toD (strike k G) := by
 show DataW.map ((G.map fun p => (p.1, (.held (.agg p.2.v) : DataW Value))).filter fun p => !p.1.sameKey k) = toD _
 have h2 := strike_map (fun g : Gm => (.held (.agg g.v) : DataW Value)) k G
 exact congrArg DataW.map h2.symm
theorem toD_size (G : List (Lit × Gm)) : Maps.size (toD G) = G.length := by simp [Maps.size_eq]
theorem toD_has (k : Lit) : ∀ (G : List (Lit × Gm)), Maps.has (toD G) k = (look k G).isSome
 | [] => rfl
 | y :: r => by
  have ih := toD_has k r
  unfold look at ih ⊢
  rw [Maps.has_eq] at ih ⊢
  simp only [List.map_cons, List.any_cons, List.find?_cons]
  cases h : y.1.sameKey k
  ·simpa using ih
  ·simp
theorem toD_at (k : Lit) : ∀ (G : List (Lit × Gm)), (toD G).atKey k (.held (.agg zeroG.v)) = .held (.agg ((look k G).getD zeroG).v)
 | [] => rfl
 | y :: r => by
  have ih := toD_at k r
  unfold look at ih ⊢
  simp only [DataW.atKey] at ih ⊢
  simp only [List.map_cons, List.find?_cons]
  cases h : y.1.sameKey k
  ·simpa using ih
  ·simp
theorem own_tight {w : World} {b n : Nat} {G : List (Lit × Gm)} (h : OwnsG w b n (toD G)) : OwnsG w b G.length (toD G) := by
 obtain ⟨es, ck, h1, h2, h3, h4⟩ := h
 refine ⟨es, ck, h1, h2, ?_, h4⟩
 have h5 := congrArg Maps.size h4
 rw [toD_size, Maps.size_eq, length_sorted] at h5
 simp at h5
 omega
def gfoot (g : Gm) (k : Nat) : Prop := (∃ x, g.pa = some x ∧ x.block = k) ∨ (∃ p ∈ g.ps, ∃ x, p.da = some x ∧ x.block = k) ∨ (∃ x, g.hd.xa = some x ∧ x.block = k)
def foot (tb mb : Nat) (G : List (Lit × Gm)) (k : Nat) : Prop := k = tb ∨ k = mb ∨ ∃ p ∈ G, gfoot p.2 k
theorem gfoot_zero (k : Nat) : ¬ gfoot zeroG k := by
 rintro (⟨x, hx, _⟩ | ⟨p, hp, _⟩ | ⟨x, hx, _⟩)
 ·cases hx
 ·cases hp
 ·cases hx
abbrev deadG (t : Int) : Gm := ⟨t, true, ⟨0, ⟨0, 0, 0⟩, ⟨0, 0, 0⟩, 0, 0, none, 0, []⟩, none, 0, [], 0, 0, false⟩
theorem gfoot_dead (t : Int) (k : Nat) : ¬ gfoot (deadG t) k := by
 rintro (⟨x, hx, _⟩ | ⟨p, hp, _⟩ | ⟨x, hx, _⟩)
 ·cases hx
 ·cases hp
 ·cases hx
/-- The gram of a key. -/
def gramG (G : List (Lit × Gm)) (k : Lit) : Gm := (look k G).getD zeroG
structure TabG (w : World) (tb mb : Nat) (s : Fs) (G : List (Lit × Gm)) : Prop where
 abs : s.E = G.map (fun p => (p.1, p.2.ab))
 tab : Blk w tb 64 #[.bool true, .int .i64 s.most, .int .i64 s.room, .int .i64 s.life, .int .i64 s.now, .int .i64 s.by_, .map (some mb)]
 map : OwnsG w mb G.length (toD G)
 ne : tb ≠ mb
 ok : FsOk s
 gr : ∀ p ∈ G, GmR w p.2 ∧ GmA p.2 ∧ ∀ k, gfoot p.2 k → k < w.heap.size ∧ k ≠ tb ∧ k ≠ mb
 apart : G.Pairwise fun p q => ∀ k, gfoot p.2 k → ¬ gfoot q.2 k
theorem gmo_foot {g : Gm} {F : Nat → Prop} (h : ∀ k, gfoot g k → ¬ F k) : GmO g F :=
 ⟨fun p hp x hx => h _ (.inr (.inl ⟨p, hp, x, hx, rfl⟩)), fun x hx => h _ (.inr (.inr ⟨x, hx, rfl⟩))⟩
theorem TabG.but {F : Nat → Prop} {w w' : World} {tb mb : Nat} {s : Fs} {G : List (Lit × Gm)} (T : TabG w tb mb s G) (b : But F w w') (h : ∀ k, foot tb mb G k → ¬ F k) : TabG w' tb mb s G :=
 ⟨T.abs, T.tab.but b (h tb (.inl rfl)), ownsG_but T.map b (h mb (.inr (.inl rfl))), T.ne, T.ok, fun p hp => ⟨(T.gr p hp).1.but b (gmo_foot fun k hk => h k (.inr (.inr ⟨p, hp, hk⟩))) (fun x hx => h _ (.inr (.inr ⟨p, hp, .inl ⟨x, hx, rfl⟩⟩))), (T.gr p hp).2.1, fun k hk => ⟨Nat.lt_of_lt_of_le ((T.gr p hp).2.2 k hk).1 b.size, ((T.gr p hp).2.2 k hk).2⟩⟩, T.apart⟩
theorem TabG.below {w w' : World} {tb mb : Nat} {s : Fs} {G : List (Lit × Gm)} (T : TabG w tb mb s G) (b : Below w.heap.size w w') : TabG w' tb mb s G :=
 T.but (But.of_below b (fun _ => False)) (fun _ _ h => h)
theorem TabG.lt {w : World} {tb mb : Nat} {s : Fs} {G : List (Lit × Gm)} (T : TabG w tb mb s G) {k : Nat} (h : foot tb mb G k) : k < w.heap.size := by
 rcases h with rfl | rfl | ⟨p, hp, h⟩
 ·exact T.tab.lt
 ·exact T.map.lt
 ·exact ((T.gr p hp).2.2 k h).1
theorem TabG.gram {w : World} {tb mb : Nat} {s : Fs} {G : List (Lit × Gm)} (T : TabG w tb mb s G) (p : Pkt) : gramA s p = (gramG G (nameK p)).ab ∧ (look (nameK p) s.E).isSome = (look (nameK p) G).isSome := by
 unfold gramA gramG
 rw [T.abs, look_map Gm.ab]
 cases look (nameK p) G <;> exact ⟨rfl, rfl⟩
theorem TabG.gm {w : World} {tb mb : Nat} {s : Fs} {G : List (Lit × Gm)} (T : TabG w tb mb s G) (k : Lit) : GmR w (gramG G k) ∧ GmA (gramG G k) ∧ ∀ j, gfoot (gramG G k) j → j < w.heap.size ∧ j ≠ tb ∧ j ≠ mb := by
 unfold gramG
 cases hl : look k G with
 | none => exact ⟨gmr_zero w, gma_zero, fun j hj => absurd hj (gfoot_zero j)⟩
 | some g => exact T.gr _ (look_mem hl)
theorem agOk_gmn {g : Gm} (h : AgOk g.ab) : GmN g := by
 refine ⟨fun p hp => ?_, ?_, h.reach⟩
 ·have h1 : 0 ≤ p.off ∧ p.off ≤ 65528 ∧ 1 ≤ p.data.length ∧ p.off + p.data.length ≤ g.reach := h.each (p.off, p.data) (List.mem_map.2 ⟨p, hp, rfl⟩)
  have h2 : 0 ≤ g.reach ∧ g.reach ≤ 65535 := h.reach
  omega
 ·have h1 : g.size ≤ g.reach := h.le
  have h2 : 0 ≤ g.reach ∧ g.reach ≤ 65535 := h.reach
  have h3 : 0 ≤ g.size := h.nonneg
  omega
theorem pair_of {α : Type} {R : α → α → Prop} (hs : ∀ a b, R a b → R b a) : ∀ {l : List α}, l.Pairwise R → ∀ {a b : α}, a ∈ l → b ∈ l → a ≠ b → R a b
 | [], _, a, b, ha, _, _ => by cases ha
 | y :: r, h, a, b, ha, hb, hn => by
  obtain ⟨h1, h2⟩ := List.pairwise_cons.1 h
  rcases List.mem_cons.1 ha with ea | ha'
  ·rcases List.mem_cons.1 hb with eb | hb'
   ·exact absurd (ea.trans eb.symm) hn
   ·rw [ea]; exact h1 b hb'
  ·rcases List.mem_cons.1 hb with eb | hb'
   ·rw [eb]; exact hs _ _ (h1 a ha')
   ·exact pair_of hs h2 ha' hb' hn
theorem apart_sym (a b : Lit × Gm) (h : ∀ k, gfoot a.2 k → ¬ gfoot b.2 k) : ∀ k, gfoot b.2 k → ¬ gfoot a.2 k := fun k h1 h2 => h k h2 h1
/-- What is struck lies apart from the rest. -/
theorem TabG.rest {w : World} {tb mb : Nat} {s : Fs} {G : List (Lit × Gm)} (T : TabG w tb mb s G) {k : Lit} (hk : WideAt.IsKeyLit k) {e : Lit × Gm} (he : e ∈ strike k G) : ∀ j, gfoot (gramG G k) j → ¬ gfoot e.2 j := by
 unfold gramG
 cases hl : look k G with
 | none => exact fun j hj => absurd hj (gfoot_zero j)
 | some g => exact pair_of apart_sym T.apart (look_mem hl) (mem_strike he) (fun h => strike_ne hk he (by rw [← h]))
abbrev takeB (tb mb : Nat) (g : Gm) (k : Nat) : Prop := (k = tb ∨ k = mb) ∨ ∃ x, g.pa = some x ∧ x.block = k
theorem takeB_foot {w : World} {tb mb : Nat} {s : Fs} {G : List (Lit × Gm)} (T : TabG w tb mb s G) {k : Lit} {j : Nat} (h : takeB tb mb (gramG G k) j) : foot tb mb G j := by
 rcases h with (h | h) | ⟨x, hx, h⟩
 ·exact .inl h
 ·exact .inr (.inl h)
 ·unfold gramG at hx
  cases hl : look k G with
  | none => rw [hl] at hx; cases hx
  | some g =>
   rw [hl] at hx
   exact .inr (.inr ⟨_, look_mem hl, .inl ⟨x, hx, h⟩⟩)
theorem TabG.kept {w w' : World} {tb mb : Nat} {s : Fs} {G : List (Lit × Gm)} (T : TabG w tb mb s G) {k : Lit} (hk : WideAt.IsKeyLit k) (b : But (takeB tb mb (gramG G k)) w w') {e : Lit × Gm} (he : e ∈ strike k G) :
  GmR w' e.2 ∧ GmA e.2 ∧ ∀ j, gfoot e.2 j → j < w'.heap.size ∧ j ≠ tb ∧ j ≠ mb := by
 obtain ⟨h1, h2, h3⟩ := T.gr e (mem_strike he)
 have h4 : ∀ j, gfoot e.2 j → ¬ takeB tb mb (gramG G k) j := fun j hj hB => by
  rcases hB with (h | h) | h
  ·exact (h3 j hj).2.1 h
  ·exact (h3 j hj).2.2 h
  ·exact T.rest hk he j (.inl h) hj
 exact ⟨h1.but b (gmo_foot h4) (fun x hx => h4 _ (.inl ⟨x, hx, rfl⟩)), h2, fun j hj => ⟨Nat.lt_of_lt_of_le (h3 j hj).1 b.size, (h3 j hj).2⟩⟩
/-- A table behind a call that struck a gram. -/
theorem TabG.struck {w w' : World} {tb mb n : Nat} {s s' : Fs} {G : List (Lit × Gm)} (T : TabG w tb mb s G) {k : Lit} (hk : WideAt.IsKeyLit k) (b : But (takeB tb mb (gramG G k)) w w') (hs : FsOk s') (hE : s'.E = strike k s.E)
  (ht : Blk w' tb 64 #[.bool true, .int .i64 s'.most, .int .i64 s'.room, .int .i64 s'.life, .int .i64 s'.now, .int .i64 s'.by_, .map (some mb)]) (hm : OwnsG w' mb n ((toD G).del k)) : TabG w' tb mb s' (strike k G) := by
 rw [toD_del] at hm
 refine ⟨?_, ht, own_tight hm, T.ne, hs, fun e he => T.kept hk b he, T.apart.filter _⟩
 rw [hE, T.abs, strike_map Gm.ab]
/-- .. that laid another one in its place. -/
theorem TabG.laid {w w' : World} {tb mb n : Nat} {s s' : Fs} {G : List (Lit × Gm)} (T : TabG w tb mb s G) {k : Lit} (hk : WideAt.IsKeyLit k) (b : But (takeB tb mb (gramG G k)) w w') (g' : Gm) (hs : FsOk s') (hE : s'.E = ins (k, g'.ab) (strike k s.E))
  (ht : Blk w' tb 64 #[.bool true, .int .i64 s'.most, .int .i64 s'.room, .int .i64 s'.life, .int .i64 s'.now, .int .i64 s'.by_, .map (some mb)]) (hm : OwnsG w' mb n (toD (ins (k, g') (strike k G))))
  (hg : GmR w' g') (ha : GmA g') (hf : ∀ j, gfoot g' j → gfoot (gramG G k) j ∨ w.heap.size ≤ j) (hl : ∀ j, gfoot g' j → j < w'.heap.size) : TabG w' tb mb s' (ins (k, g') (strike k G)) := by
 have hp := ins_perm (k, g') (strike k G)
 refine ⟨?_, ht, own_tight hm, T.ne, hs, fun e he => ?_, (hp.pairwise_iff (fun {a b} => apart_sym a b)).2 (List.pairwise_cons.2 ⟨fun e he j hj hj' => ?_, T.apart.filter _⟩)⟩
 ·rw [hE, T.abs, ins_map Gm.ab, strike_map Gm.ab]
 ·rcases List.mem_cons.1 (hp.mem_iff.1 he) with rfl | he
  ·refine ⟨hg, ha, fun j hj => ⟨hl j hj, ?_⟩⟩
   rcases hf j hj with h | h
   ·exact ((T.gm k).2.2 j h).2
   ·have := T.tab.lt
    have := T.map.lt
    omega
  ·exact T.kept hk b he
 ·rcases hf j hj with h | h
  ·exact T.rest hk he j h hj'
  ·have := ((T.gr e (mem_strike he)).2.2 j hj').1
   omega
abbrev pkV (p : Pkt) (xa : Option Addr) (xc : Nat) (da : Option Addr) (dc : Nat) : Array Value :=
 #[.int .i64 p.f, .int .i64 p.s.fam, .int .u64 p.s.hi, .int .u64 p.s.lo, .int .i64 p.d.fam, .int .u64 p.d.hi, .int .u64 p.d.lo, .int .i64 p.pr, .int .i64 p.ho, .bool p.fg, .int .u32 p.id, .int .i64 p.of, .bool p.mo, .slice xa p.X.length xc, .slice da p.dat.length dc]
structure PktOk (p : Pkt) : Prop where
 k1 : (Lit.int .i64 p.s.fam).wf = true
 k2 : (Lit.int .u64 p.s.hi).wf = true
 k3 : (Lit.int .u64 p.s.lo).wf = true
 k4 : (Lit.int .i64 p.d.fam).wf = true
 k5 : (Lit.int .u64 p.d.hi).wf = true
 k6 : (Lit.int .u64 p.d.lo).wf = true
 k7 : (Lit.int .i64 p.pr).wf = true
 k8 : (Lit.int .u32 p.id).wf = true
abbrev nameA (p : Pkt) : Array Value := #[.int .i64 p.s.fam, .int .u64 p.s.hi, .int .u64 p.s.lo, .int .i64 p.d.fam, .int .u64 p.d.hi, .int .u64 p.d.lo, .int .i64 (if p.f = 6 then 0 else p.pr), .int .u32 p.id]
theorem nameOf_any (p : Pkt) (xa : Option Addr) (xc : Nat) (da : Option Addr) (dc : Nat) (W : World) : Calls Try.prog 44 #[.agg (pkV p xa xc da dc)] W fun e w' => e = .returned (.agg (nameA p)) ∧ Below W.heap.size W w' := by
 unfold nameA
 by_cases h : p.f = 6
 ·rw [if_pos h]
  exact nameOf_6 p.f p.s.fam p.s.hi p.s.lo p.d.fam p.d.hi p.d.lo p.pr p.ho p.fg p.id p.of p.mo xa xc p.X da dc p.dat W h
 ·rw [if_neg h]
  exact nameOf_4 p.f p.s.fam p.s.hi p.s.lo p.d.fam p.d.hi p.d.lo p.pr p.ho p.fg p.id p.of p.mo xa xc p.X da dc p.dat W h
theorem key_any (p : Pkt) (h : PktOk p) : keyOf Try.prog 72 (.agg (nameA p)) = some (nameK p) := by
 unfold nameK nameA
 by_cases hf : p.f = 6
 ·rw [if_pos hf]
  exact key_name p.s.fam p.s.hi p.s.lo p.d.fam p.d.hi p.d.lo 0 p.id h.k1 h.k2 h.k3 h.k4 h.k5 h.k6 (by decide) h.k8
 ·rw [if_neg hf]
  exact key_name p.s.fam p.s.hi p.s.lo p.d.fam p.d.hi p.d.lo p.pr p.id h.k1 h.k2 h.k3 h.k4 h.k5 h.k6 h.k7 h.k8
/-- An answer, and where it lies. -/
def AnsAt (w0 w : World) (F : Nat → Prop) (RV : Array Value) (a : Pkt) : Prop :=
 ∃ xa xc da dc, RV = pkV a xa xc da dc ∧ RowI w xa a.X ∧ Row w da a.dat ∧ (∀ x, xa = some x → w0.heap.size ≤ x.block ∨ F x.block) ∧ ∀ x, da = some x → w0.heap.size ≤ x.block
theorem ans_0 (w0 w : World) (F : Nat → Prop) : AnsAt w0 w F #[.int .i64 0, .int .i64 0, .int .u64 0, .int .u64 0, .int .i64 0, .int .u64 0, .int .u64 0, .int .i64 0, .int .i64 0, .bool false, .int .u32 0, .int .i64 0, .bool false, .slice none 0 0, .slice none 0 0] pk0 :=
 ⟨none, 0, none, 0, rfl, rowI_nil w none, ⟨by simp, fun x hx => by simp at hx, fun h => absurd h (by simp)⟩, by simp, by simp⟩
theorem splice_bytes {L cs : List Int} (n : Nat) (h : M.Bytes L) (k : M.Bytes cs) : M.Bytes (splice L n cs) := fun x hx => by
 unfold splice at hx
 rcases List.mem_append.1 hx with hx | hx
 ·exact h x (List.mem_of_mem_take hx)
 ·rcases List.mem_append.1 hx with hx | hx
  ·exact k x hx
  ·exact h x (List.mem_of_mem_drop hx)
theorem paste_bytes : ∀ (ps : List Pc) (L : List Int), M.Bytes L → (∀ p ∈ ps, M.Bytes p.data) → M.Bytes (paste L ps)
 | [], _, h, _ => h
 | p :: r, L, h, k => paste_bytes r _ (splice_bytes _ h (k p (by simp))) (fun q hq => k q (by simp [hq]))
theorem zeros_bytes (n : Nat) : M.Bytes (List.replicate n 0) := fun x hx => by
 obtain ⟨_, rfl⟩ := List.mem_replicate.1 hx
 decide
set_option maxRecDepth 100000 in
set_option maxHeartbeats 4000000 in
theorem take_dead (tb mb n : Nat) (most room life now by_ : Int) (D : DataW Value) (g : Gm) (kl : Lit) (NV : Array Value) (f sf sh sl df dh dl pr ho : Int) (fg : Bool) (id of : Int) (mo : Bool) (xa : Option Addr) (xc : Nat) (X : List Int) (da : Option Addr) (dc : Nat) (dat : List Int) (w : World) (hb : Blk w tb 64 #[.bool true, .int .i64 most, .int .i64 room, .int .i64 life, .int .i64 now, .int .i64 by_, .map (some mb)]) (hm : OwnsG w mb n D) (hk : keyOf Try.prog 72 (.agg NV) = some kl) (hv : D.atKey kl (.held (.agg zeroG.v)) = .held (.agg g.v)) (hNs : NV.size = 8) (hN1 : NV.all (·.oneCell') = true)
  (hN : ∀ W, Calls Try.prog 44 #[.agg #[.int .i64 f, .int .i64 sf, .int .u64 sh, .int .u64 sl, .int .i64 df, .int .u64 dh, .int .u64 dl, .int .i64 pr, .int .i64 ho, .bool fg, .int .u32 id, .int .i64 of, .bool mo, .slice xa X.length xc, .slice da dat.length dc]] W fun e w' => e = .returned (.agg NV) ∧ Below W.heap.size W w') (hd : g.dead = true) :
  Calls Try.prog 34 #[.pointer (some ⟨tb, 0, none⟩), .agg #[.int .i64 f, .int .i64 sf, .int .u64 sh, .int .u64 sl, .int .i64 df, .int .u64 dh, .int .u64 dl, .int .i64 pr, .int .i64 ho, .bool fg, .int .u32 id, .int .i64 of, .bool mo, .slice xa X.length xc, .slice da dat.length dc]] w fun e w' => e = .returned (.tuple #[.agg #[.int .i64 0, .int .i64 0, .int .u64 0, .int .u64 0, .int .i64 0, .int .u64 0, .int .u64 0, .int .i64 0, .int .i64 0, .bool false, .int .u32 0, .int .i64 0, .bool false, .slice none 0 0, .slice none 0 0], .int .i64 11]) ∧ Below w.heap.size w w' := by
 obtain ⟨W1, hW1⟩ : ∃ W, w.alloc (.cells #[.int .i64 f, .int .i64 sf, .int .u64 sh, .int .u64 sl, .int .i64 df, .int .u64 dh, .int .u64 dl, .int .i64 pr, .int .i64 ho, .bool fg, .int .u32 id, .int .i64 of, .bool mo, .slice xa X.length xc, .slice da dat.length dc] 42) = W := ⟨_, rfl⟩
 obtain ⟨W2, hW2⟩ : ∃ W, W1.alloc (.cells #[.int .i64 0, .int .i64 0, .int .u64 0, .int .u64 0, .int .i64 0, .int .u64 0, .int .u64 0, .int .i64 0, .int .i64 0, .bool false, .int .u32 0, .int .i64 0, .bool false, .slice none 0 0, .slice none 0 0] 42) = W := ⟨_, rfl⟩
 have b1 := bel_nw hW1
 have b2 := bel_al b1 hW2
 have B1 := blk_nw hW1
 have B2 := B1.al hW2
 have R2 := blk_nw hW2
 have T2 := (hb.al hW1).al hW2
 have M2 : OwnsG W2 mb n D := by rw [← hW2, ← hW1]; exact (hm.alloc _).alloc _
 have n1 : w.heap.size < W1.heap.size := B1.lt
 have HV : Hid (D.atKey kl (.held (.agg zeroG.v)) = .held (.agg g.v)) := hv
 have HK : Hid (keyOf Try.prog 72 (.agg NV) = some kl) := hk
 have KN : Hid _ := hN
 have tlt : tb < w.heap.size := hb.lt
 have mlt : mb < w.heap.size := hm.lt
 clear b1 B1 hb hm hv hk hN
 go_enter Try.func34, Try.ntmps34
 go_wp2_with (refine wpList_load_row rfl _ _ rfl w.heap.size (by rfl) _ _ _ _ B2 Try.underlying42 rfl (by kernel_rfl) ?_)
 refine Calls.mono (KN.out _) ?_
 rintro e W3 ⟨rfl, k3⟩
 have B3 := B2.kept k3
 have R3 := R2.kept k3
 have T3 := T2.kept k3
 have M3 : OwnsG W3 mb n D := by
  obtain ⟨es, ck, h1, h2⟩ := M2
  exact ⟨es, ck, (k3.block mb (Array.getElem?_eq_some_iff.1 h1).1).trans h1, h2⟩
 have b3 := bel_tr b2 k3
 clear KN B2 R2 T2 M2 b2 k3
 obtain ⟨W4, hW4⟩ : ∃ W, W3.alloc (.cells #[.int .i64 0, .int .u64 0, .int .u64 0, .int .i64 0, .int .u64 0, .int .u64 0, .int .i64 0, .int .u32 0] 72) = W := ⟨_, rfl⟩
 have N4 := blk_nw hW4
 have B4 := B3.al hW4
 have R4 := R3.al hW4
 have T4 := T3.al hW4
 have M4 : OwnsG W4 mb n D := by rw [← hW4]; exact M3.alloc _
 have b4 := bel_al b3 hW4
 have l3 : W1.heap.size < W3.heap.size := R3.lt
 have t3 : tb < W3.heap.size := T3.lt
 have m3 : mb < W3.heap.size := M3.lt
 obtain ⟨W5, hW5⟩ : ∃ W, W4.setRow W3.heap.size NV = W := ⟨_, rfl⟩
 have N5 : Blk W5 W3.heap.size 72 NV := by rw [← hW5]; exact N4.set _
 have B5 : Blk W5 w.heap.size 42 #[.int .i64 f, .int .i64 sf, .int .u64 sh, .int .u64 sl, .int .i64 df, .int .u64 dh, .int .u64 dl, .int .i64 pr, .int .i64 ho, .bool fg, .int .u32 id, .int .i64 of, .bool mo, .slice xa X.length xc, .slice da dat.length dc] := by rw [← hW5]; exact B4.other (by omega) _
 have R5 : Blk W5 W1.heap.size 42 #[.int .i64 0, .int .i64 0, .int .u64 0, .int .u64 0, .int .i64 0, .int .u64 0, .int .u64 0, .int .i64 0, .int .i64 0, .bool false, .int .u32 0, .int .i64 0, .bool false, .slice none 0 0, .slice none 0 0] := by rw [← hW5]; exact R4.other (by omega) _
 have T5 : Blk W5 tb 64 #[.bool true, .int .i64 most, .int .i64 room, .int .i64 life, .int .i64 now, .int .i64 by_, .map (some mb)] := by rw [← hW5]; exact T4.other (by omega) _
 have M5 : OwnsG W5 mb n D := by
  rw [← hW5]
  obtain ⟨es, ck, h1, h2⟩ := M4
  exact ⟨es, ck, (setRow_heap_ne W4 W3.heap.size mb NV (by omega)).trans h1, h2⟩
 have b5 : Below w.heap.size w W5 := by rw [← hW5]; exact below_setRow b4 (by omega) _
 have HW5 : Hid _ := hW5
 clear hW5 B3 R3 T3 M3 B4 R4 T4 M4 b3 b4
 go_wp2_with (refine wpList_store_row rfl _ _ _ rfl W3.heap.size NV (by rfl) (by rfl) _ _ N4 (by rw [hNs]; kernel_rfl) (by simp [hNs]) hN1 ?_; rw [HW5.out])
 have Nd := N5.drew
 have Bd := B5.drew
 have Rd := R5.drew
 have Td := T5.drew
 have Md : OwnsG W5.drew mb n D := M5.drew
 have bd := b5.drew
 have c6 := Td.cell 6 (.map (some mb)) rfl
 refine wp_region_noPanic ?_
 refine wp_region_held_drew (S := fun w' => Blk w' W3.heap.size 72 NV ∧ w'.cell? ⟨tb, 6, none⟩ = some (.map (some mb)) ∧ OwnsG w' mb n D) (by kernel_rfl) (by exact ⟨Nd, c6, Md⟩) (fun hHeld => ?_)
 generalize W5.drew = V1 at Nd Bd Rd Td Md bd c6 hHeld ⊢
 clear N5 B5 R5 T5 M5 b5
 refine qtk (i := 0) (oi := { dst := some 12, op := Op.move (.tmp 0), type := 25, pos := "frag.go:111", after := #[], guard := none }) (v := (.pointer (some ⟨tb, 0, none⟩))) hHeld ?_ ?_
 ·intro w9 hSw
  try dsimp only at hSw
  go_simp
 try simp only [qpu]
 refine qtk (i := 1) (oi := { dst := some 13, op := Op.nilCheck (.tmp 12), type := 0, pos := "frag.go:111", after := #[{ on := 0, ground := Ground.data }], guard := none }) (v := (.pointer (some ⟨tb, 0, none⟩))) hHeld ?_ ?_
 ·intro w9 hSw
  try dsimp only at hSw
  go_simp
 try simp only [qpu]
 refine qtk (i := 2) (oi := { dst := some 14, op := Op.fieldAddr 64 (.tmp 13) 6, type := 0, pos := "frag.go:111", after := #[{ on := 1, ground := Ground.data }], guard := none }) (v := (.pointer (some ⟨tb, 6, none⟩))) hHeld ?_ ?_
 ·intro w9 hSw
  try dsimp only at hSw
  go_simp
 try simp only [qpu]
 refine qtk (i := 3) (oi := { dst := some 15, op := Op.load 62 (.tmp 14), type := 62, pos := "frag.go:111", after := #[{ on := 2, ground := Ground.data }], guard := none }) (v := (.map (some mb))) hHeld ?_ ?_
 ·intro w9 hSw
  try dsimp only at hSw
  have q9 := hSw.2.1
  go_simp
 try simp only [qpu]
 refine qty (i := 4) (oi := { dst := some 16, op := Op.load 72 (.tmp 6), type := 72, pos := "frag.go:111", after := #[], guard := none }) (v := (.agg NV)) (yieldsIf_blk rfl _ _ rfl W3.heap.size (by rfl) _ (fun _ hSw => hSw.1) Try.underlying72 (by rw [hNs]; kernel_rfl)) hHeld ?_
 try simp only [qpu]
 refine qty (i := 5) (oi := { dst := some 17, op := Op.lookup 62 (.tmp 15) (.tmp 16) true, type := 92, pos := "frag.go:111", after := #[{ on := 3, ground := Ground.data }, { on := 4, ground := Ground.data }], guard := none }) (v := (.tuple #[.agg g.v, .bool (Maps.has D kl)])) (yieldsIf_look2 rfl _ _ rfl mb n D _ kl (by rfl) (by rfl) (fun _ hSw => hSw.2.2) HK.out _ HV.out) hHeld ?_
 try simp only [qpu]
 refine qtk (i := 6) (oi := { dst := some 11, op := Op.move (.tmp 17), type := 92, pos := "frag.go:111", after := #[{ on := 5, ground := Ground.data }], guard := none }) (v := (.tuple #[.agg g.v, .bool (Maps.has D kl)])) hHeld ?_ ?_
 ·intro w9 hSw
  try dsimp only at hSw
  go_simp
 try simp only [qpu]
 refine qtk (i := 7) (oi := { dst := some 18, op := Op.extract (.tmp 11) 0, type := 75, pos := "frag.go:111", after := #[{ on := 6, ground := Ground.data }], guard := none }) (v := (.agg g.v)) hHeld ?_ ?_
 ·intro w9 hSw
  try dsimp only at hSw
  go_simp
 try simp only [qpu]
 refine qtk (i := 8) (oi := { dst := some 19, op := Op.extract (.tmp 11) 1, type := 4, pos := "frag.go:111", after := #[{ on := 6, ground := Ground.data }, { on := 10, ground := Ground.gcOnly Departure.lateStores }], guard := none }) (v := (.bool (Maps.has D kl))) hHeld ?_ ?_
 ·intro w9 hSw
  try dsimp only at hSw
  go_simp
 try simp only [qpu]
 obtain ⟨V2, hV2⟩ : ∃ W, V1.alloc (.cells #[.int .i64 0, .bool false, .int .i64 0, .int .i64 0, .int .u64 0, .int .u64 0, .int .i64 0, .int .u64 0, .int .u64 0, .int .i64 0, .int .i64 0, .bool false, .int .u32 0, .int .i64 0, .bool false, .slice none 0 0, .slice none 0 0, .slice none 0 0, .int .i64 0, .int .i64 0, .bool false] 75) = W := ⟨_, rfl⟩
 have Z2 := blk_nw hV2
 have N2 := Nd.al hV2
 have B2 := Bd.al hV2
 have R2 := Rd.al hV2
 have T2 := Td.al hV2
 have M2 : OwnsG V2 mb n D := by rw [← hV2]; exact Md.alloc _
 have b2 := bel_al bd hV2
 have ln : W3.heap.size < V1.heap.size := Nd.lt
 have lr : W1.heap.size < V1.heap.size := Rd.lt
 have lb : w.heap.size < V1.heap.size := Bd.lt
 have lt : tb < V1.heap.size := Td.lt
 have lm : mb < V1.heap.size := Md.lt
 have HV2 : Hid _ := hV2
 have G6 := Z2.set g.v
 have N6 := N2.other (show W3.heap.size ≠ V1.heap.size by omega) g.v
 have B6 := B2.other (show w.heap.size ≠ V1.heap.size by omega) g.v
 have R6 := R2.other (show W1.heap.size ≠ V1.heap.size by omega) g.v
 have T6 := T2.other (show tb ≠ V1.heap.size by omega) g.v
 have M6 : OwnsG (V2.setRow V1.heap.size g.v) mb n D := by
  obtain ⟨es, ck, h1, h2⟩ := M2
  exact ⟨es, ck, (setRow_heap_ne V2 V1.heap.size mb g.v (by omega)).trans h1, h2⟩
 have b6 := below_setRow b2 (show w.heap.size ≤ V1.heap.size by omega) g.v
 refine wpAnyH_ready (rs := [9]) (by kernel_rfl) (by simp) ?_
 refine AllReadyH.cons (o := { dst := some 7, op := Op.alloc 75, type := 0, pos := "frag.go:111", after := #[], guard := none }) rfl (fun K hK => ?_) AllReadyH.nil
 go_simp
 try rw [show V1.alloc _ = V2 from HV2.out]
 refine hK.out _ _ (by exact ⟨N2, T2.cell 6 (.map (some mb)) rfl, M2⟩) (fun hHeld => ?_)
 clear hK K
 try simp only [qpu]
 refine wpAnyH_ready (rs := [10]) (by kernel_rfl) (by simp) ?_
 refine AllReadyH.cons (o := { dst := none, op := Op.store 75 (.tmp 7) (.tmp 18), type := 0, pos := "frag.go:111", after := #[{ on := 9, ground := Ground.data }, { on := 7, ground := Ground.data }, { on := 0, ground := Ground.phase }, { on := 1, ground := Ground.phase }, { on := 2, ground := Ground.phase }, { on := 3, ground := Ground.phase }, { on := 4, ground := Ground.phase }, { on := 5, ground := Ground.phase }, { on := 6, ground := Ground.phase }, { on := 7, ground := Ground.phase }, { on := 8, ground := Ground.textOnly Departure.lateStores }, { on := 9, ground := Ground.phase }], guard := none }) rfl (fun K hK => ?_) AllReadyH.nil
 refine step_store_blk rfl _ _ _ rfl V1.heap.size g.v _ (by rfl) (by rfl) Z2 (by kernel_rfl) (by rfl) (by kernel_rfl) ?_
 refine hK.out _ _ (by exact ⟨N6, T6.cell 6 (.map (some mb)) rfl, M6⟩) (fun hHeld => ?_)
 clear hK K
 try simp only [qpu]
 refine qtk (i := 11) (oi := { dst := some 8, op := Op.assign (.tmp 19), type := 4, pos := "frag.go:111", after := #[{ on := 8, ground := Ground.data }, { on := 10, ground := Ground.chain }, { on := 0, ground := Ground.phase }, { on := 1, ground := Ground.phase }, { on := 2, ground := Ground.phase }, { on := 3, ground := Ground.phase }, { on := 4, ground := Ground.phase }, { on := 5, ground := Ground.phase }, { on := 6, ground := Ground.phase }, { on := 7, ground := Ground.phase }, { on := 8, ground := Ground.phase }, { on := 9, ground := Ground.phase }, { on := 10, ground := Ground.phase }], guard := none }) (v := (.bool (Maps.has D kl))) hHeld ?_ ?_
 ·intro w9 hSw
  try dsimp only at hSw
  go_simp
 try simp only [qpu]
 refine wpAnyH_done (by kernel_rfl) ?_ _
 refine NoPanic.normal ?_
 generalize V2.setRow V1.heap.size g.v = V6 at G6 N6 B6 R6 T6 M6 b6 ⊢
 clear hHeld Z2 N2 B2 R2 T2 M2 b2 hV2 HV2 Nd Bd Rd Td Md bd c6 N4
 have e1 := G6.cell 1 (.bool true) (by rw [← hd]; rfl)
 have hbz : (Instr.build 42 #[]).run Try.prog V6 = .ok (.agg #[.int .i64 0, .int .i64 0, .int .u64 0, .int .u64 0, .int .i64 0, .int .u64 0, .int .u64 0, .int .i64 0, .int .i64 0, .bool false, .int .u32 0, .int .i64 0, .bool false, .slice none 0 0, .slice none 0 0]) V6 := by kernel_rfl
 have Rf := R6.set #[.int .i64 0, .int .i64 0, .int .u64 0, .int .u64 0, .int .i64 0, .int .u64 0, .int .u64 0, .int .i64 0, .int .i64 0, .bool false, .int .u32 0, .int .i64 0, .bool false, .slice none 0 0, .slice none 0 0]
 have bf := below_setRow b6 (Nat.le_of_lt n1) #[.int .i64 0, .int .i64 0, .int .u64 0, .int .u64 0, .int .i64 0, .int .u64 0, .int .u64 0, .int .i64 0, .int .i64 0, .bool false, .int .u32 0, .int .i64 0, .bool false, .slice none 0 0, .slice none 0 0]
 go_wp2_with (first
  | (refine wpList_buildF _ rfl _ _ rfl _ (by rfl) _ hbz ?_)
  | (refine wpList_store_row rfl _ _ _ rfl W1.heap.size #[.int .i64 0, .int .i64 0, .int .u64 0, .int .u64 0, .int .i64 0, .int .u64 0, .int .u64 0, .int .i64 0, .int .i64 0, .bool false, .int .u32 0, .int .i64 0, .bool false, .slice none 0 0, .slice none 0 0] (by rfl) (by rfl) _ _ R6 (by kernel_rfl) (by rfl) (by kernel_rfl) ?_))
 exact ret_cell_tmp (k := 4) (j := 5) Try.f34 (by kernel_rfl) Rf Try.underlying42 (by kernel_rfl) (by rfl) (by rfl) rfl ⟨rfl, bf⟩
end Go.Proofs.Ytkeeidfpgfdldaa
