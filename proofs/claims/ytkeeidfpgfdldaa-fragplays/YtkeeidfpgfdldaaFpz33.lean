/- Texts joined: FpW -/
import Derived.Test.YtkeeidfpgfdldaaFpz32
namespace Go.Proofs.Ytkeeidfpgfdldaa
open Go.RowKit
set_option linter.unusedVariables false
set_option linter.unusedSimpArgs false
/-- What Put leaves and answers. -/
def PutGot (w : World) (tb : Nat) (ms ro li cl : Int) (ga : Option Addr) (L : List DgIn) (p : Pkt) (e : Ending) (w' : World) : Prop :=
 ∃ (ga' : Option Addr) (gc' : Nat) (L' : List DgIn) (q : Pkt) (xa : Option Addr) (xc : Nat) (da : Option Addr) (dc : Nat) (er : Int), e = .returned (.tuple #[.agg (pkV q xa xc da dc), .int .i64 er]) ∧ DocU w' tb ms ro li cl ga' gc' L' ∧ putD (docD ms ro li cl L) p = (docD ms ro li cl L', q, er) ∧ RowI w' xa q.X ∧ (xa = none → xc = 0) ∧ Row w' da q.dat ∧ (da = none → dc = 0) ∧ But (fun b => b = tb ∨ ∃ x, ga = some x ∧ x.block = b) w w' ∧ ∀ b, DocB tb ga' L' b → DocB tb ga L b ∨ w.heap.size ≤ b
theorem InD.of_not {P : Nat → Prop} {g : DgIn} {b : Nat} (h : InD P g) (hn : ¬ InD (fun k => k ≠ b) g) : P b := by
 refine Classical.byContradiction fun hp => hn ⟨fun x hx e => hp (by rw [← e]; exact h.pa x hx), fun q hq => ⟨fun x hx e => hp (by rw [← e]; exact (h.ps q hq).1 x hx), fun x hx e => hp (by rw [← e]; exact (h.ps q hq).2 x hx)⟩⟩
theorem DocU.lows {w : World} {tb : Nat} {ms ro li cl : Int} {ga : Option Addr} {gc : Nat} {L : List DgIn} (h : DocU w tb ms ro li cl ga gc L) : ∀ b, DocB tb ga L b → b < w.heap.size := by
 rintro b (rfl | ⟨x, hx, rfl⟩ | ⟨g, hg, hn⟩)
 ·exact h.t.blk.lt
 ·exact (h.frz x hx).1
 ·exact (InD.of_not (h.low g hg) hn).1
theorem fin_keep {w W : World} {tb : Nat} {ms ro li cl : Int} {ga : Option Addr} {gc : Nat} {L : List DgIn} {p : Pkt} {er : Int} (h : DocU w tb ms ro li cl ga gc L) (hb : Below w.heap.size w W) (hp : putD (docD ms ro li cl L) p = (docD ms ro li cl L, pk0, er)) : PutGot w tb ms ro li cl ga L p (.returned (.tuple #[.agg z15, .int .i64 er])) W :=
 ⟨ga, gc, L, pk0, none, 0, none, 0, er, rfl, h.but (But.of_bel hb) (fun b hd => by have := h.lows b hd; omega), hp, rowI_nil _ _, fun _ => rfl, row_nil _ _, fun _ => rfl, But.of_below hb _, fun b hb => .inl hb⟩
/-- A table whose datagrams lie in a new block. -/
theorem fin_new {w W : World} {tb ob B : Nat} {ms ro li cl : Int} {ga : Option Addr} {gc : Nat} {L L' : List DgIn} {sa : Option Addr} {sc : Nat} {PA : Array Value} (h : DocU W tb ms ro li cl ga gc L) (hw : Below w.heap.size w W) (hB : B ≤ W.heap.size) (hwB : w.heap.size ≤ B) (hob : w.heap.size ≤ ob) (hoB : ob < B) (htb : tb < w.heap.size)
  (hown : OwnG W B sa sc L') (hok : ∀ g ∈ L', g.ok W) (hin : ∀ g ∈ L', InD (fun b => b < W.heap.size ∧ b ≠ tb ∧ b ≠ ob ∧ (∀ x, sa = some x → b ≠ x.block) ∧ ((∃ g0 ∈ L, ¬ InD (fun k => k ≠ b) g0) ∨ w.heap.size ≤ b)) g) (hnm : ∀ g ∈ L', PktOk g.nmP) (hfew : L'.length ≤ 65536) (hPA : PA.size = 15) :
  DocU ((W.setCell ⟨tb, 4, none⟩ (.slice sa L'.length sc)).setRow ob PA) tb ms ro li cl sa sc L' ∧ But (fun b => b = tb ∨ ∃ x, ga = some x ∧ x.block = b) w ((W.setCell ⟨tb, 4, none⟩ (.slice sa L'.length sc)).setRow ob PA) ∧ ∀ b, DocB tb sa L' b → DocB tb ga L b ∨ w.heap.size ≤ b := by
 have bt : But (fun b => b = tb ∨ b = ob) W ((W.setCell ⟨tb, 4, none⟩ (.slice sa L'.length sc)).setRow ob PA) := ((But.refl _ W).setCell tb 4 (.inl (.inl rfl)) _).setRow ob (.inl (.inr rfl)) _
 have hs : ∀ x, sa = some x → B ≤ x.block := hown.lt
 have hlt : ∀ x, sa = some x → x.block < W.heap.size ∧ ∀ i, W.frozen? ⟨x.block, i, none⟩ = false := fun x hx => by
  obtain ⟨_, hh⟩ := hown
  rcases hh with ⟨e, _⟩ | ⟨g', cap, cur, e, _, hb', _⟩
  ·simp only [Value.slice.injEq] at e
   rw [e.1] at hx
   cases hx
  ·simp only [Value.slice.injEq] at e
   rw [e.1] at hx
   cases hx
   exact ⟨(Array.getElem?_eq_some_iff.1 hb').1, fun i => Blk.frozen (t := 79) (cs := cur) hb' i⟩
 have hoff : Off (fun b => b = tb ∨ b = ob) sa := fun x hx e => by have := hs x hx; omega
 have hin' : ∀ g ∈ L', InD (fun b => ¬ (b = tb ∨ b = ob)) g := fun g hg => (hin g hg).mono fun b hb => by omega
 refine ⟨⟨⟨?_, ?_, ?_, ?_, hfew⟩, fun x hx => ⟨Nat.lt_of_lt_of_le (hlt x hx).1 bt.size, fun i => (bt.frozen (hlt x hx).1 (hoff x hx)).trans ((hlt x hx).2 i)⟩, fun g hg => (hin g hg).mono fun b hb => ⟨Nat.lt_of_lt_of_le hb.1 bt.size, hb.2.1, hb.2.2.2.1⟩, hnm⟩, ?_, ?_⟩
 ·exact (h.t.blk.put 4 _).other (by omega) _
 ·exact RowG.but (hown.row hok) bt hoff hin'
 ·intro x hx
  have := hs x hx
  omega
 ·exact fun g hg => ⟨fun x hx e => ((hin g hg).pa x hx).2.1 e, fun q hq => ⟨fun x hx e => (((hin g hg).ps q hq).1 x hx).2.1 e, fun x hx e => (((hin g hg).ps q hq).2 x hx).2.1 e⟩⟩
 ·exact (But.of_below hw _).trans bt (fun n hn e => by rcases e with e | e; exact .inl e; omega)
 ·rintro b (e | ⟨x, hx, rfl⟩ | ⟨g, hg, hn⟩)
  ·exact .inl (.inl e)
  ·exact .inr (Nat.le_trans hwB (hs x hx))
  ·rcases (InD.of_not (hin g hg) hn).2.2.2.2 with h' | h'
   ·exact .inl (.inr (.inr h'))
   ·exact .inr h'
theorem skipL_lt (L : List DgIn) (j : Nat) : ∀ n, j < n → (skipL L (j : Int) n).length + 1 ≤ n
 | 0, h => by omega
 | n + 1, h => by
  unfold skipL
  by_cases e : (n : Int) = (j : Int)
  ·rw [if_pos e]
   have := skipL_len L (j : Int) n
   omega
  ·rw [if_neg e, List.length_append]
   have := skipL_lt L j n (by omega)
   have : (L[n]?).toList.length ≤ 1 := by cases L[n]? <;> simp
   omega
/-- A datagram that is struck dead where it lies. -/
theorem fin_over {w W : World} {tb ob b off j : Nat} {ms ro li cl : Int} {gc : Nat} {L : List DgIn} {g : DgIn} (h : DocU w tb ms ro li cl (some ⟨b, off, none⟩) gc L) (hw : Below w.heap.size w W) (hob : w.heap.size ≤ ob) (hg : L[j]? = some g) :
  DocU (((W.setCell ⟨b, off + j * 11 + 10, none⟩ (.bool true)).setCell ⟨b, off + j * 11 + 8, none⟩ (.slice none 0 0)).setRow ob z15) tb ms ro li cl (some ⟨b, off, none⟩) gc (L.set j g.die) ∧ But (fun k => k = tb ∨ ∃ x, (some (⟨b, off, none⟩ : Addr)) = some x ∧ x.block = k) w (((W.setCell ⟨b, off + j * 11 + 10, none⟩ (.bool true)).setCell ⟨b, off + j * 11 + 8, none⟩ (.slice none 0 0)).setRow ob z15) ∧ ∀ k, DocB tb (some ⟨b, off, none⟩) (L.set j g.die) k → DocB tb (some ⟨b, off, none⟩) L k ∨ w.heap.size ≤ k := by
 have hU : DocU W tb ms ro li cl (some ⟨b, off, none⟩) gc L := h.but (But.of_bel hw) (fun b hd => by have := h.lows b hd; omega)
 have hbl := (h.frz _ rfl).1
 simp only at hbl
 have bt : But (fun k => k = b ∨ k = ob) W (((W.setCell ⟨b, off + j * 11 + 10, none⟩ (.bool true)).setCell ⟨b, off + j * 11 + 8, none⟩ (.slice none 0 0)).setRow ob z15) := (((But.refl _ W).setCell b _ (.inl (.inl rfl)) _).setCell b _ (.inl (.inl rfl)) _).setRow ob (.inl (.inr rfl)) _
 have hjl := (List.getElem?_eq_some_iff.1 hg).1
 have mem : ∀ x ∈ L.set j g.die, x = g.die ∨ x ∈ L := fun x hx => by
  rcases List.mem_or_eq_of_mem_set hx with h' | h'
  ·exact .inr h'
  ·exact .inl h'
 have ind : ∀ (P : Nat → Prop), InD P g.die := fun P => ⟨fun x hx => (by cases hx), fun q hq => by cases hq⟩
 have low' : ∀ x ∈ L.set j g.die, InD (fun k => k < w.heap.size ∧ k ≠ tb ∧ ∀ y, (some (⟨b, off, none⟩ : Addr)) = some y → k ≠ y.block) x := fun x hx => by
  rcases mem x hx with rfl | hx
  ·exact ind _
  ·exact h.low x hx
 have gin := hU.t.row.each g (List.mem_of_getElem? hg)
 have okd : ∀ W', DgIn.ok W' g.die := fun W' => ⟨⟨fun q hq => (by cases hq), fun i q hq => (by simp [DgIn.die] at hq)⟩, fun q hq => (by cases hq), Nat.zero_le _⟩
 have hbb : b < W.heap.size := Nat.lt_of_lt_of_le hbl hw.size
 have cellsof : ∀ (i : Nat) x, (L.set j g.die)[i]? = some x → CellsAt (((W.setCell ⟨b, off + j * 11 + 10, none⟩ (.bool true)).setCell ⟨b, off + j * 11 + 8, none⟩ (.slice none 0 0)).setRow ob z15) b (off + i * 11) x.v := fun i x hx => by
  refine ⟨Nat.lt_of_lt_of_le hbb bt.size, fun r v hv => ?_⟩
  have hr : r < 11 := (Array.getElem?_eq_some_iff.1 hv).1
  have so : ∀ (W' : World) (a : Addr), a.block ≠ ob → (W'.setRow ob z15).cell? a = W'.cell? a := fun W' a ha => World.cell?_of_block (setRow_heap_ne W' ob a.block z15 ha)
  rw [so _ _ (show b ≠ ob by omega)]
  rw [List.getElem?_set] at hx
  by_cases e : j = i
  ·subst e
   rw [if_pos rfl, if_pos hjl] at hx
   cases hx
   obtain ⟨b', off', e1, hc⟩ := hU.t.row.cells j g hg
   obtain ⟨rfl, rfl⟩ : b = b' ∧ off = off' := by simpa using e1
   have c8 := hc.2 8 (.slice g.pa g.ps.length g.pc) rfl
   have c10 := hc.2 10 (.bool g.dead) rfl
   by_cases r8 : r = 8
   ·subst r8
    have ev : v = .slice none 0 0 := (Option.some.inj hv).symm
    rw [ev]
    exact put_same ((put_other (by simp)).trans c8)
   by_cases r10 : r = 10
   ·subst r10
    have ev : v = .bool true := (Option.some.inj hv).symm
    rw [ev]
    exact (put_other (by simp)).trans (put_same c10)
   ·have hv' : g.v[r]? = some v := by
     match r, hr, r8, r10, hv with
     | 0, _, _, _, hv => exact hv
     | 1, _, _, _, hv => exact hv
     | 2, _, _, _, hv => exact hv
     | 3, _, _, _, hv => exact hv
     | 4, _, _, _, hv => exact hv
     | 5, _, _, _, hv => exact hv
     | 6, _, _, _, hv => exact hv
     | 7, _, _, _, hv => exact hv
     | 9, _, _, _, hv => exact hv
     | 8, _, h8, _, _ => exact absurd rfl h8
     | 10, _, _, h10, _ => exact absurd rfl h10
     | r + 11, h, _, _, _ => omega
    exact (put_other (by simp <;> omega)).trans ((put_other (by simp <;> omega)).trans (hc.2 r v hv'))
  ·rw [if_neg e] at hx
   obtain ⟨b', off', e1, hc⟩ := hU.t.row.cells i x hx
   obtain ⟨rfl, rfl⟩ : b = b' ∧ off = off' := by simpa using e1
   exact (put_other (by simp <;> omega)).trans ((put_other (by simp <;> omega)).trans (hc.2 r v hv))
 have htb : tb < w.heap.size := h.t.blk.lt
 have hbt : b ≠ tb := h.t.far _ rfl
 refine ⟨⟨⟨?_, ⟨fun x hx => ?_, fun i x hx => ⟨b, off, rfl, cellsof i x hx⟩⟩, h.t.far, fun x hx => ?_, by rw [List.length_set]; exact h.t.few⟩, fun x hx => ?_, fun x hx => (low' x hx).mono fun k hk => ⟨Nat.lt_of_lt_of_le hk.1 (Nat.le_trans hw.size bt.size), hk.2⟩, fun x hx => ?_⟩, ?_, ?_⟩
 ·rw [List.length_set]
  exact hU.t.blk.but bt (by omega)
 ·rcases mem x hx with rfl | hx'
  ·exact okd _
  ·exact (hU.t.row.each x hx').but bt ((h.low x hx').mono fun k hk hf => by
    have := hk.2.2 _ rfl
    simp only at this
    rcases hf with e | e
    ·exact this e
    ·omega)
 ·rcases mem x hx with rfl | hx'
  ·exact ⟨fun y hy => (by cases hy), fun q hq => by cases hq⟩
  ·exact h.t.each x hx'
 ·cases hx
  refine ⟨Nat.lt_of_lt_of_le hbb bt.size, fun i => ?_⟩
  have so : ∀ (W' : World) (a : Addr), a.block ≠ ob → (W'.setRow ob z15).frozen? a = W'.frozen? a := fun W' a ha => by
   have e := setRow_heap_ne W' ob a.block z15 ha
   simp only [World.frozen?, e]
  rw [so _ _ (show b ≠ ob by omega), World.frozen?_setCell, World.frozen?_setCell]
  exact (hU.frz _ rfl).2 i
 ·rcases mem x hx with rfl | hx'
  ·exact h.nm g (List.mem_of_getElem? hg)
  ·exact h.nm x hx'
 ·exact (But.of_below hw _).trans bt (fun n hn e => by
   rcases e with e | e
   ·exact .inr ⟨_, rfl, e.symm⟩
   ·omega)
 ·rintro k (e | ⟨x, hx, e⟩ | ⟨x, hx, hn⟩)
  ·exact .inl (.inl e)
  ·exact .inl (.inr (.inl ⟨x, hx, e⟩))
  ·rcases mem x hx with rfl | hx'
   ·exact absurd (ind _) hn
   ·exact .inl (.inr (.inr ⟨x, hx', hn⟩))
end Go.Proofs.Ytkeeidfpgfdldaa
