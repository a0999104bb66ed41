/- Texts joined: ArgA FiP -/
import Derived.Test.YtebdpiedgjdjeaaFgo51
namespace Go.Proofs.Ytebdpiedgjdjeaa
open Go.RowKit Go.ChangeShapes Go.WideShapes Go.ChangeAt
set_option linter.unusedVariables false
set_option linter.unusedSimpArgs false
theorem sz2 {L : List Value} {n : Nat} (h : L.toArray.size = n) (h' : n = 2) : ∃ x y, L = [x, y] := by
  have h2 : L.length = 2 := by simpa using h.trans h'
  match L, h2 with
  | [x, y], _ => exact ⟨x, y, rfl⟩
theorem xs2 {α : Type} {L : List α} (h : L.length = 2) : ∃ x y, L = [x, y] := by
  match L, h with
  | [x, y], _ => exact ⟨x, y, rfl⟩
theorem okWide_arr {W : World} {base : Nat} {v : Value} {P : Program} {t e : TypeId} {n : Nat} (ht : P.underlying t = some (.array n e)) (h : Value.okWide P W .any base t v) : ∃ cs, v = .agg cs ∧ cs.size = P.cellsOf t := by
  simp only [Value.okWide, ht] at h
  obtain ⟨cs, h1, h2, _⟩ := h
  exact ⟨cs, h1, h2⟩
set_option maxRecDepth 100000 in
theorem open_pair {H : Type} {enc : TypeId × Value → H} {W : World} {base : Nat} {v : Value} {d : DataW H} {p : List MemPlace}
    (hv : Value.okWide Try.prog W .any base 58 v) (h : DataW.Trod enc Try.prog W 0 (fun _ => true) true 58 v d p) (hsz : ∀ n ∈ d.weights Try.prog 58, n ≤ reachBytes) :
    ∃ (a1 : Option Addr) (c1 : Nat) (l1 : List Int) (a2 : Option Addr) (c2 : Nat) (l2 : List Int), v = .agg #[.slice a1 l1.length c1, .slice a2 l2.length c2] ∧ Row W a1 l1 ∧ Row W a2 l2 := by
  have cc : Try.prog.cellsOf 58 = 2 := by kernel_rfl
  have cI : Try.prog.cellsOf 40 = 1 := by kernel_rfl
  obtain ⟨cs, rfl, hs⟩ := okWide_arr Try.underlying58 hv
  obtain ⟨L⟩ := cs
  obtain ⟨x, y, rfl⟩ := sz2 hs cc
  obtain ⟨fuel, hf0⟩ := h
  obtain ⟨xs, m, _, hx, _, hlen, hf⟩ := DataW.trod_array Try.underlying58 hf0
  obtain ⟨y0, y1, rfl⟩ := xs2 hlen
  have h0 : DataW.trod enc Try.prog W 0 (fun _ => true) true m 40 (([x, y].drop (0 * Try.prog.cellsOf 40)).take (Try.prog.cellsOf 40)) = some y0 := hf 0 (by decide)
  have h1 : DataW.trod enc Try.prog W 0 (fun _ => true) true m 40 (([x, y].drop (1 * Try.prog.cellsOf 40)).take (Try.prog.cellsOf 40)) = some y1 := hf 1 (by decide)
  rw [cI] at h0 h1
  have h0 : DataW.trod enc Try.prog W 0 (fun _ => true) true m 40 [x] = some y0 := h0
  have h1 : DataW.trod enc Try.prog W 0 (fun _ => true) true m 40 [y] = some y1 := h1
  have hd : d = .agg [y0.1, y1.1] := by simpa using congrArg Prod.fst hx
  obtain ⟨a1, c1, l1, e1, _, _, _, r1⟩ := bytes_cells h0 (fun n hn => hsz n (by
    rw [hd]
    simp only [DataW.weights, Try.underlying58]
    exact weightsAll_mem (d := y0.1) (by simp) hn))
  obtain ⟨a2, c2, l2, e2, _, _, _, r2⟩ := bytes_cells h1 (fun n hn => hsz n (by
    rw [hd]
    simp only [DataW.weights, Try.underlying58]
    exact weightsAll_mem (d := y1.1) (by simp) hn))
  have one : ∀ {x y : Value}, [x] = [y] → x = y := fun h => (List.cons.inj h).1
  obtain rfl := one e1
  obtain rfl := one e2
  exact ⟨a1, c1, l1, a2, c2, l2, rfl, r1, r2⟩
end Go.Proofs.Ytebdpiedgjdjeaa
namespace Go.Proofs.Ytebdpiedgjdjeaa
open Go.RowKit
set_option linter.unusedVariables false
set_option linter.unusedSimpArgs false
/-- One datagram, gone at t. -/
def OneAt (t : Int) (data : List Int) (s : Fs) (A : List Pkt) : Prop := One data s A ∧ (∀ g, s.E = [(KN, g)] → g.ends = t) ∧ s.now + s.life = t
theorem oneAt_waits {t : Int} {data : List Int} {s : Fs} {A B : List Pkt} {p : Pkt} (h : Part data KN (A ++ p :: B)) (hB : B ≠ []) (hs : FsOk s) (hw : OneAt t data s A) (hr : (data.length : Int) ≤ s.room) (hm : 1 ≤ s.most) :
    (putF s p).2.2 = 19 ∧ (putF s p).2.1 = pk0 ∧ OneAt t data (putF s p).1 (A ++ [p]) := by
  obtain ⟨e1, e2, e3, _, g, e4, e5, _⟩ := one_waits h hB hs hw.1 hr hm
  have hc := putF_caps s p
  refine ⟨e1, e2, e3, fun g' hg => ?_, by rw [hc.2.2.1, hc.2.2.2]; exact hw.2.2⟩
  rw [e4] at hg
  simp only [List.cons.injEq, Prod.mk.injEq, true_and, and_true] at hg
  subst hg
  rw [e5]
  unfold timeA gramA
  have hn := (h.each p (by simp)).name
  rw [hn]
  rcases hw.1 with ⟨_, h2⟩ | ⟨_, g0, h1, _⟩
  · rw [h2]
    simpa [look] using hw.2.2
  · have := hw.2.1 g0 h1
    rw [h1]
    simpa [look, WideAt.sameKey_self keyLit_own] using this
/-- A datagram that is dead. -/
def Dead (t : Int) (s : Fs) : Prop := s.E = [(KN, agX t)] ∧ s.by_ = 0
theorem put_again {t : Int} {data : List Int} {s : Fs} {A : List Pkt} {p : Pkt} (hA : p ∈ A) (ho : OneOf data KN p) (hw : OneAt t data s A) (hs : FsOk s) :
    (putF s p).2.2 = 11 ∧ (putF s p).2.1 = pk0 ∧ Dead t (putF s p).1 := by
  obtain ⟨n0, n1, n2, n3⟩ := wrong_nums ho.right
  have hne : A ≠ [] := fun h => by rw [h] at hA; cases hA
  rcases hw.1 with ⟨h1, _⟩ | ⟨_, g, h1, G⟩
  · exact absurd h1 hne
  have ht := hw.2.1 g h1
  have hl : look (nameK p) s.E = some g := by rw [ho.name, h1]; simp [look, WideAt.sameKey_self keyLit_own]
  have hg : gramA s p = g := by unfold gramA; rw [hl]; rfl
  have hc : clashA g p.of p.mo p.dat.length = true := by
    unfold clashA
    split
    · rfl
    split
    · rfl
    refine List.any_eq_true.2 ⟨pcP p, by rw [G.ps]; exact List.mem_map.2 ⟨p, hA, rfl⟩, ?_⟩
    simp only [shareA, pcP, Bool.and_eq_true, decide_eq_true_eq]
    omega
  have e : putF s p = ({ s with by_ := s.by_ - g.size, E := ins (KN, agX g.ends) (strike KN s.E) }, pk0, 11) := by
    unfold putF
    rw [if_neg (by rw [ho.fg]; simp), if_neg (by simp [ho.right])]
    unfold takeF
    rw [hg, ho.name, if_neg (by rw [G.dead]; simp), if_pos hc]
  have hb := hw.1.by_ hs
  refine ⟨by rw [e], by rw [e], ?_, ?_⟩
  · rw [e]
    simp only [hw.1.strike, ht]
    rfl
  · rw [e, hb, G.size]
    simp
theorem put_dead {t : Int} {data : List Int} {s : Fs} {p : Pkt} (ho : OneOf data KN p) (hd : Dead t s) : putF s p = (s, pk0, 11) := by
  have hl : look (nameK p) s.E = some (agX t) := by rw [ho.name, hd.1]; simp [look, WideAt.sameKey_self keyLit_own]
  have hg : gramA s p = agX t := by unfold gramA; rw [hl]; rfl
  unfold putF
  rw [if_neg (by rw [ho.fg]; simp), if_neg (by simp [ho.right])]
  unfold takeF
  rw [hg, if_pos rfl]
theorem tick_9 {s : Fs} (hd : Dead 10 s) (hn : s.now = 0) : (tickF s 9).2 = 0 ∧ Dead 10 (tickF s 9).1 ∧ (tickF s 9).1.now = 9 := by
  unfold tickF
  rw [if_neg (by omega), hd.1]
  exact ⟨rfl, ⟨rfl, rfl⟩, rfl⟩
theorem tick_10 {s : Fs} (hd : Dead 10 s) (hn : s.now = 9) : (tickF s 10).2 = 0 ∧ (tickF s 10).1.E = [] := by
  unfold tickF
  rw [if_neg (by omega), hd.1]
  exact ⟨rfl, rfl⟩
end Go.Proofs.Ytebdpiedgjdjeaa
