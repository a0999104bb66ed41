/- Texts joined: FiM -/
import Derived.Test.YtebdpiedgjdjeaaFga45
import Derived.Test.YtebdpiedgjdjeaaFga48
namespace Go.Proofs.Ytebdpiedgjdjeaa
open Go.RowKit
set_option linter.unusedVariables false
set_option linter.unusedSimpArgs false
/-- A table from B on, beside the blocks P. -/
structure TabP (B : Nat) (P : Nat → Prop) (w0 wr : World) (tb mb : Nat) (s : Fs) : Prop where
  ex : ∃ G, TabG wr tb mb s G ∧ (∀ k, foot tb mb G k → B ≤ k) ∧ ∀ k, P k → ¬ foot tb mb G k
  lt : ∀ k, P k → k < wr.heap.size
  bel : Below B w0 wr
  le : B ≤ wr.heap.size
theorem TabP.ok {B : Nat} {P : Nat → Prop} {w0 wr : World} {tb mb : Nat} {s : Fs} (h : TabP B P w0 wr tb mb s) : FsOk s := by obtain ⟨G, T, _⟩ := h.ex; exact T.ok
theorem TabB.toP {B : Nat} {w0 wr : World} {tb mb : Nat} {s : Fs} (h : TabB B w0 wr tb mb s) : TabP B (fun _ => False) w0 wr tb mb s := by
  obtain ⟨G, T, hf⟩ := h.ex
  exact ⟨⟨G, T, hf, fun _ h => h.elim⟩, fun _ h => h.elim, h.bel, h.le⟩
theorem TabP.below {B : Nat} {P : Nat → Prop} {w0 wr w' : World} {tb mb : Nat} {s : Fs} (h : TabP B P w0 wr tb mb s) (b : Below wr.heap.size wr w') : TabP B P w0 w' tb mb s := by
  obtain ⟨G, T, hf, hp⟩ := h.ex
  exact ⟨⟨G, T.below b, hf, hp⟩, fun k hk => Nat.lt_of_lt_of_le (h.lt k hk) b.size, h.bel.trans (b.mono h.le), Nat.le_trans h.le b.size⟩
/-- Blocks that are new may be set apart. -/
theorem TabP.add {B : Nat} {P P' : Nat → Prop} {w0 wr w' : World} {tb mb : Nat} {s : Fs} (h : TabP B P w0 wr tb mb s) (b : Below wr.heap.size wr w') (hP : ∀ k, P' k → P k ∨ (wr.heap.size ≤ k ∧ k < w'.heap.size)) : TabP B P' w0 w' tb mb s := by
  obtain ⟨G, T, hf, hp⟩ := h.ex
  refine ⟨⟨G, T.below b, hf, fun k hk hF => ?_⟩, fun k hk => ?_, h.bel.trans (b.mono h.le), Nat.le_trans h.le b.size⟩
  · rcases hP k hk with x | x
    · exact hp k x hF
    · have := T.lt hF
      omega
  · rcases hP k hk with x | x
    · exact Nat.lt_of_lt_of_le (h.lt k x) b.size
    · exact x.2
/-- Blocks that were set apart may be written. -/
theorem TabP.but {B : Nat} {P F : Nat → Prop} {w0 wr w' : World} {tb mb : Nat} {s : Fs} (h : TabP B P w0 wr tb mb s) (b : But F wr w') (hF : ∀ k, F k → P k ∧ B ≤ k) : TabP B P w0 w' tb mb s := by
  obtain ⟨G, T, hf, hp⟩ := h.ex
  refine ⟨⟨G, T.but b (fun k hk h => hp k (hF k h).1 hk), hf, hp⟩, fun k hk => Nat.lt_of_lt_of_le (h.lt k hk) b.size, h.bel.trans (b.to_below h.le (fun k hk h => by have := (hF k h).2; omega)), Nat.le_trans h.le b.size⟩
theorem TabP.put {B : Nat} {P : Nat → Prop} {w0 wr : World} {tb mb : Nat} {s : Fs} (h : TabP B P w0 wr tb mb s) (p : Pkt) (xa : Option Addr) (xc : Nat) (da : Option Addr) (dc : Nat) (hp : PktOk p)
    (hdat : Row wr da p.dat) (hnil : da = none → dc = 0) (hx : RowI wr xa p.X) (hxn : xa = none → xc = 0) :
    Calls Try.prog 17 #[.pointer (some ⟨tb, 0, none⟩), .agg (pkV p xa xc da dc)] wr fun e w' => ∃ xa' xc' da' dc', e = .returned (.tuple #[.agg (pkV (putF s p).2.1 xa' xc' da' dc'), .int .i64 (putF s p).2.2]) ∧ TabP B P w0 w' tb mb (putF s p).1 ∧ RowI w' xa' (putF s p).2.1.X ∧ Row w' da' (putF s p).2.1.dat ∧ (∀ x, da' = some x → wr.heap.size ≤ x.block) ∧ (∀ x, xa' = some x → B ≤ x.block ∧ ¬ P x.block) ∧ But (fun k => ¬ P k ∧ B ≤ k) wr w' := by
  obtain ⟨G, T, hf, hP⟩ := h.ex
  refine (put_any tb mb s G p xa xc da dc wr T hp hdat hnil hx hxn).mono ?_
  rintro e w' ⟨RV, c, rfl, rfl, G', T', hf', hb, xa', xc', da', dc', rfl, r1, r2, r3, r4⟩
  have hl := h.le
  have b : But (fun k => ¬ P k ∧ B ≤ k) wr w' := (But.refl _ wr).trans hb (fun k _ hF => ⟨fun h' => hP k h' hF, hf k hF⟩)
  refine ⟨xa', xc', da', dc', rfl, ⟨⟨G', T', fun k hk => ?_, fun k hk hF => ?_⟩, fun k hk => Nat.lt_of_lt_of_le (h.lt k hk) b.size, h.bel.trans (b.to_below hl (fun k hk h => by omega)), Nat.le_trans hl b.size⟩, r1, r2, r4, fun x hx => ?_, b⟩
  · rcases hf' k hk with x | x
    · exact hf k x
    · omega
  · rcases hf' k hF with x | x
    · exact hP k hk x
    · have := h.lt k hk
      omega
  · rcases r3 x hx with y | y
    · exact ⟨by omega, fun h' => by have := h.lt _ h'; omega⟩
    · exact ⟨hf _ y, fun h' => hP _ h' y⟩
theorem TabP.bytes {B : Nat} {P : Nat → Prop} {w0 wr : World} {tb mb : Nat} {s : Fs} (h : TabP B P w0 wr tb mb s) : Calls Try.prog 21 #[.pointer (some ⟨tb, 0, none⟩)] wr fun e w' => e = .returned (.int .i64 s.by_) ∧ w' = wr := by
  obtain ⟨G, T, hf⟩ := h.ex
  exact tbytes_any tb mb s G wr T
theorem row_sub {w : World} {b o : Nat} {l : List Int} (h : Row w (some ⟨b, o, none⟩) l) (k n : Nat) : Row w (some ⟨b, o + k, none⟩) ((l.drop k).take n) := by
  refine ⟨?_, fun x hx => h.bytes x (List.mem_of_mem_drop (List.mem_of_mem_take hx)), fun hp => ⟨b, o + k, rfl, fun i hi => ?_⟩⟩
  · have := h.small
    simp only [List.length_take, List.length_drop]
    omega
  · simp only [List.length_take, List.length_drop] at hi
    obtain ⟨b', o', e, hc⟩ := h.cells (by omega)
    cases e
    have h1 := hc (k + i) (by omega)
    have e1 : ((l.drop k).take n).getD i 0 = l.getD (k + i) 0 := by
      simp only [List.getD_eq_getElem?_getD]
      rw [List.getElem?_take_of_lt (by omega), List.getElem?_drop]
    rw [e1, Nat.add_assoc]
    exact h1
/-- What pieces answers. -/
def PiecesSpec : Prop := ∀ (data cuts ord : List Int) (b off dc : Nat) (ca : Option Addr) (cc : Nat) (oa : Option Addr) (oc : Nat) (w : World), 0 < data.length → data.length ≤ 1000 → data.length ≤ dc → cuts.length ≤ 60 → Row w ca cuts → Row w oa ord →
    Calls Try.prog 24 #[.agg #[.int .i64 4, .int .i64 4, .int .u64 0, .int .u64 1, .int .i64 4, .int .u64 0, .int .u64 2, .int .i64 17, .int .i64 5, .bool true, .int .u32 9, .int .i64 0, .bool false, .slice none 0 0, .slice (some ⟨b, off, none⟩) data.length dc], .slice ca cuts.length cc, .slice oa ord.length oc] w fun e w' => ∃ (a : Option Addr) (c : Nat) (M : List (Nat × Nat × Bool)), e = .returned (.slice a M.length c) ∧ M.Perm (cutL data.length cuts 0) ∧ ownP w' a c (M.map (mkL data b off dc)) ∧ (∀ x, a = some x → w.heap.size ≤ x.block) ∧ Below w.heap.size w w'
/-! One datagram alone. -/
def One (data : List Int) (s : Fs) (A : List Pkt) : Prop := (A = [] ∧ s.E = []) ∨ (A ≠ [] ∧ ∃ g, s.E = [(KN, g)] ∧ Got data A g)
theorem One.waits {data : List Int} {s : Fs} {A : List Pkt} (h : One data s A) : Waits data KN s A := by
  rcases h with ⟨h1, h2⟩ | ⟨_, g, h1, h2⟩
  · exact .inl ⟨h1, by rw [h2]; rfl⟩
  · refine .inr ⟨g, ?_, h2⟩
    rw [h1]
    simp [look, WideAt.sameKey_self keyLit_own]
theorem One.strike {data : List Int} {s : Fs} {A : List Pkt} (h : One data s A) : strike KN s.E = [] := by
  rcases h with ⟨_, h2⟩ | ⟨_, g, h1, _⟩
  · rw [h2]; rfl
  · rw [h1]
    simp [Go.Proofs.Ytebdpiedgjdjeaa.strike, WideAt.sameKey_self keyLit_own]
theorem One.by_ {data : List Int} {s : Fs} {A : List Pkt} (h : One data s A) (hs : FsOk s) : s.by_ = sumA (A.map pcP) := by
  rw [hs.by_]
  rcases h with ⟨h1, h2⟩ | ⟨_, g, h1, h2⟩
  · rw [h2, h1]; rfl
  · rw [h1, ← h2.size]; simp [sizes]
theorem One.few {data : List Int} {s : Fs} {A : List Pkt} (h : One data s A) (hm : 1 ≤ s.most) : A = [] → (s.E.length : Int) < s.most := fun hA => by
  rcases h with ⟨_, h2⟩ | ⟨h1, _⟩
  · rw [h2]; simp; omega
  · exact absurd hA h1
theorem part_len {data : List Int} {K : Lit} {A B : List Pkt} {p : Pkt} (h : Part data K (A ++ p :: B)) : sumA (A.map pcP) + p.dat.length ≤ data.length := by
  have h1 := h.sum
  rw [List.map_append, sumA_app, List.map_cons, sumA] at h1
  have h2 := sumA_nonneg (B.map pcP)
  simp only [pcP] at h1 h2 ⊢
  omega
theorem pktOk_own (data X : List Int) (x : Nat × Nat × Bool) : PktOk (pkL data X x) := ⟨rfl, rfl, rfl, rfl, rfl, rfl, rfl, rfl⟩
end Go.Proofs.Ytebdpiedgjdjeaa
