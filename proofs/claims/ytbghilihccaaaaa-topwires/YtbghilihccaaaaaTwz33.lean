/- Texts joined: FiM WiA -/
import Derived.Test.YtbghilihccaaaaaTwz32
namespace Go.Proofs.Ytbghilihccaaaaa
open Go.RowKit
set_option linter.unusedVariables false
set_option linter.unusedSimpArgs false
/-- A table from B on, beside the blocks P. -/
structure TabP (B : Nat) (P : Nat → Prop) (w0 wr : World) (tb mb : Nat) (s : Fs) : Prop where
  ex : ∃ G, TabG wr tb mb s G ∧ (∀ k, foot tb mb G k → B ≤ k) ∧ ∀ k, P k → ¬ foot tb mb G k
  lt : ∀ k, P k → k < wr.heap.size
  bel : Below B w0 wr
  le : B ≤ wr.heap.size
theorem TabP.ok {B : Nat} {P : Nat → Prop} {w0 wr : World} {tb mb : Nat} {s : Fs} (h : TabP B P w0 wr tb mb s) : FsOk s := by obtain ⟨G, T, _⟩ := h.ex; exact T.ok
theorem TabB.toP {B : Nat} {w0 wr : World} {tb mb : Nat} {s : Fs} (h : TabB B w0 wr tb mb s) : TabP B (fun _ => False) w0 wr tb mb s := by
  obtain ⟨G, T, hf⟩ := h.ex
  exact ⟨⟨G, T, hf, fun _ h => h.elim⟩, fun _ h => h.elim, h.bel, h.le⟩
theorem TabP.below {B : Nat} {P : Nat → Prop} {w0 wr w' : World} {tb mb : Nat} {s : Fs} (h : TabP B P w0 wr tb mb s) (b : Below wr.heap.size wr w') : TabP B P w0 w' tb mb s := by
  obtain ⟨G, T, hf, hp⟩ := h.ex
  exact ⟨⟨G, T.below b, hf, hp⟩, fun k hk => Nat.lt_of_lt_of_le (h.lt k hk) b.size, h.bel.trans (b.mono h.le), Nat.le_trans h.le b.size⟩
/-- Blocks that are new may be set apart. -/
theorem TabP.add {B : Nat} {P P' : Nat → Prop} {w0 wr w' : World} {tb mb : Nat} {s : Fs} (h : TabP B P w0 wr tb mb s) (b : Below wr.heap.size wr w') (hP : ∀ k, P' k → P k ∨ (wr.heap.size ≤ k ∧ k < w'.heap.size)) : TabP B P' w0 w' tb mb s := by
  obtain ⟨G, T, hf, hp⟩ := h.ex
  refine ⟨⟨G, T.below b, hf, fun k hk hF => ?_⟩, fun k hk => ?_, h.bel.trans (b.mono h.le), Nat.le_trans h.le b.size⟩
  · rcases hP k hk with x | x
    · exact hp k x hF
    · have := T.lt hF
      omega
  · rcases hP k hk with x | x
    · exact Nat.lt_of_lt_of_le (h.lt k x) b.size
    · exact x.2
/-- Blocks that were set apart may be written. -/
theorem TabP.but {B : Nat} {P F : Nat → Prop} {w0 wr w' : World} {tb mb : Nat} {s : Fs} (h : TabP B P w0 wr tb mb s) (b : But F wr w') (hF : ∀ k, F k → P k ∧ B ≤ k) : TabP B P w0 w' tb mb s := by
  obtain ⟨G, T, hf, hp⟩ := h.ex
  refine ⟨⟨G, T.but b (fun k hk h => hp k (hF k h).1 hk), hf, hp⟩, fun k hk => Nat.lt_of_lt_of_le (h.lt k hk) b.size, h.bel.trans (b.to_below h.le (fun k hk h => by have := (hF k h).2; omega)), Nat.le_trans h.le b.size⟩
theorem TabP.put {B : Nat} {P : Nat → Prop} {w0 wr : World} {tb mb : Nat} {s : Fs} (h : TabP B P w0 wr tb mb s) (p : Pkt) (xa : Option Addr) (xc : Nat) (da : Option Addr) (dc : Nat) (hp : PktOk p)
    (hdat : Row wr da p.dat) (hnil : da = none → dc = 0) (hx : RowI wr xa p.X) (hxn : xa = none → xc = 0) :
    Calls Try.prog 17 #[.pointer (some ⟨tb, 0, none⟩), .agg (pkV p xa xc da dc)] wr fun e w' => ∃ xa' xc' da' dc', e = .returned (.tuple #[.agg (pkV (putF s p).2.1 xa' xc' da' dc'), .int .i64 (putF s p).2.2]) ∧ TabP B P w0 w' tb mb (putF s p).1 ∧ RowI w' xa' (putF s p).2.1.X ∧ Row w' da' (putF s p).2.1.dat ∧ (∀ x, da' = some x → wr.heap.size ≤ x.block) ∧ (∀ x, xa' = some x → B ≤ x.block ∧ ¬ P x.block) ∧ But (fun k => ¬ P k ∧ B ≤ k) wr w' := by
  obtain ⟨G, T, hf, hP⟩ := h.ex
  refine (put_any tb mb s G p xa xc da dc wr T hp hdat hnil hx hxn).mono ?_
  rintro e w' ⟨RV, c, rfl, rfl, G', T', hf', hb, xa', xc', da', dc', rfl, r1, r2, r3, r4⟩
  have hl := h.le
  have b : But (fun k => ¬ P k ∧ B ≤ k) wr w' := (But.refl _ wr).trans hb (fun k _ hF => ⟨fun h' => hP k h' hF, hf k hF⟩)
  refine ⟨xa', xc', da', dc', rfl, ⟨⟨G', T', fun k hk => ?_, fun k hk hF => ?_⟩, fun k hk => Nat.lt_of_lt_of_le (h.lt k hk) b.size, h.bel.trans (b.to_below hl (fun k hk h => by omega)), Nat.le_trans hl b.size⟩, r1, r2, r4, fun x hx => ?_, b⟩
  · rcases hf' k hk with x | x
    · exact hf k x
    · omega
  · rcases hf' k hF with x | x
    · exact hP k hk x
    · have := h.lt k hk
      omega
  · rcases r3 x hx with y | y
    · exact ⟨by omega, fun h' => by have := h.lt _ h'; omega⟩
    · exact ⟨hf _ y, fun h' => hP _ h' y⟩
theorem TabP.bytes {B : Nat} {P : Nat → Prop} {w0 wr : World} {tb mb : Nat} {s : Fs} (h : TabP B P w0 wr tb mb s) : Calls Try.prog 21 #[.pointer (some ⟨tb, 0, none⟩)] wr fun e w' => e = .returned (.int .i64 s.by_) ∧ w' = wr := by
  obtain ⟨G, T, hf⟩ := h.ex
  exact tbytes_any tb mb s G wr T
theorem row_sub {w : World} {b o : Nat} {l : List Int} (h : Row w (some ⟨b, o, none⟩) l) (k n : Nat) : Row w (some ⟨b, o + k, none⟩) ((l.drop k).take n) := by
  refine ⟨?_, fun x hx => h.bytes x (List.mem_of_mem_drop (List.mem_of_mem_take hx)), fun hp => ⟨b, o + k, rfl, fun i hi => ?_⟩⟩
  · have := h.small
    simp only [List.length_take, List.length_drop]
    omega
  · simp only [List.length_take, List.length_drop] at hi
    obtain ⟨b', o', e, hc⟩ := h.cells (by omega)
    cases e
    have h1 := hc (k + i) (by omega)
    have e1 : ((l.drop k).take n).getD i 0 = l.getD (k + i) 0 := by
      simp only [List.getD_eq_getElem?_getD]
      rw [List.getElem?_take_of_lt (by omega), List.getElem?_drop]
    rw [e1, Nat.add_assoc]
    exact h1
def One (data : List Int) (s : Fs) (A : List Pkt) : Prop := (A = [] ∧ s.E = []) ∨ (A ≠ [] ∧ ∃ g, s.E = [(KN, g)] ∧ Got data A g)
theorem One.waits {data : List Int} {s : Fs} {A : List Pkt} (h : One data s A) : Waits data KN s A := by
  rcases h with ⟨h1, h2⟩ | ⟨_, g, h1, h2⟩
  · exact .inl ⟨h1, by rw [h2]; rfl⟩
  · refine .inr ⟨g, ?_, h2⟩
    rw [h1]
    simp [look, WideAt.sameKey_self keyLit_own]
theorem One.strike {data : List Int} {s : Fs} {A : List Pkt} (h : One data s A) : strike KN s.E = [] := by
  rcases h with ⟨_, h2⟩ | ⟨_, g, h1, _⟩
  · rw [h2]; rfl
  · rw [h1]
    simp [Go.Proofs.Ytbghilihccaaaaa.strike, WideAt.sameKey_self keyLit_own]
theorem One.by_ {data : List Int} {s : Fs} {A : List Pkt} (h : One data s A) (hs : FsOk s) : s.by_ = sumA (A.map pcP) := by
  rw [hs.by_]
  rcases h with ⟨h1, h2⟩ | ⟨_, g, h1, h2⟩
  · rw [h2, h1]; rfl
  · rw [h1, ← h2.size]; simp [sizes]
theorem One.few {data : List Int} {s : Fs} {A : List Pkt} (h : One data s A) (hm : 1 ≤ s.most) : A = [] → (s.E.length : Int) < s.most := fun hA => by
  rcases h with ⟨_, h2⟩ | ⟨h1, _⟩
  · rw [h2]; simp; omega
  · exact absurd hA h1
theorem part_len {data : List Int} {K : Lit} {A B : List Pkt} {p : Pkt} (h : Part data K (A ++ p :: B)) : sumA (A.map pcP) + p.dat.length ≤ data.length := by
  have h1 := h.sum
  rw [List.map_append, sumA_app, List.map_cons, sumA] at h1
  have h2 := sumA_nonneg (B.map pcP)
  simp only [pcP] at h1 h2 ⊢
  omega
def wF (six : Bool) : Int := if six = true then 6 else 4
def wSH (six : Bool) : Int := if six = true then 2306139568115548160 else 0
def wSL (six : Bool) : Int := if six = true then 1 else 167772161
def wDH (six : Bool) : Int := if six = true then 2306139568115548161 else 0
def wDL (six : Bool) : Int := if six = true then 2 else 3221225474
def wP (six : Bool) : Int := if six = true then 59 else 99
/-- A fragment of the law's own. -/
abbrev pkW (six : Bool) (data : List Int) (X : List Int) (x : Nat × Nat × Bool) : Pkt := ⟨wF six, ⟨wF six, wSH six, wSL six⟩, ⟨wF six, wDH six, wDL six⟩, wP six, 9, true, 7, (x.1 : Int), x.2.2, X, (data.drop x.1).take x.2.1⟩
def KW (six : Bool) : Lit := nameK (pkW six [] [] (0, 0, true))
theorem keyLit_W (six : Bool) : WideAt.IsKeyLit (KW six) := keyLit_name _
theorem pktOk_W (six : Bool) (data X : List Int) (x : Nat × Nat × Bool) : PktOk (pkW six data X x) := by cases six <;> exact ⟨rfl, rfl, rfl, rfl, rfl, rfl, rfl, rfl⟩
theorem pkW_len {six : Bool} {data X : List Int} {x : Nat × Nat × Bool} (h : x.1 + x.2.1 ≤ data.length) : (pkW six data X x).dat.length = x.2.1 := by
  simp; omega
theorem pkW_one {six : Bool} {data X : List Int} {x : Nat × Nat × Bool} (hl : data.length ≤ 2000) (h8 : x.1 % 8 = 0) (h1 : 1 ≤ x.2.1) (h2 : x.1 + x.2.1 ≤ data.length) (hm : x.2.2 = true → x.2.1 % 8 = 0) (hn : x.2.2 = false → x.1 + x.2.1 = data.length) : OneOf data (KW six) (pkW six data X x) := by
  have hlen := pkW_len (six := six) (X := X) h2
  refine ⟨rfl, ?_, rfl, ?_, ?_, fun h => ?_⟩
  · unfold wrongP wrongF
    rw [hlen]
    have c1 : ¬ (((Ad.right (pkW six data X x).s && ((pkW six data X x).s.fam == (pkW six data X x).f)) = false) ∨ ((Ad.right (pkW six data X x).d && ((pkW six data X x).d.fam == (pkW six data X x).f)) = false)) := by
      show ¬ (((Ad.right ⟨wF six, wSH six, wSL six⟩ && (wF six == wF six)) = false) ∨ ((Ad.right ⟨wF six, wDH six, wDL six⟩ && (wF six == wF six)) = false))
      cases six <;> decide
    rw [if_neg c1, if_neg (by simp only; omega), if_neg]
    rintro (h | ⟨h, h'⟩)
    · omega
    · exact h' (hm h)
  · rw [hlen]
    simp
  · rw [hlen]
    simp only
    omega
  · rw [hlen]
    have := hn h
    simp only
    omega
theorem part_cutW {six : Bool} {data X : List Int} (hl : data.length ≤ 2000) (h0 : 0 < data.length) (cuts : List Int) : Part data (KW six) ((cutL data.length cuts 0).map (pkW six data X)) := by
  have C := cut_ok data.length cuts 0 h0 rfl
  refine ⟨fun p hp => ?_, ?_, ?_, ?_⟩
  · obtain ⟨x, hx, rfl⟩ := List.mem_map.1 hp
    obtain ⟨_, h2, h3, h4, h5, h6⟩ := C.each x hx
    exact pkW_one hl h2 h3 h4 h5 h6
  · refine List.pairwise_map.2 (C.pair.imp_of_mem fun {x y} hx hy h => ⟨.inl ?_, .inl h.2⟩)
    have h4 := (C.each x hx).2.2.2.1
    have := pkW_len (six := six) (X := X) h4
    have h5 := h.1
    simp only [pcP, this]
    omega
  · have : ∀ M : List (Nat × Nat × Bool), (∀ x ∈ M, x.1 + x.2.1 ≤ data.length) → sumA ((M.map (pkW six data X)).map pcP) = ((M.map fun x => x.2.1).sum : Nat) := by
      intro M
      induction M with
      | nil => intro _; rfl
      | cons x r ih =>
        intro h
        have h1 := ih (fun y hy => h y (List.mem_cons_of_mem _ hy))
        have h2 := pkW_len (six := six) (X := X) (h x (by simp))
        simp only [List.map_cons, sumA, List.sum_cons, pcP, h2, h1]
        omega
    rw [this _ (fun x hx => (C.each x hx).2.2.2.1)]
    have := C.sum
    omega
  · obtain ⟨x, h1, h2⟩ := C.last
    exact ⟨_, List.mem_map.2 ⟨x, h1, rfl⟩, h2⟩
def OneK (K : Lit) (data : List Int) (s : Fs) (A : List Pkt) : Prop := (A = [] ∧ s.E = []) ∨ (A ≠ [] ∧ ∃ g, s.E = [(K, g)] ∧ Got data A g)
theorem OneK.waits {K : Lit} (hK : WideAt.IsKeyLit K) {data : List Int} {s : Fs} {A : List Pkt} (h : OneK K data s A) : Waits data K s A := by
  rcases h with ⟨h1, h2⟩ | ⟨_, g, h1, h2⟩
  · exact .inl ⟨h1, by rw [h2]; rfl⟩
  · refine .inr ⟨g, ?_, h2⟩
    rw [h1]
    simp [look, WideAt.sameKey_self hK]
theorem OneK.strike {K : Lit} (hK : WideAt.IsKeyLit K) {data : List Int} {s : Fs} {A : List Pkt} (h : OneK K data s A) : strike K s.E = [] := by
  rcases h with ⟨_, h2⟩ | ⟨_, g, h1, _⟩
  · rw [h2]; rfl
  · rw [h1]
    simp [Go.Proofs.Ytbghilihccaaaaa.strike, WideAt.sameKey_self hK]
theorem OneK.by_ {K : Lit} {data : List Int} {s : Fs} {A : List Pkt} (h : OneK K data s A) (hs : FsOk s) : s.by_ = sumA (A.map pcP) := by
  rw [hs.by_]
  rcases h with ⟨h1, h2⟩ | ⟨_, g, h1, h2⟩
  · rw [h2, h1]; rfl
  · rw [h1, ← h2.size]; simp [sizes]
theorem OneK.few {K : Lit} {data : List Int} {s : Fs} {A : List Pkt} (h : OneK K data s A) (hm : 1 ≤ s.most) : A = [] → (s.E.length : Int) < s.most := fun hA => by
  rcases h with ⟨_, h2⟩ | ⟨h1, _⟩
  · rw [h2]; simp; omega
  · exact absurd hA h1
theorem oneK_waits {K : Lit} (hK : WideAt.IsKeyLit K) {data : List Int} {s : Fs} {A B : List Pkt} {p : Pkt} (h : Part data K (A ++ p :: B)) (hB : B ≠ []) (hs : FsOk s) (hw : OneK K data s A) (hr : (data.length : Int) ≤ s.room) (hm : 1 ≤ s.most) :
    (putF s p).2.2 = 19 ∧ (putF s p).2.1 = pk0 ∧ OneK K data (putF s p).1 (A ++ [p]) ∧ (putF s p).1.E.length = 1 ∧ ∃ g, (putF s p).1.E = [(K, g)] ∧ g.ends = timeA s p ∧ g.dead = false := by
  have h1 := hw.by_ hs
  have h2 := part_len h
  obtain ⟨g, G, h3, h4, h5⟩ := put_waits h hB hs (hw.waits hK) (by omega) (hw.few hm)
  have e : (putF s p).1.E = [(K, g)] := by rw [h4]; simp only [(hw.strike hK)]; rfl
  exact ⟨by rw [h4], by rw [h4], .inr ⟨by simp, g, e, G⟩, by rw [e]; rfl, g, e, h3, G.dead⟩
theorem oneK_ends {K : Lit} (hK : WideAt.IsKeyLit K) {data : List Int} {s : Fs} {A : List Pkt} {p : Pkt} (h : Part data K (A ++ [p])) (hs : FsOk s) (hw : OneK K data s A) (hr : (data.length : Int) ≤ s.room) (hm : 1 ≤ s.most) :
    (putF s p).2.2 = 0 ∧ (putF s p).1.E = [] ∧ (putF s p).1.by_ = 0 ∧ ∃ q ∈ A ++ [p], (putF s p).2.1 = ⟨q.f, q.s, q.d, q.pr, q.ho, false, 0, 0, false, q.X, data⟩ := by
  have h1 := hw.by_ hs
  have h2 := part_len (B := []) h
  obtain ⟨q, hq, hz, h4⟩ := put_ends h hs (hw.waits hK) (by omega) (hw.few hm)
  refine ⟨by rw [h4], by rw [h4]; exact (hw.strike hK), by rw [h4]; simp only; omega, q, hq, by rw [h4]⟩
theorem fs0_oneK (K : Lit) (data : List Int) (a b c : Int) : OneK K data (fs0 a b c) [] := .inl ⟨rfl, rfl⟩
/-- Every 16 bytes. -/
theorem cut16_go (N k m : Nat) (h : k + 16 < N) : cutL N (List.replicate (m + 1) 1) k = (k, 16, true) :: cutL N (List.replicate m 1) (k + 16) := by
  rw [List.replicate_succ]
  show (if N ≤ k + 8 * (((1 : Int) % 4).toNat + 1) then _ else _) = _
  have e : 8 * (((1 : Int) % 4).toNat + 1) = 16 := rfl
  rw [e, if_neg (by omega)]
theorem cut16_stop (N k m : Nat) (h : N ≤ k + 16) : cutL N (List.replicate (m + 1) 1) k = [(k, N - k, false)] := by
  rw [List.replicate_succ]
  show (if N ≤ k + 8 * (((1 : Int) % 4).toNat + 1) then _ else _) = _
  have e : 8 * (((1 : Int) % 4).toNat + 1) = 16 := rfl
  rw [e, if_pos h]
end Go.Proofs.Ytbghilihccaaaaa
