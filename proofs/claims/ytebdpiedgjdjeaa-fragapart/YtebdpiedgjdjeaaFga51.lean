/- Texts joined: FiQ -/
import Derived.Test.YtebdpiedgjdjeaaFga49
namespace Go.Proofs.Ytebdpiedgjdjeaa
open Go.RowKit
set_option linter.unusedVariables false
set_option linter.unusedSimpArgs false
theorem look_ins_ne {α : Type} {k k' : Lit} (hne : k' ≠ k) (x : α) : ∀ E : List (Lit × α), look k' (ins (k, x) E) = look k' E
  | [] => by simp [ins, look, Maps.sameKey_ne (fun h => hne h.symm)]
  | y :: r => by
    have ih := look_ins_ne hne x r
    unfold ins
    split
    · unfold look
      rw [List.find?_cons, Maps.sameKey_ne (fun h => hne h.symm)]
    · unfold look at ih ⊢
      rw [List.find?_cons, List.find?_cons]
      cases y.1.sameKey k'
      · exact ih
      · rfl
theorem look_strike_ne {α : Type} {k k' : Lit} (hne : k' ≠ k) : ∀ E : List (Lit × α), look k' (strike k E) = look k' E
  | [] => rfl
  | y :: r => by
    have ih := look_strike_ne hne r
    unfold strike look at ih ⊢
    rw [List.filter_cons]
    cases hs : y.1.sameKey k
    · simp only [Bool.not_false, if_true]
      rw [List.find?_cons, List.find?_cons]
      cases y.1.sameKey k'
      · exact ih
      · rfl
    · simp only [Bool.not_true, Bool.false_eq_true, if_false]
      have : y.1.sameKey k' = false := Maps.sameKey_ne (fun e => hne (e.symm.trans (WideAt.sameKey_eq hs)))
      rw [List.find?_cons, this]
      exact ih
theorem name_ne {p : Pkt} (h : PktOk p) (hid : p.id ≠ 9) : nameK p ≠ KN := fun e => by
  have h1 := key_any p h
  rw [e] at h1
  have h2 := keyGram.inj h1 key_own
  have h3 : nameA p = #[.int .i64 4, .int .u64 0, .int .u64 1, .int .i64 4, .int .u64 0, .int .u64 2, .int .i64 17, .int .u32 9] := by injection h2
  have h4 := congrArg (fun a : Array Value => a[7]?) h3
  simp at h4
  exact hid h4
theorem putF_other {s : Fs} {p : Pkt} (hs : FsOk s) (hne : nameK p ≠ KN) : look KN (putF s p).1.E = look KN s.E ∧ (putF s p).1.by_ ≤ s.by_ + p.dat.length ∧ ∀ e ∈ (putF s p).1.E, e.1 = nameK p ∨ ∃ e' ∈ s.E, e'.1 = e.1 := by
  have same : look KN s.E = look KN s.E ∧ s.by_ ≤ s.by_ + p.dat.length ∧ ∀ e ∈ s.E, e.1 = nameK p ∨ ∃ e' ∈ s.E, e'.1 = e.1 := ⟨rfl, by omega, fun e he => .inr ⟨e, he, rfl⟩⟩
  have gn := (gramA_ok hs p).nonneg
  have inss : ∀ g : Ag, look KN (ins (nameK p, g) (strike (nameK p) s.E)) = look KN s.E ∧ ∀ e ∈ ins (nameK p, g) (strike (nameK p) s.E), e.1 = nameK p ∨ ∃ e' ∈ s.E, e'.1 = e.1 := fun g => by
    refine ⟨(look_ins_ne (fun h => hne h.symm) g _).trans (look_strike_ne (fun h => hne h.symm) _), fun e he => ?_⟩
    rcases List.mem_cons.1 ((ins_perm (nameK p, g) (strike (nameK p) s.E)).mem_iff.1 he) with rfl | he
    · exact .inl rfl
    · exact .inr ⟨e, mem_strike he, rfl⟩
  unfold putF
  split
  · exact same
  split
  · exact same
  unfold takeF
  split
  · exact same
  split
  · exact ⟨(inss _).1, by simp only; omega, (inss _).2⟩
  split
  · exact same
  split
  · exact ⟨look_strike_ne (fun h => hne h.symm) _, by simp only; omega, fun e he => .inr ⟨e, mem_strike he, rfl⟩⟩
  · exact ⟨(inss _).1, by simp only; omega, (inss _).2⟩
theorem nodup_sub {α : Type} : ∀ (l N : List α), l.Pairwise (· ≠ ·) → (∀ x ∈ l, x ∈ N) → l.length ≤ N.length
  | [], _, _, _ => by simp
  | x :: r, N, h, hs => by
    obtain ⟨h1, h2⟩ := List.pairwise_cons.1 h
    obtain ⟨a, b, rfl⟩ := List.append_of_mem (hs x (by simp))
    have := nodup_sub r (a ++ b) h2 (fun y hy => by
      rcases List.mem_append.1 (hs y (by simp [hy])) with h | h
      · exact List.mem_append.2 (.inl h)
      · rcases List.mem_cons.1 h with rfl | h
        · exact absurd rfl (h1 y hy)
        · exact List.mem_append.2 (.inr h))
    simp only [List.length_append, List.length_cons] at this ⊢
    omega
/-- The fragments A wait; T bytes of others at most, and no names but these. -/
structure Ap (data : List Int) (names : List Lit) (s : Fs) (A : List Pkt) (t : Int) : Prop where
  waits : Waits data KN s A
  by_ : s.by_ ≤ sumA (A.map pcP) + t
  keys : ∀ e ∈ s.E, e.1 ∈ names
  most : s.most = 200
  room : s.room = 1048576
theorem Ap.few {data : List Int} {names : List Lit} {s : Fs} {A : List Pkt} {t : Int} (h : Ap data names s A t) (hs : FsOk s) : s.E.length ≤ names.length := by
  have := nodup_sub (s.E.map (·.1)) names (List.pairwise_map.2 hs.keys) (fun x hx => by
    obtain ⟨e, he, rfl⟩ := List.mem_map.1 hx
    exact h.keys e he)
  simpa using this
theorem ap_other {data : List Int} {names : List Lit} {s : Fs} {A : List Pkt} {t : Int} {p : Pkt} (h : Ap data names s A t) (hs : FsOk s) (hp : PktOk p) (hid : p.id ≠ 9) (hn : nameK p ∈ names) : Ap data names (putF s p).1 A (t + p.dat.length) := by
  obtain ⟨h1, h2, h3⟩ := putF_other hs (name_ne hp hid)
  have hc := putF_caps s p
  refine ⟨?_, by have := h.by_; omega, fun e he => ?_, hc.1.trans h.most, hc.2.1.trans h.room⟩
  · rcases h.waits with ⟨w1, w2⟩ | ⟨g, w1, w2⟩
    · exact .inl ⟨w1, h1.trans w2⟩
    · exact .inr ⟨g, h1.trans w1, w2⟩
  · rcases h3 e he with h | ⟨e', he', h4⟩
    · rw [h]; exact hn
    · rw [← h4]; exact h.keys e' he'
theorem ap_waits {data : List Int} {names : List Lit} {s : Fs} {A B : List Pkt} {t : Int} {p : Pkt} (h : Part data KN (A ++ p :: B)) (hB : B ≠ []) (hs : FsOk s) (ha : Ap data names s A t) (hl : data.length ≤ 1000) (ht : t ≤ 400000) (hK : KN ∈ names) (hn : names.length ≤ 101) :
    (putF s p).2.2 = 19 ∧ (putF s p).2.1 = pk0 ∧ Ap data names (putF s p).1 (A ++ [p]) t := by
  have h1 := part_len h
  have h2 := ha.by_
  have h3 := ha.few hs
  obtain ⟨g, G, _, h4, h5⟩ := put_waits h hB hs ha.waits (by rw [ha.room]; omega) (fun _ => by rw [ha.most]; omega)
  have hc := putF_caps s p
  refine ⟨by rw [h4], by rw [h4], ?_, ?_, fun e he => ?_, hc.1.trans ha.most, hc.2.1.trans ha.room⟩
  · exact .inr ⟨g, by rw [h4]; exact h5, G⟩
  · rw [h4, List.map_append, sumA_app]
    simp only [List.map_cons, List.map_nil, sumA, pcP]
    omega
  · rw [h4] at he
    rcases List.mem_cons.1 ((ins_perm (KN, g) (strike KN s.E)).mem_iff.1 he) with rfl | he
    · exact hK
    · exact ha.keys e (mem_strike he)
theorem ap_ends {data : List Int} {names : List Lit} {s : Fs} {A : List Pkt} {t : Int} {p : Pkt} (h : Part data KN (A ++ [p])) (hs : FsOk s) (ha : Ap data names s A t) (hl : data.length ≤ 1000) (ht : t ≤ 400000) (hn : names.length ≤ 101) :
    (putF s p).2.2 = 0 ∧ ∃ q ∈ A ++ [p], (putF s p).2.1 = ⟨q.f, q.s, q.d, q.pr, q.ho, false, 0, 0, false, q.X, data⟩ := by
  have h1 := part_len (B := []) h
  have h2 := ha.by_
  have h3 := ha.few hs
  obtain ⟨q, hq, hz, h4⟩ := put_ends h hs ha.waits (by rw [ha.room]; omega) (fun _ => by rw [ha.most]; omega)
  exact ⟨by rw [h4], q, hq, by rw [h4]⟩
/-- How many bytes the first packets have. -/
def psum (l : List PkIn) : Nat := (l.map fun q => q.p.dat.length).sum
theorem psum_take {l : List PkIn} {c : Nat} {q : PkIn} (h : l[c]? = some q) : psum (l.take (c + 1)) = psum (l.take c) + q.p.dat.length := by
  unfold psum
  rw [List.take_add_one, h]
  simp
end Go.Proofs.Ytebdpiedgjdjeaa
