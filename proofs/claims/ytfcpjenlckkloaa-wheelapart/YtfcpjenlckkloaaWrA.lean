/- The document's wheel in memory; find, Time, Next, New. -/
import Derived.Test.YtfcpjenlckkloaaWhT
namespace Go.Proofs.Ytfcpjenlckkloaa
open Go.RowKit
set_option linter.unusedVariables false
set_option linter.unusedSimpArgs false

/-- The cells of entries. -/
def ec (E : List M.Ent) : List Value := E.flatMap (fun p => [.int .i64 p.1, .int .i64 p.2])
theorem ec_len (E : List M.Ent) : (ec E).length = E.length * 2 := by
  induction E with
  | nil => rfl
  | cons p E ih =>
    show ([Value.int .i64 p.1, Value.int .i64 p.2] ++ ec E).length = _
    rw [List.length_append, ih]
    simp
    omega
theorem ec_app (E F : List M.Ent) : ec (E ++ F) = ec E ++ ec F := by simp [ec]
theorem ec_get {E : List M.Ent} : ∀ {i : Nat} {p : M.Ent}, E[i]? = some p → (ec E)[i * 2]? = some (.int .i64 p.1) ∧ (ec E)[i * 2 + 1]? = some (.int .i64 p.2) := by
  induction E with
  | nil => intro i p h; simp at h
  | cons q E ih =>
    intro i p h
    have e : ec (q :: E) = .int .i64 q.1 :: .int .i64 q.2 :: ec E := rfl
    rw [e]
    cases i with
    | zero =>
      simp at h
      subst h
      exact ⟨rfl, rfl⟩
    | succ i =>
      obtain ⟨h1, h2⟩ := ih (i := i) (p := p) (by simpa using h)
      rw [show (i + 1) * 2 = i * 2 + 1 + 1 by omega]
      exact ⟨by simpa using h1, by simpa using h2⟩
theorem ec_one {E : List M.Ent} {u : Value} (h : u ∈ ec E) : u.oneCell' = true := by
  unfold ec at h
  obtain ⟨p, _, hu⟩ := List.mem_flatMap.1 h
  simp at hu
  rcases hu with rfl | rfl <;> rfl
/-- Entries, as they are read. -/
def RowE (w : World) (a : Option Addr) (E : List M.Ent) : Prop := 0 < E.length → ∃ b off, a = some ⟨b, off, none⟩ ∧ ∀ (i : Nat) (p : M.Ent), E[i]? = some p → w.cell? ⟨b, off + i * 2, none⟩ = some (.int .i64 p.1) ∧ w.cell? ⟨b, off + i * 2 + 1, none⟩ = some (.int .i64 p.2)
/-- A slice's block. -/
def AtB (a : Option Addr) (k : Nat) : Prop := ∃ x, a = some x ∧ x.block = k
theorem RowE.but {F : Nat → Prop} {w w' : World} {a : Option Addr} {E : List M.Ent} (h : RowE w a E) (hb : But F w w') (hn : ∀ k, AtB a k → ¬ F k) : RowE w' a E := fun hl => by
  obtain ⟨b, off, ha, hc⟩ := h hl
  exact ⟨b, off, ha, fun i p hp => ⟨hb.cell (hn b ⟨_, ha, rfl⟩) (hc i p hp).1, hb.cell (hn b ⟨_, ha, rfl⟩) (hc i p hp).2⟩⟩
theorem RowE.take {w : World} {a : Option Addr} {E : List M.Ent} (h : RowE w a E) (k : Nat) : RowE w a (E.take k) := fun hl => by
  obtain ⟨b, off, ha, hc⟩ := h (by simp at hl; omega)
  refine ⟨b, off, ha, fun i p hp => hc i p ?_⟩
  rw [List.getElem?_take] at hp
  split at hp
  · exact hp
  · cases hp
theorem RowE.drop {w : World} {b off : Nat} {E : List M.Ent} (h : RowE w (some ⟨b, off, none⟩) E) (k : Nat) : RowE w (some ⟨b, off + k * 2, none⟩) (E.drop k) := fun hl => by
  obtain ⟨b', off', ha, hc⟩ := h (by simp at hl; omega)
  cases ha
  refine ⟨b, off + k * 2, rfl, fun i p hp => ?_⟩
  rw [List.getElem?_drop] at hp
  have := hc (k + i) p hp
  rw [show off + k * 2 + i * 2 = off + (k + i) * 2 by omega]
  exact this
/-- The document's wheel: its block, its entries' slice. -/
structure Rm (w : World) (gr : Nat) (a : Option Addr) (c : Nat) (clock : Int) (E : List M.Ent) : Prop where
  blk : Blk w gr 29 #[.int .i64 clock, .slice a E.length c]
  row : RowE w a E
  cap : E.length ≤ c
  big : c ≤ maxLen
  nil : a = none → c = 0
  ap : ¬ AtB a gr
  lt : ∀ k, AtB a k → k < w.heap.size
  sp : ∀ x, a = some x → x.spot = none
/-- The document's wheel, and its blocks. -/
structure Rf (w : World) (gr : Nat) (G : Nat → Prop) (clock : Int) (E : List M.Ent) : Prop where
  ex : ∃ a c, Rm w gr a c clock E ∧ G gr ∧ ∀ k, AtB a k → G k
  lt : ∀ k, G k → k < w.heap.size
theorem Rm.but {F : Nat → Prop} {w w' : World} {gr : Nat} {a : Option Addr} {c : Nat} {clock : Int} {E : List M.Ent} (h : Rm w gr a c clock E) (hb : But F w w') (hn : ¬ F gr) (hn' : ∀ k, AtB a k → ¬ F k) : Rm w' gr a c clock E :=
  ⟨h.blk.but hb hn, h.row.but hb hn', h.cap, h.big, h.nil, h.ap, fun k hk => Nat.lt_of_lt_of_le (h.lt k hk) hb.size, h.sp⟩
theorem Rf.but {F G : Nat → Prop} {w w' : World} {gr : Nat} {clock : Int} {E : List M.Ent} (h : Rf w gr G clock E) (hb : But F w w') (hn : ∀ k, G k → ¬ F k) : Rf w' gr G clock E := by
  obtain ⟨a, c, h1, h2, h3⟩ := h.ex
  exact ⟨⟨a, c, h1.but hb (hn gr h2) (fun k hk => hn k (h3 k hk)), h2, h3⟩, fun k hk => Nat.lt_of_lt_of_le (h.lt k hk) hb.size⟩
theorem Rf.below {G : Nat → Prop} {w w' : World} {gr : Nat} {clock : Int} {E : List M.Ent} (h : Rf w gr G clock E) (hb : Below w.heap.size w w') : Rf w' gr G clock E := h.but (But.of_below hb (fun _ => False)) (fun _ _ x => x)
/-- The place of a number. -/
def fnd : List M.Ent → Int → Nat
  | [], _ => 0
  | p :: E, id => if p.1 = id then 0 else fnd E id + 1
theorem fnd_le (E : List M.Ent) (id : Int) : fnd E id ≤ E.length := by
  induction E with
  | nil => simp [fnd]
  | cons p E ih => unfold fnd; split <;> simp <;> omega
theorem fnd_some {E : List M.Ent} {id : Int} (h : fnd E id < E.length) : ∃ p, E[fnd E id]? = some p ∧ p.1 = id ∧ M.tm E id = some p.2 := by
  induction E with
  | nil => simp [fnd] at h
  | cons p E ih =>
    unfold fnd at h ⊢
    by_cases e : p.1 = id
    · rw [if_pos e]
      exact ⟨p, rfl, e, by simp [M.tm, e]⟩
    · rw [if_neg e] at h ⊢
      obtain ⟨q, h1, h2, h3⟩ := ih (by simpa using h)
      refine ⟨q, by simpa using h1, h2, ?_⟩
      unfold M.tm at h3 ⊢
      rw [List.find?_cons_of_neg (by simpa using e)]
      exact h3
theorem fnd_none {E : List M.Ent} {id : Int} (h : fnd E id = E.length) : M.tm E id = none := by
  induction E with
  | nil => rfl
  | cons p E ih =>
    unfold fnd at h
    by_cases e : p.1 = id
    · rw [if_pos e] at h; simp at h
    · rw [if_neg e] at h
      have := ih (by simpa using h)
      unfold M.tm at this ⊢
      rw [List.find?_cons_of_neg (by simpa using e)]
      exact this
theorem fnd_at {E : List M.Ent} {id : Int} : ∀ {k : Nat} {p : M.Ent}, k ≤ fnd E id → E[k]? = some p → (p.1 = id ↔ k = fnd E id) := by
  induction E with
  | nil => intro k p _ h; simp at h
  | cons q E ih =>
    intro k p hk hp
    unfold fnd at hk ⊢
    by_cases e : q.1 = id
    · rw [if_pos e] at hk ⊢
      have : k = 0 := by omega
      subst this
      simp at hp
      subst hp
      exact ⟨fun _ => rfl, fun _ => e⟩
    · rw [if_neg e] at hk ⊢
      cases k with
      | zero =>
        simp at hp
        subst hp
        exact ⟨fun x => absurd x e, fun x => by omega⟩
      | succ k =>
        have := ih (k := k) (p := p) (by omega) (by simpa using hp)
        rw [this]
        omega
theorem fnd_drop {E : List M.Ent} (hE : M.Ok E) {id : Int} (h : fnd E id < E.length) : E.take (fnd E id) ++ E.drop (fnd E id + 1) = M.dropE E id := by
  obtain ⟨p, h1, h2, _⟩ := fnd_some h
  have hs : E = E.take (fnd E id) ++ p :: E.drop (fnd E id + 1) := by
    have := List.take_append_drop (fnd E id) E
    rw [List.drop_eq_getElem_cons h, (List.getElem?_eq_some_iff.1 h1).2] at this
    exact this.symm
  have hi := hE.ids
  rw [hs, List.pairwise_append] at hi
  obtain ⟨_, k2, k3⟩ := hi
  obtain ⟨k4, _⟩ := List.pairwise_cons.1 k2
  conv => rhs; rw [hs]
  unfold M.dropE
  rw [List.filter_append, List.filter_cons_of_neg (by simp [h2]), List.filter_eq_self.2 (fun q hq => by
    have := k3 q hq p (by simp)
    rw [h2] at this
    simpa using this), List.filter_eq_self.2 (fun q hq => by
    have := k4 q hq
    rw [h2] at this
    simpa using fun x => this x.symm)]
/-- What find answers. -/
def fndR (E : List M.Ent) (id : Int) : Int := if fnd E id < E.length then (fnd E id : Int) else -1
set_option maxHeartbeats 2000000 in
theorem find_any (w : World) (gr : Nat) (a : Option Addr) (c : Nat) (clock : Int) (E : List M.Ent) (h : Rm w gr a c clock E) (hl : E.length ≤ 1024) (id : Int) :
    Calls Try.prog 37 #[.pointer (some ⟨gr, 0, none⟩), .int .i64 id] w fun e w' => e = .returned (.int .i64 (fndR E id)) ∧ w' = w := by
  have c1 := h.blk.cell 1 _ rfl
  have hrow := hidW h.row
  obtain ⟨R, hR⟩ : ∃ R, fndR E id = R := ⟨_, rfl⟩
  rw [hR]
  have HR := hidW hR
  have hle := fnd_le E id
  obtain ⟨N, hN⟩ : ∃ N, fnd E id = N := ⟨_, rfl⟩
  have HN := hidW hN
  rw [hN] at hle
  clear h hR hN
  go_enter Try.func37, Try.ntmps37
  go_wp2
  go_loopw [5] (fun i wr => wr = w ∧ ∃ k : Nat, k ≤ N ∧ i = .int .i64 k) (fun i _ => E.length - (intOf i).toNat)
  case atStart => exact ⟨rfl, 0, by omega, rfl⟩
  case round =>
    obtain ⟨rfl, k, hk, rfl⟩ := hrel
    by_cases hlt : k < E.length
    · obtain ⟨p, hp⟩ : ∃ p, E[k]? = some p := ⟨_, List.getElem?_eq_getElem hlt⟩
      obtain ⟨b, off, rfl, hc⟩ := hrow.out (by omega)
      have c2 := (hc k p hp).1
      have i1 : (↑k : Int) < ↑E.length := by omega
      have i0 : (0 : Int) ≤ ↑k := by omega
      have hf := fnd_at (id := id) (k := k) (p := p) (by rw [HN.out]; exact hk) hp
      rw [HN.out] at hf
      by_cases e : p.1 = id
      · have ek := hf.1 e
        have eR : Hid ((k : Int) = R) := by
          have := HR.out
          unfold fndR at this
          rw [HN.out, if_pos (by omega)] at this
          rw [← this, ek]; exact rfl
        have hb : (p.1 == id) = true := by simpa using e
        clear hf ek hc HR
        go_wp2
        go_ret
        exact ⟨by rw [← eR.out]; rfl, rfl⟩
      · have ek : k ≠ N := fun x => e (hf.2 x)
        have hb : (p.1 == id) = false := by simpa using e
        have hk1 : k + 1 ≤ N := by omega
        clear hf ek hc HR
        go_wp2
        exact ⟨⟨by trivial, k + 1, hk1, int_eq (by omega)⟩, by simp [intOf] <;> omega⟩
    · have i1 : ¬ (↑k : Int) < ↑E.length := by omega
      have eR : Hid ((-1 : Int) = R) := by
        have := HR.out
        unfold fndR at this
        rw [HN.out, if_neg (by omega)] at this
        exact this
      clear HR
      go_wp2
      go_ret
      exact ⟨by rw [← eR.out]; rfl, rfl⟩
set_option maxHeartbeats 2000000 in
theorem rtime_any (w : World) (gr : Nat) (G : Nat → Prop) (clock : Int) (E : List M.Ent) (h : Rf w gr G clock E) (hl : E.length ≤ 1024) (id : Int) :
    Calls Try.prog 26 #[.pointer (some ⟨gr, 0, none⟩), .int .i64 id] w fun e w' => e = .returned (.tuple #[.int .i64 ((M.tm E id).getD 0), .bool (M.tm E id).isSome]) ∧ w' = w := by
  obtain ⟨a, c, hm, _, _⟩ := h.ex
  have K := hidW (find_any w gr a c clock E hm hl id)
  have c1 := hm.blk.cell 1 _ rfl
  have hle := fnd_le E id
  unfold fndR at K
  by_cases hf : fnd E id < E.length
  · obtain ⟨p, h1, h2, h3⟩ := fnd_some hf
    rw [if_pos hf] at K
    rw [h3]
    obtain ⟨b, off, rfl, hc⟩ := hm.row (by omega)
    have c2 := (hc _ p h1).2
    generalize fnd E id = n at *
    have i0 : (0 : Int) ≤ ↑n := by omega
    have i1 : (↑n : Int) < ↑E.length := by omega
    have i2 : ¬ (↑n : Int) < 0 := by omega
    clear hm hc h
    go_enter Try.func26, Try.ntmps26
    go_wp2_with fail
    refine Calls.mono K.out ?_
    rintro e w' ⟨rfl, rfl⟩
    go_wp2
    go_ret2
    exact ⟨rfl, rfl⟩
  · rw [if_neg hf] at K
    rw [fnd_none (by omega)]
    clear hm h hf
    go_enter Try.func26, Try.ntmps26
    go_wp2_with fail
    refine Calls.mono K.out ?_
    rintro e w' ⟨rfl, rfl⟩
    go_wp2
    go_ret2
    exact ⟨rfl, rfl⟩
set_option maxHeartbeats 2000000 in
theorem rnext_any (w : World) (gr : Nat) (G : Nat → Prop) (clock : Int) (E : List M.Ent) (h : Rf w gr G clock E) (hl : E.length ≤ 1024) :
    Calls Try.prog 27 #[.pointer (some ⟨gr, 0, none⟩)] w fun e w' => e = .returned (.tuple #[.int .i64 (nextT E), .bool E.head?.isSome]) ∧ w' = w := by
  obtain ⟨a, c, hm, _, _⟩ := h.ex
  have c1 := hm.blk.cell 1 _ rfl
  cases E with
  | nil =>
    show Calls _ _ _ _ fun e w' => e = .returned (.tuple #[.int .i64 0, .bool false]) ∧ w' = w
    clear hm h
    go_enter Try.func27, Try.ntmps27
    go_wp2
    go_ret2
    exact ⟨rfl, rfl⟩
  | cons p E =>
    show Calls _ _ _ _ fun e w' => e = .returned (.tuple #[.int .i64 p.2, .bool true]) ∧ w' = w
    obtain ⟨b, off, rfl, hc⟩ := hm.row (by simp)
    have c2 := (hc 0 p rfl).2
    have hz : ((((p :: E).length : Nat) : Int) == 0) = false := by simp <;> omega
    have hp : (0 : Int) < (((p :: E).length : Nat) : Int) := by simp <;> omega
    clear hm hc h
    generalize (p :: E).length = n at *
    go_enter Try.func27, Try.ntmps27
    go_wp2
    go_ret2
    exact ⟨rfl, rfl⟩
end Go.Proofs.Ytfcpjenlckkloaa
