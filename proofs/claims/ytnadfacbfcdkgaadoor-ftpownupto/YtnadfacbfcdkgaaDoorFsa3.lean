/- Texts joined: Grp -/
import Derived.Test.YtnadfacbfcdkgaaDoorFsa1
import Derived.Test.YtnadfacbfcdkgaaDoorFsa2
import Derived.Test.YtnadfacbfcdkgaaDoorShelf
import Derived.Lib.Split
namespace Go.Proofs.YtnadfacbfcdkgaaDoor
open Go.RowKit
set_option linter.unusedVariables false
set_option linter.unusedSimpArgs false
theorem split_sizes (sep : ByteArray) : ∀ (k : Nat) (s x : ByteArray), x ∈ Lib.splitB sep 0 k s → x.size ≤ s.size
  | 0, s, x, h => by simp [Lib.splitB] at h; rw [h]; exact Nat.le_refl _
  | k + 1, s, x, h => by
    unfold Lib.splitB at h
    split at h
    · simp at h; rw [h]; exact Nat.le_refl _
    · rcases List.mem_cons.1 h with rfl | h
      · simp [ByteArray.size_extract]; omega
      · have := split_sizes sep k _ x h
        simp [ByteArray.size_extract] at this
        omega
theorem owns_down {w : World} {B B' : Nat} {v : Value} {l : List Int} (h : B' ≤ B) (o : Owns w B v l) : Owns w B' v l := by
  obtain ⟨h1, h2⟩ := o
  refine ⟨h1, ?_⟩
  rcases h2 with h2 | ⟨g, cap, cur, h3, h4, h5⟩
  · exact .inl h2
  · exact .inr ⟨g, cap, cur, h3, Nat.le_trans h h4, h5⟩
theorem owns_room' {w : World} {B : Nat} {a : Option Addr} {c : Nat} {l : List Int} (o : Owns w B (.slice a l.length c) l) : l.length ≤ c ∧ (a = none → c = 0) := by
  obtain ⟨a0, c0, e0, h1, h2, _⟩ := o.form
  simp only [Value.slice.injEq] at e0
  obtain ⟨rfl, _, rfl⟩ := e0
  exact ⟨h1, h2⟩
/-- The words of a text in memory. -/
theorem cells_words (w : World) (ws : List ByteArray) (N : Nat) (t : TypeId) (j : Nat) (hj : j < ws.length) :
    (w.alloc (.cells (Lib.cellsOf ws N) t)).cell? ⟨w.heap.size, j, none⟩ = some (.string (ws[j]'hj)) := by
  rw [World.cell?_alloc_new]
  simp only [Lib.cellsOf, List.getElem?_toArray]
  rw [List.getElem?_append_left (by simpa using hj)]
  simp [hj]
/-- The bytes of groups. -/
def gsGo : List (List UInt8) → List Int → Option (List Int)
  | [], acc => some acc
  | x :: xs, acc => if (grp x).2 = true then gsGo xs (acc ++ [(grp x).1 / 256, (grp x).1 % 256]) else none
def gs (s : List UInt8) : Option (List Int) := if s = [] then some [] else gsGo (Lib.splitK [58] 0 (min 9 (s.length + 1) - 1) s) []
/-- The bytes of numbers. -/
def qsGo : List (List UInt8) → List Int → Option (List Int)
  | [], acc => some acc
  | x :: xs, acc => if (num 255 x).2 = true then qsGo xs (acc ++ [(num 255 x).1]) else none
def p4 (s : List UInt8) : Option (List Int) := if (Lib.splitK [46] 0 (min 5 (s.length + 1) - 1) s).length = 4 then qsGo (Lib.splitK [46] 0 (min 5 (s.length + 1) - 1) s) [] else none
theorem hexGo_lt : ∀ (l : List UInt8) (i k n : Nat), i ≤ 4 → k < 16 ^ i → hexGo l i k = some n → n < 65536
  | [], i, k, n, hi, hk, h => by
    simp [hexGo] at h
    subst h
    exact Nat.lt_of_lt_of_le hk (Nat.pow_le_pow_right (n := 16) (by decide) hi)
  | c :: cs, i, k, n, hi, hk, h => by
    unfold hexGo at h
    split at h
    · cases h
    · next d hd =>
      split at h
      · cases h
      · have := hexv_le hd
        exact hexGo_lt cs (i + 1) (k * 16 + d) n (by omega) (by rw [Nat.pow_succ]; omega) h
theorem grp_bd (s : List UInt8) : 0 ≤ (grp s).1 ∧ (grp s).1 ≤ 65535 := by
  unfold grp
  split
  · decide
  · cases h : hexGo s 0 0 with
    | none => decide
    | some n => have := hexGo_lt s 0 0 n (by omega) (by decide) h; simp [tell]; omega
theorem numGo_le (most : Nat) : ∀ (l : List UInt8) (k n : Nat) (b : Bool), k ≤ most → numGo most l k b = some n → n ≤ most
  | [], k, n, b, hk, h => by simp [numGo] at h; omega
  | c :: cs, k, n, b, hk, h => by
    unfold numGo at h
    split at h
    · cases h
    · split at h
      · cases h
      · exact numGo_le most cs _ n true (by omega) h
theorem num_bd (most : Nat) (s : List UInt8) : 0 ≤ (num most s).1 ∧ (num most s).1 ≤ most := by
  unfold num
  split
  · simp
  · cases h : numGo most s 0 false with
    | none => simp [tell]
    | some n => have := numGo_le most s 0 n false (by omega) h; simp [tell]; omega
/-- What a reader of bytes answers: none, or bytes of its own. -/
def GotBytes (w : World) (T : Option (List Int)) (e : Ending) (w' : World) : Prop := match T with
  | none => e = .returned (.tuple #[.slice none 0 0, .bool false]) ∧ Below w.heap.size w w'
  | some l => ∃ a c, e = .returned (.tuple #[.slice a l.length c, .bool true]) ∧ Fresh w w' a c l ∧ l.length ≤ 18
set_option maxHeartbeats 1000000 in
theorem groups_any (s : ByteArray) (w : World) (m : Int) (hs : s.size < 4294967281) (hm : w.cell? ⟨0, 0, none⟩ = some (.int .i64 m)) :
    Calls Tryd.prog 59 #[.string s] w (GotBytes w (gs s.data.toList)) := by
  by_cases h0 : s = ByteArray.empty
  · subst h0
    have e0 : gs ByteArray.empty.data.toList = some [] := rfl
    rw [e0]
    go_enter Tryd.func59, Tryd.ntmps59
    go_wp2
    go_ret2
    exact ⟨none, 0, rfl, ⟨Owns.nil _ _, Nat.le_refl _, fun _ => rfl, ⟨by simp, M.Bytes.nil, fun h => by simp at h⟩, Below.refl _ _⟩, by simp⟩
  · have h1 : s.data.toList ≠ [] := fun e => h0 (by
      cases s with
      | mk d => cases d with
        | mk l => simp at e; subst e; rfl)
    obtain ⟨T, hT⟩ : ∃ T, gs s.data.toList = T := ⟨_, rfl⟩
    rw [hT]
    obtain ⟨ws, hws⟩ : ∃ ws, Lib.splitB (ByteArray.mk #[58]) 0 (min 9 (s.size + 1) - 1) s = ws := ⟨_, rfl⟩
    have hlen : ws.length ≤ 9 := by rw [← hws]; have := Lib.splitB_length_le (ByteArray.mk #[58]) 0 (min 9 (s.size + 1) - 1) s; omega
    have hsz : ∀ x ∈ ws, x.size ≤ 9223372036854775807 := fun x hx => by have := split_sizes _ _ _ x (hws ▸ hx); omega
    have HT : Hid (gsGo (ws.map (·.data.toList)) [] = T) := by
      show _ = _
      rw [← hT, ← hws, Lib.splitB_data, gs, if_neg h1]
      have : s.data.toList.length = s.size := Array.length_toList
      rw [this]
    have hsp := fun w hm => Tryd.strings_SplitN s (ByteArray.mk #[58]) 9 m w hs hm (by decide) (by decide) (by decide)
    rw [hws] at hsp
    clear hT hws
    have he : s.toList.isEmpty = false := by
      rw [ByteArray.toList_eq]
      cases hh : s.data.toList with
      | nil => exact absurd hh h1
      | cons _ _ => rfl
    generalize hN : min 9 (s.size + 1) = N at hsp
    go_enter Tryd.func59, Tryd.ntmps59
    go_wp2_with (go_at_call 39; refine (hsp _ hm).mono ?_; rintro e w' ⟨rfl, rfl⟩)
    obtain ⟨w1, hw1⟩ : ∃ w1, w.alloc (.cells (Lib.cellsOf ws N) 9) = w1 := ⟨_, rfl⟩
    rw [hw1]
    have hcells : ∀ (j : Nat) (hj : j < ws.length), w1.cell? ⟨w.heap.size, j, none⟩ = some (.string (ws[j]'hj)) := fun j hj => by rw [← hw1]; exact cells_words w ws N _ j hj
    have b1 : Below w.heap.size w w1 := by rw [← hw1]; exact (Below.refl _ _).alloc (Nat.le_refl _) _
    have z1 : w.heap.size < w1.heap.size := by rw [← hw1]; simp
    clear hw1 hsp hN hm h0 h1 he
    go_loopw [4, 14] (fun b i w' => ∃ (k : Nat) (l : List Int) (a : Option Addr) (c : Nat), k ≤ ws.length ∧ i = .int .i64 k ∧ b = .slice a l.length c ∧ l.length ≤ 2 * k ∧ M.Bytes l ∧ Owns w' w1.heap.size (.slice a l.length c) l ∧ Below w1.heap.size w1 w' ∧ Hid (gsGo ((ws.drop k).map (·.data.toList)) l = T)) (fun _ i _ => ws.length - (intOf i).toNat)
    case atStart => exact ⟨0, [], none, 0, Nat.zero_le _, rfl, rfl, Nat.le_refl _, M.Bytes.nil, Owns.nil _ _, Below.refl _ _, HT⟩
    case round =>
      obtain ⟨k, l, a, c, hk, rfl, rfl, hl, hby, own, bel, hr⟩ := hrel
      by_cases hlt : k < ws.length
      · have hc := kept bel (hcells k hlt)
        have hr1 := hr.out
        rw [List.drop_eq_getElem_cons hlt, List.map_cons] at hr1
        have hx := hsz _ (List.getElem_mem hlt)
        generalize ws[k] = x at hc hr1 hx
        have hbd := grp_bd x.data.toList
        have hg := fun w => group_any x w hx
        unfold gsGo at hr1
        generalize hgd : grp x.data.toList = g at *
        obtain ⟨n, ok⟩ := g
        simp only at hr1 hbd hg
        have HQ : Hid ((if ok = true then gsGo ((ws.drop (k + 1)).map (·.data.toList)) (l ++ [n / 256, n % 256]) else none) = T) := hr1
        have ilt : (k : Int) < (ws.length : Int) := by omega
        clear hr hr1 hgd
        have rn : Row wr a l := own.row (by omega) hby
        cases ok with
        | false =>
          obtain rfl : T = none := by have := HQ.out; simpa using this.symm
          go_wp2_with (go_at_call 64; refine (hg _).mono ?_; rintro e w' ⟨rfl, b2⟩)
          go_ret2
          exact ⟨rfl, b1.trans ((bel.mono (by omega)).trans (b2.mono (by have := bel.size; omega)))⟩
        | true =>
          obtain ⟨r, hr⟩ : ∃ r, l ++ [n / 256, n % 256] = r := ⟨_, rfl⟩
          have hrl : r.length ≤ 2 * (k + 1) := by rw [← hr]; simp; omega
          have hq : Hid (gsGo ((ws.drop (k + 1)).map (·.data.toList)) r = T) := by have := HQ.out; rw [if_pos rfl, hr] at this; exact this
          have HR : Hid (l ++ [n / 256, n % 256] = r) := hr
          have hrb : M.Bytes r := by rw [← hr]; exact hby.app (fun z hz => by simp at hz; omega)
          clear hr HQ
          go_wp2_with fail
          refine (hg _).mono ?_
          rintro e w2 ⟨rfl, b2⟩
          have z2 : w1.heap.size ≤ w2.heap.size := by have := bel.size; have := b2.size; omega
          have bel2 : Below w1.heap.size w1 w2 := bel.trans (b2.mono (by have := bel.size; omega))
          go_wp2_with (at_builtin; refine wpList_app2 _ rfl _ _ rfl w1.heap.size _ l rfl ((own.below b2).alloc _) hby _ 2 [n / 256, n % 256] rfl ?row (fun hh => by cases hh) r HR.out ?c1 ?c2 ?_)
          case row =>
            refine row_at _ 5 [n / 256, n % 256] _ (by first | rfl | simp) (by simp) ?_
            intro z hz
            simp at hz
            omega
          case c1 => omega
          case c2 => simp; omega
          intro a3 c3 w3 o3 hc3 hn3 r3 b3 _
          go_wp2
          exact ⟨⟨k + 1, r, a3, c3, by omega, int_eq (by omega), rfl, hrl, hrb, o3, (bel2.alloc z2 _).trans b3, hq⟩, by simp [intOf]; omega⟩
      · have ek : k = ws.length := by omega
        have ilt : ¬ (k : Int) < (ws.length : Int) := by omega
        obtain rfl : T = some l := by
          have := hr.out
          rw [ek, List.drop_length] at this
          exact this.symm
        clear ek
        have rm := owns_room' own
        go_wp2
        go_ret2
        exact ⟨a, c, rfl, ⟨owns_down (by omega) own, rm.1, rm.2, own.row (by omega) hby, b1.trans (bel.mono (by omega))⟩, by omega⟩
set_option maxRecDepth 100000 in
set_option maxHeartbeats 1000000 in
theorem parse4_any (s : ByteArray) (w : World) (m : Int) (hs : s.size < 4294967281) (hm : w.cell? ⟨0, 0, none⟩ = some (.int .i64 m)) :
    Calls Tryd.prog 51 #[.string s] w (GotBytes w (p4 s.data.toList)) := by
  obtain ⟨i0, hi, hz0, hz1, hz2⟩ := info_parts info_u8
  obtain ⟨T, hT⟩ : ∃ T, p4 s.data.toList = T := ⟨_, rfl⟩
  rw [hT]
  obtain ⟨ws, hws⟩ : ∃ ws, Lib.splitB (ByteArray.mk #[46]) 0 (min 5 (s.size + 1) - 1) s = ws := ⟨_, rfl⟩
  have hsz : ∀ x ∈ ws, x.size ≤ 9223372036854775807 := fun x hx => by have := split_sizes _ _ _ x (hws ▸ hx); omega
  have HT : Hid ((if ws.length = 4 then qsGo (ws.map (·.data.toList)) [] else none) = T) := by
    show _ = _
    have e1 : s.data.toList.length = s.size := Array.length_toList
    have e2 := Lib.splitB_data (ByteArray.mk #[46]) 0 (min 5 (s.size + 1) - 1) s
    rw [hws] at e2
    rw [← hT, p4, e1]
    show _ = if (Lib.splitK (ByteArray.mk #[46]).data.toList 0 _ _).length = 4 then qsGo (Lib.splitK (ByteArray.mk #[46]).data.toList 0 _ _) [] else none
    rw [← e2, List.length_map]
  have hsp := fun w hm => Tryd.strings_SplitN s (ByteArray.mk #[46]) 5 m w hs hm (by decide) (by decide) (by decide)
  rw [hws] at hsp
  clear hT hws
  generalize hN : min 5 (s.size + 1) = N at hsp
  go_enter Tryd.func51, Tryd.ntmps51
  by_cases h4 : ws.length = 4
  · rw [if_pos h4] at HT
    have L4 : Hid (ws.length = 4) := h4
    clear h4
    have h4a : ((ws.length : Int) == 4) = true := by simp [L4.out]
    go_wp2_with (first
      | (go_at_call 39; refine (hsp _ hm).mono ?_; rintro e w' ⟨rfl, rfl⟩)
      | (at_make; refine wpList_make_own _ rfl _ _ 22 rfl (w.heap.size + 1) 5 i0 (.int .u8 0) 1 Tryd.underlying22 hi hz0 hz1 _ _ _ 4 rfl rfl (by omega) (by rw [hz2]; omega) (by unfold maxLen; omega) (by simp) ?_; intro w2 ho2 hg2))
    have b2 : Below (w.alloc (.cells (Lib.cellsOf ws N) 9)).heap.size (w.alloc (.cells (Lib.cellsOf ws N) 9)) w2 := (Below.refl _ _).grown hg2 (Nat.le_refl _) (fun k hk => by cases hk)
    have hcells : ∀ (j : Nat) (hj : j < ws.length), w2.cell? ⟨w.heap.size, j, none⟩ = some (.string (ws[j]'hj)) := fun j hj => kept b2 (cells_words w ws N _ j hj)
    have bw : Below w.heap.size w w2 := ((Below.refl _ _).alloc (Nat.le_refl _) _).trans (b2.mono (by simp))
    have z2 : w.heap.size < w2.heap.size := by have := b2.size; simp at this; omega
    have hlen : ws.length ≤ 4 := by rw [L4.out]; exact Nat.le_refl _
    replace ho2 : Owns w2 (w.heap.size + 1) (.slice (some ⟨w.heap.size + 1, 0, none⟩) ([] : List Int).length 4) [] := by simpa [Owns] using ho2
    clear hsp hN hm b2 hg2 hi hz0 hz1 hz2 h4a
    go_loopw [5, 18] (fun b i w' => ∃ (k : Nat) (l : List Int) (a : Option Addr) (c : Nat), k ≤ ws.length ∧ i = .int .i64 k ∧ b = .slice a l.length c ∧ l.length ≤ k ∧ M.Bytes l ∧ Owns w' (w.heap.size + 1) (.slice a l.length c) l ∧ Below (w.heap.size + 1) w2 w' ∧ Hid (qsGo ((ws.drop k).map (·.data.toList)) l = T)) (fun _ i _ => ws.length - (intOf i).toNat)
    case atStart => exact ⟨0, [], _, 4, Nat.zero_le _, rfl, rfl, Nat.le_refl _, M.Bytes.nil, ho2, Below.refl _ _, HT⟩
    case round =>
      obtain ⟨k, l, a, c, hk, rfl, rfl, hl, hby, own, bel, hr⟩ := hrel
      have zr := bel.size
      by_cases hlt : k < ws.length
      · have hc : wr.cell? ⟨w.heap.size, k, none⟩ = some (.string (ws[k]'hlt)) := (bel.cell (p := ⟨w.heap.size, k, none⟩) (by simp)).trans (hcells k hlt)
        have hr1 := hr.out
        rw [List.drop_eq_getElem_cons hlt, List.map_cons] at hr1
        have hx := hsz _ (List.getElem_mem hlt)
        generalize ws[k] = x at hc hr1 hx
        have hbd := num_bd 255 x.data.toList
        have hg := fun w => number_any x 255 w hx (by omega)
        unfold qsGo at hr1
        generalize hgd : num 255 x.data.toList = g at *
        obtain ⟨n, ok⟩ := g
        simp only at hr1 hbd hg
        have HQ : Hid ((if ok = true then qsGo ((ws.drop (k + 1)).map (·.data.toList)) (l ++ [n]) else none) = T) := hr1
        have ilt : (k : Int) < (ws.length : Int) := by omega
        clear hr hr1 hgd
        cases ok with
        | false =>
          obtain rfl : T = none := by have := HQ.out; simpa using this.symm
          go_wp2_with (go_at_call 58; refine (hg _).mono ?_; rintro e w' ⟨rfl, b3⟩)
          go_ret2
          exact ⟨rfl, bw.trans ((bel.mono (by omega)).trans (b3.mono (by omega)))⟩
        | true =>
          obtain ⟨r, hr⟩ : ∃ r, l ++ [n] = r := ⟨_, rfl⟩
          have hrl : r.length ≤ k + 1 := by rw [← hr]; simp; omega
          have hq : Hid (qsGo ((ws.drop (k + 1)).map (·.data.toList)) r = T) := by have := HQ.out; rw [if_pos rfl, hr] at this; exact this
          have HR : Hid (l ++ [n] = r) := hr
          have hrb : M.Bytes r := by rw [← hr]; exact hby.app (fun z hz => by simp at hz; omega)
          clear hr HQ
          go_wp2_with fail
          refine (hg _).mono ?_
          rintro e w3 ⟨rfl, b3⟩
          have z3 := b3.size
          have bel2 : Below (w.heap.size + 1) w2 w3 := bel.trans (b3.mono (by omega))
          go_wp2_with (at_builtin; refine wpList_app2 _ rfl _ _ rfl (w.heap.size + 1) _ l rfl ((own.below b3).alloc _) hby _ 1 [n] rfl ?row (fun hh => by cases hh) r HR.out ?c1 ?c2 ?_)
          case row =>
            refine row_at _ 5 [n] _ (by first | rfl | simp) (by simp) ?_
            intro z hz
            simp at hz
            omega
          case c1 => omega
          case c2 => simp; omega
          intro a4 c4 w4 o4 hc4 hn4 r4 b4 _
          go_wp2
          exact ⟨⟨k + 1, r, a4, c4, by omega, int_eq (by omega), rfl, hrl, hrb, o4, (bel2.alloc (by omega) _).trans b4, hq⟩, by simp [intOf]; omega⟩
      · have ek : k = ws.length := by omega
        have ilt : ¬ (k : Int) < (ws.length : Int) := by omega
        obtain rfl : T = some l := by
          have := hr.out
          rw [ek, List.drop_length] at this
          exact this.symm
        clear ek
        have rm := owns_room' own
        go_wp2
        go_ret2
        exact ⟨a, c, rfl, ⟨owns_down (by omega) own, rm.1, rm.2, own.row (by omega) hby, bw.trans (bel.mono (by omega))⟩, by omega⟩
  · have h4a : ((ws.length : Int) == 4) = false := by simp; omega
    obtain rfl : T = none := by have := HT.out; rw [if_neg h4] at this; exact this.symm
    go_wp2_with (go_at_call 39; refine (hsp _ hm).mono ?_; rintro e w' ⟨rfl, rfl⟩)
    go_ret2
    exact ⟨rfl, (Below.refl _ _).alloc (Nat.le_refl _) _⟩
end Go.Proofs.YtnadfacbfcdkgaaDoor
