/- Texts joined: WiB -/
import Derived.Test.YtbghilihccaaaaaTwz33
import Derived.Test.YtbghilihccaaaaaTwz39
import Derived.Test.YtbghilihccaaaaaTwz49
namespace Go.Proofs.Ytbghilihccaaaaa
open Go.RowKit
set_option linter.unusedVariables false
set_option linter.unusedSimpArgs false
/-- What may be written: a fragment of family 4 or 6. -/
structure WOk (p : Pkt) : Prop where
  head : (p.f = 4 ∧ p.s = ⟨4, 0, 167772161⟩ ∧ p.d = ⟨4, 0, 3221225474⟩ ∧ p.pr = 99) ∨ (p.f = 6 ∧ p.s = ⟨6, 2306139568115548160, 1⟩ ∧ p.d = ⟨6, 2306139568115548161, 2⟩ ∧ p.pr = 59)
  ho : p.ho = 9
  fg : p.fg = true
  id : 0 ≤ p.id ∧ p.id ≤ 65535
  X : p.X = []
  off0 : 0 ≤ p.of
  off8 : p.of % 8 = 0
  over : p.of + p.dat.length ≤ 60000
  kind : p.mo = true ∨ p.of ≠ 0
  mult : p.mo = true → (p.dat.length : Int) % 8 = 0
/-- What wires answers. -/
def WGot (w : World) (p : Pkt) (e : Ending) (w' : World) : Prop :=
  ∃ xa xc X da dc, e = .returned (.tuple #[.agg (pkV { p with X := X } xa xc da dc), .bool true]) ∧ Row w' da p.dat ∧ (da = none → dc = 0) ∧ RowI w' xa X ∧ (xa = none → xc = 0) ∧ X = (if p.f = 6 then [44] else []) ∧ Below w.heap.size w w'
theorem ownsI_nil {w : World} {B : Nat} {a : Option Addr} {c : Nat} {l : List Int} (h : OwnsI w B (.slice a l.length c) l) : a = none → c = 0 := fun ha => by
  subst ha
  obtain ⟨_, h2⟩ := h
  rcases h2 with ⟨h3, _⟩ | ⟨g, cap, cur, h3, _⟩
  · simp only [Value.slice.injEq] at h3; exact h3.2.2
  · simp at h3
theorem build6_lenW (f : Int) (s d : Ad) (pr ho : Int) (fg : Bool) (id of : Int) (mo : Bool) (X dat : List Int) (hm : may6 f s.fam d.fam pr ho fg X of mo dat.length = true) : (build6 f s d pr ho fg id of mo X dat).length ≤ 70000 := by
  have h8 : dat.length ≤ 65000 := by
    unfold may6 at hm
    simp only [Bool.and_eq_true, decide_eq_true_eq] at hm
    exact hm.1.2
  unfold build6
  rw [if_pos hm, made6_eq]
  have h1 := bytes_le s
  have h2 := bytes_le d
  have h3 : (if fg = true then fh pr of mo id else []).length ≤ 8 := by
    split
    · simp [fh, put32, put16]
    · simp
  simp only [List.length_append, List.length_cons, List.length_nil]
  omega
theorem ow4 : Ad.ok ⟨4, 0, 167772161⟩ := by unfold Ad.ok; decide
theorem ow4' : Ad.ok ⟨4, 0, 3221225474⟩ := by unfold Ad.ok; decide
theorem ow6 : Ad.ok ⟨6, 2306139568115548160, 1⟩ := by unfold Ad.ok; decide
theorem ow6' : Ad.ok ⟨6, 2306139568115548161, 2⟩ := by unfold Ad.ok; decide
theorem whole59 (dat : List Int) : whole 59 dat = true := by
  have e : (wend (st0 59 dat true)) = (0, st0 59 dat true) := by rfl
  unfold whole
  rw [e]
  show (decide ((0 : Int) = 0) && decide (least 59 ≤ (dat.length : Int))) = true
  have : least 59 = 0 := by decide
  rw [this]
  simp
set_option maxRecDepth 100000 in
set_option maxHeartbeats 4000000 in
theorem wires4_any (id of : Int) (mo : Bool) (da : Option Addr) (dc : Nat) (dat : List Int) (w : World) (h : WOk ⟨4, ⟨4, 0, 167772161⟩, ⟨4, 0, 3221225474⟩, 99, 9, true, id, of, mo, [], dat⟩) (hd : Row w da dat) (hn : da = none → dc = 0) :
    Calls Try.prog 28 #[.agg (pkV ⟨4, ⟨4, 0, 167772161⟩, ⟨4, 0, 3221225474⟩, 99, 9, true, id, of, mo, [], dat⟩ none 0 da dc)] w (WGot w ⟨4, ⟨4, 0, 167772161⟩, ⟨4, 0, 3221225474⟩, 99, 9, true, id, of, mo, [], dat⟩) := by
  have h1 := h.id
  have h2 := h.off0
  have h3 := h.over
  simp only at h1 h2 h3
  have hsm := hd.small
  have hok : Pk.ok (⟨4, ⟨4, 0, 167772161⟩, ⟨4, 0, 3221225474⟩, 99, 9, true, id, of, mo, dat⟩ : Pk) := ⟨by simp, ow4, ow4', by simp, by simp, by simp only; omega, by simp only; omega, hd.bytes, by simp only; omega⟩
  have hm : May (⟨4, ⟨4, 0, 167772161⟩, ⟨4, 0, 3221225474⟩, 99, 9, true, id, of, mo, dat⟩ : Pk) := ⟨rfl, rfl, rfl, rfl, rfl, by simp, by simp, by simp only; omega, h2, h.off8, by simp only; omega, fun _ => h.kind, h.mult⟩
  have hbare : Pk.bare (⟨4, ⟨4, 0, 167772161⟩, ⟨4, 0, 3221225474⟩, 99, 9, true, id, of, mo, dat⟩ : Pk) = ⟨4, ⟨4, 0, 167772161⟩, ⟨4, 0, 3221225474⟩, 99, 9, true, id, of, mo, dat⟩ := rfl
  have hisb : Pk.isBare (⟨4, ⟨4, 0, 167772161⟩, ⟨4, 0, 3221225474⟩, 99, 9, true, id, of, mo, dat⟩ : Pk) := fun hh => by cases hh
  have kb := fun W hr => build_yes 4 4 0 167772161 4 0 3221225474 99 9 true id of mo none 0 da dat dc W hr hn hok hm
  rw [hbare] at kb
  have e0 := made_reads hm
  have e1 := made_pkt hm hok hisb
  have e2 : parsed (Pk.made (⟨4, ⟨4, 0, 167772161⟩, ⟨4, 0, 3221225474⟩, 99, 9, true, id, of, mo, dat⟩ : Pk)) = ⟨4, ⟨4, 0, 167772161⟩, ⟨4, 0, 3221225474⟩, 99, 9, true, id, of, mo, dat⟩ := by unfold parsed; rw [if_pos e0, e1]
  have hml := made_len hm
  generalize Pk.made (⟨4, ⟨4, 0, 167772161⟩, ⟨4, 0, 3221225474⟩, 99, 9, true, id, of, mo, dat⟩ : Pk) = L at *
  have hLl : L.length ≤ 70000 := by simp only at hml; omega
  clear hok hm hbare hisb e1 hml h
  obtain ⟨W1, hW1⟩ : ∃ W, w.alloc (.cells (pkV ⟨4, ⟨4, 0, 167772161⟩, ⟨4, 0, 3221225474⟩, 99, 9, true, id, of, mo, [], dat⟩ none 0 da dc) 42) = W := ⟨_, rfl⟩
  have B1 := blk_nw hW1
  have k1 := bel_nw hW1
  obtain ⟨W2, hW2⟩ : ∃ W, W1.alloc (.cells zIp 42) = W := ⟨_, rfl⟩
  have B2 := blk_nw hW2
  have k2 := bel_nw hW2
  have B12 := B1.kept k2
  have k12 := bel_tr k1 k2
  have c0 := B12.cell 0 (.int .i64 4) rfl
  have KB : Hid _ := kb W2 (hd.below k12)
  clear kb
  go_enter Try.func28, Try.ntmps28
  go_wp2_with (first
    | (refine wpList_load_row rfl _ _ rfl w.heap.size (by rfl) _ _ _ _ B12 Try.underlying42 rfl (by kernel_rfl) ?_))
  refine Calls.mono KB.out ?_
  rintro e W3 ⟨a3, c3, rfl, f3⟩
  have b03 := f3.below
  have kp := parse_any a3 c3 L W3 f3.row f3.nil (by omega) f3.room f3.owns.cap_le
  rw [e0, e2] at kp
  have KP : Hid _ := kp
  clear kp KB
  go_wp2_with fail
  refine Calls.mono KP.out ?_
  rintro e W4 ⟨a4, c4, rfl, f4⟩
  have b04 := f4.below
  have k4 : Below W2.heap.size W2 W4 := bel_tr b03 b04
  obtain ⟨W5, hW5⟩ : ∃ W, W4.alloc (.cells zIp 42) = W := ⟨_, rfl⟩
  have B5 := blk_nw hW5
  have k5 := bel_nw hW5
  obtain ⟨W6, hW6⟩ : ∃ W, W5.setRow W4.heap.size (pkV ⟨4, ⟨4, 0, 167772161⟩, ⟨4, 0, 3221225474⟩, 99, 9, true, id, of, mo, [], dat⟩ none 0 a4 c4) = W := ⟨_, rfl⟩
  have B6 : Blk W6 W4.heap.size 42 (pkV ⟨4, ⟨4, 0, 167772161⟩, ⟨4, 0, 3221225474⟩, 99, 9, true, id, of, mo, [], dat⟩ none 0 a4 c4) := by rw [← hW6]; exact B5.set _
  have k6 : Below W4.heap.size W4 W6 := by rw [← hW6]; exact below_setRow k5 (Nat.le_refl _) _
  have HW6 : Hid _ := hW6
  have B26 := B2.kept (bel_tr k4 k6)
  obtain ⟨W7, hW7⟩ : ∃ W, W6.setRow W1.heap.size (pkV ⟨4, ⟨4, 0, 167772161⟩, ⟨4, 0, 3221225474⟩, 99, 9, true, id, of, mo, [], dat⟩ none 0 a4 c4) = W := ⟨_, rfl⟩
  have B7 : Blk W7 W1.heap.size 42 (pkV ⟨4, ⟨4, 0, 167772161⟩, ⟨4, 0, 3221225474⟩, 99, 9, true, id, of, mo, [], dat⟩ none 0 a4 c4) := by rw [← hW7]; exact B26.set _
  have HW7 : Hid _ := hW7
  have kk : Below w.heap.size w W6 := bel_tr k12 (bel_tr k4 k6)
  have k7 : Below w.heap.size w W7 := by rw [← hW7]; exact below_setRow kk k1.size _
  have hne : W1.heap.size < W4.heap.size := Nat.lt_of_lt_of_le B2.lt k4.size
  have r7 : Row W7 a4 dat := by
    rw [← hW7]
    refine Row.but (F := fun k => k = W1.heap.size) (f4.row.below k6) ((But.refl (fun k => k = W1.heap.size) W6).setRow W1.heap.size (.inl rfl) _) (fun x hx h => ?_)
    have := (World.ownsRow.lt f4.owns x.block (by rw [hx]; rfl)).1
    have := b03.size
    have := B2.lt
    omega
  have n4 := f4.nil
  clear hW6 hW7 KP f3 f4 b03 b04 
  go_wp2_with (first
    | (refine wpList_store_row rfl _ _ _ rfl W4.heap.size (pkV ⟨4, ⟨4, 0, 167772161⟩, ⟨4, 0, 3221225474⟩, 99, 9, true, id, of, mo, [], dat⟩ none 0 a4 c4) (by rfl) (by rfl) _ _ B5 (by kernel_rfl) (by rfl) (by kernel_rfl) ?_; rw [HW6.out])
    | (refine wpList_load_row rfl _ _ rfl W4.heap.size (by rfl) _ _ _ _ B6 Try.underlying42 rfl (by kernel_rfl) ?_)
    | (refine wpList_store_row rfl _ _ _ rfl W1.heap.size (pkV ⟨4, ⟨4, 0, 167772161⟩, ⟨4, 0, 3221225474⟩, 99, 9, true, id, of, mo, [], dat⟩ none 0 a4 c4) (by rfl) (by rfl) _ _ B26 (by kernel_rfl) (by rfl) (by kernel_rfl) ?_; rw [HW7.out]))
  refine ret_cell_tmp _ Try.results28 B7 Try.underlying42 (by kernel_rfl) (by rfl) (by rfl) (by rfl) ?_
  exact ⟨none, 0, [], a4, c4, rfl, r7, n4, rowI_nil _ none, fun _ => rfl, rfl, k7⟩
set_option maxRecDepth 100000 in
set_option maxHeartbeats 4000000 in
theorem wires6_any (id of : Int) (mo : Bool) (da : Option Addr) (dc : Nat) (dat : List Int) (w : World) (h : WOk ⟨6, ⟨6, 2306139568115548160, 1⟩, ⟨6, 2306139568115548161, 2⟩, 59, 9, true, id, of, mo, [], dat⟩) (hd : Row w da dat) (hn : da = none → dc = 0) :
    Calls Try.prog 28 #[.agg (pkV ⟨6, ⟨6, 2306139568115548160, 1⟩, ⟨6, 2306139568115548161, 2⟩, 59, 9, true, id, of, mo, [], dat⟩ none 0 da dc)] w (WGot w ⟨6, ⟨6, 2306139568115548160, 1⟩, ⟨6, 2306139568115548161, 2⟩, 59, 9, true, id, of, mo, [], dat⟩) := by
  have h1 := h.id
  have h2 := h.off0
  have h3 := h.over
  simp only at h1 h2 h3
  have hsm := hd.small
  have hm : may6 6 6 6 59 9 true [] of mo dat.length = true := by
    have h5 := h.off8
    have h6 := h.kind
    have h7 := h.mult
    simp only at h5 h6 h7
    unfold may6 rn rx rp
    simp only [Bool.and_eq_true, decide_eq_true_eq, Bool.not_true, Bool.false_or, Bool.or_eq_true, Bool.not_eq_true']
    refine ⟨⟨⟨by decide, .inl rfl⟩, by omega⟩, h2, h5, by omega, ?_, ?_⟩
    · cases mo
      · exact .inl rfl
      · exact .inr (h7 rfl)
    · rcases h6 with h6 | h6
      · exact .inl h6
      · exact .inr (by omega)
  obtain ⟨e0, e2, e3⟩ := back6_t (f := 6) (s := ⟨6, 2306139568115548160, 1⟩) (d := ⟨6, 2306139568115548161, 2⟩) (pr := 59) (ho := 9) (id := id) (of := of) (mo := mo) (X := []) (dat := dat) ow6 ow6' ⟨h1.1, by omega⟩ hm (fun hh => by rw [whole59] at hh; cases hh.2)
  have hLl := build6_lenW 6 ⟨6, 2306139568115548160, 1⟩ ⟨6, 2306139568115548161, 2⟩ 59 9 true id of mo [] dat hm
  have kb := fun W hx hr => build6_any 6 6 2306139568115548160 1 6 2306139568115548161 2 59 9 true id of mo none 0 [] da dat dc W hx hr hn ow6 ow6' ⟨h1.1, by omega⟩ (by omega)
  rw [if_pos hm] at kb
  generalize build6 6 ⟨6, 2306139568115548160, 1⟩ ⟨6, 2306139568115548161, 2⟩ 59 9 true id of mo [] dat = L at *
  clear hm h
  obtain ⟨W1, hW1⟩ : ∃ W, w.alloc (.cells (pkV ⟨6, ⟨6, 2306139568115548160, 1⟩, ⟨6, 2306139568115548161, 2⟩, 59, 9, true, id, of, mo, [], dat⟩ none 0 da dc) 42) = W := ⟨_, rfl⟩
  have B1 := blk_nw hW1
  have k1 := bel_nw hW1
  obtain ⟨W2, hW2⟩ : ∃ W, W1.alloc (.cells zIp 42) = W := ⟨_, rfl⟩
  have B2 := blk_nw hW2
  have k2 := bel_nw hW2
  have B12 := B1.kept k2
  have k12 := bel_tr k1 k2
  have c0 := B12.cell 0 (.int .i64 6) rfl
  have KB : Hid _ := kb W2 (rowI_nil _ none) (hd.below k12)
  clear kb
  go_enter Try.func28, Try.ntmps28
  go_wp2_with (first
    | (refine wpList_load_row rfl _ _ rfl w.heap.size (by rfl) _ _ _ _ B12 Try.underlying42 rfl (by kernel_rfl) ?_))
  refine Calls.mono KB.out ?_
  rintro e W3 ⟨a3, c3, rfl, f3⟩
  have b03 := f3.below
  have kp := parse6_any a3 c3 L W3 f3.row f3.nil (by omega) f3.room f3.owns.cap_le
  unfold Got6 at kp
  rw [e0, e2, e3] at kp
  have KP : Hid _ := kp
  clear kp KB
  go_wp2_with fail
  refine Calls.mono KP.out ?_
  rintro e W4 ⟨a4, c4, xa, xc, rfl, f4, o4, _⟩
  have rx4 := o4.row (by simp)
  have nx4 := ownsI_nil o4
  have b04 := f4.below
  have k4 : Below W2.heap.size W2 W4 := bel_tr b03 b04
  obtain ⟨W5, hW5⟩ : ∃ W, W4.alloc (.cells zIp 42) = W := ⟨_, rfl⟩
  have B5 := blk_nw hW5
  have k5 := bel_nw hW5
  obtain ⟨W6, hW6⟩ : ∃ W, W5.setRow W4.heap.size (pkV ⟨6, ⟨6, 2306139568115548160, 1⟩, ⟨6, 2306139568115548161, 2⟩, 59, 9, true, id, of, mo, [44], dat⟩ xa xc a4 c4) = W := ⟨_, rfl⟩
  have B6 : Blk W6 W4.heap.size 42 (pkV ⟨6, ⟨6, 2306139568115548160, 1⟩, ⟨6, 2306139568115548161, 2⟩, 59, 9, true, id, of, mo, [44], dat⟩ xa xc a4 c4) := by rw [← hW6]; exact B5.set _
  have k6 : Below W4.heap.size W4 W6 := by rw [← hW6]; exact below_setRow k5 (Nat.le_refl _) _
  have HW6 : Hid _ := hW6
  have B26 := B2.kept (bel_tr k4 k6)
  obtain ⟨W7, hW7⟩ : ∃ W, W6.setRow W1.heap.size (pkV ⟨6, ⟨6, 2306139568115548160, 1⟩, ⟨6, 2306139568115548161, 2⟩, 59, 9, true, id, of, mo, [44], dat⟩ xa xc a4 c4) = W := ⟨_, rfl⟩
  have B7 : Blk W7 W1.heap.size 42 (pkV ⟨6, ⟨6, 2306139568115548160, 1⟩, ⟨6, 2306139568115548161, 2⟩, 59, 9, true, id, of, mo, [44], dat⟩ xa xc a4 c4) := by rw [← hW7]; exact B26.set _
  have HW7 : Hid _ := hW7
  have kk : Below w.heap.size w W6 := bel_tr k12 (bel_tr k4 k6)
  have k7 : Below w.heap.size w W7 := by rw [← hW7]; exact below_setRow kk k1.size _
  have hne : W1.heap.size < W4.heap.size := Nat.lt_of_lt_of_le B2.lt k4.size
  have r7 : Row W7 a4 dat := by
    rw [← hW7]
    refine Row.but (F := fun k => k = W1.heap.size) (f4.row.below k6) ((But.refl (fun k => k = W1.heap.size) W6).setRow W1.heap.size (.inl rfl) _) (fun x hx h => ?_)
    have := (World.ownsRow.lt f4.owns x.block (by rw [hx]; rfl)).1
    have := b03.size
    have := B2.lt
    omega
  have rx7 : RowI W7 xa [44] := by
    rw [← hW7]
    refine RowI.but (F := fun k => k = W1.heap.size) (rx4.below k6) ((But.refl (fun k => k = W1.heap.size) W6).setRow W1.heap.size (.inl rfl) _) (fun x hx h => ?_)
    have := (World.ownsRow.lt o4 x.block (by rw [hx]; rfl)).1
    have := b03.size
    have := B2.lt
    omega
  have n4 := f4.nil
  clear hW6 hW7 KP f3 f4 b03 b04 o4 rx4
  go_wp2_with (first
    | (refine wpList_store_row rfl _ _ _ rfl W4.heap.size (pkV ⟨6, ⟨6, 2306139568115548160, 1⟩, ⟨6, 2306139568115548161, 2⟩, 59, 9, true, id, of, mo, [44], dat⟩ xa xc a4 c4) (by rfl) (by rfl) _ _ B5 (by kernel_rfl) (by rfl) (by kernel_rfl) ?_; rw [HW6.out])
    | (refine wpList_load_row rfl _ _ rfl W4.heap.size (by rfl) _ _ _ _ B6 Try.underlying42 rfl (by kernel_rfl) ?_)
    | (refine wpList_store_row rfl _ _ _ rfl W1.heap.size (pkV ⟨6, ⟨6, 2306139568115548160, 1⟩, ⟨6, 2306139568115548161, 2⟩, 59, 9, true, id, of, mo, [44], dat⟩ xa xc a4 c4) (by rfl) (by rfl) _ _ B26 (by kernel_rfl) (by rfl) (by kernel_rfl) ?_; rw [HW7.out]))
  refine ret_cell_tmp _ Try.results28 B7 Try.underlying42 (by kernel_rfl) (by rfl) (by rfl) (by rfl) ?_
  exact ⟨xa, xc, [44], a4, c4, rfl, r7, n4, rx7, nx4, rfl, k7⟩
/-- Whatever may be written is read as it was. -/
theorem wires_any (p : Pkt) (da : Option Addr) (dc : Nat) (w : World) (h : WOk p) (hd : Row w da p.dat) (hn : da = none → dc = 0) : Calls Try.prog 28 #[.agg (pkV p none 0 da dc)] w (WGot w p) := by
  obtain ⟨f, s, d, pr, ho, fg, id, of, mo, X, dat⟩ := p
  have h1 := h.ho
  have h2 := h.fg
  have h3 := h.X
  have h4 := h.head
  simp only at h1 h2 h3 h4
  subst h1 h2 h3
  rcases h4 with ⟨rfl, rfl, rfl, rfl⟩ | ⟨rfl, rfl, rfl, rfl⟩
  · exact wires4_any id of mo da dc dat w h hd hn
  · exact wires6_any id of mo da dc dat w h hd hn
end Go.Proofs.Ytbghilihccaaaaa
