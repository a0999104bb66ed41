/- Texts joined: Ip6D -/
import Derived.Test.YtbghilihccaaaaaTwz8
import Derived.BigRegion
namespace Go.Proofs.Ytbghilihccaaaaa
open Go.RowKit
set_option linter.unusedVariables false
set_option linter.unusedSimpArgs false
theorem info_int : (Try.prog.info? 3).map (fun i => (i.zero, i.size, i.bytes)) = some (some (.int .i64 0), 1, 8) := by kernel_rfl
/-- The slice value v owns the ints l, in a block of the call's own (from B on), or is nil and l empty. -/
def OwnsI (w : World) (B : Nat) (v : Value) (l : List Int) : Prop := w.ownsRow B 3 1 v l.length (l.map (Value.int .i64))
theorem OwnsI.nil (w : World) (B : Nat) : OwnsI w B (.slice none 0 0) [] := World.ownsRow_nil _ _ _ _
theorem OwnsI.far {w w' : World} {B g : Nat} {v : Value} {l : List Int} (h : OwnsI w B v l) (hg : w.grownBy w' (some g)) (hgB : g < B) : OwnsI w' B v l :=
  World.ownsRow.kept h hg (by
    cases hv : v.ownBlock with
    | none => exact .inl rfl
    | some k =>
      refine .inr ?_
      have := (World.ownsRow.lt h k hv).1
      intro e
      cases e
      omega)
theorem OwnsI.drewN {w : World} {B : Nat} {v : Value} {l : List Int} (h : OwnsI w B v l) (n : Nat) : OwnsI (w.drewN n) B v l := h
/-- All that is known of a walk that goes on. -/
structure RW (W0 w : World) (g n : Nat) (s : St) (a : Option Addr) (c : Nat) (xa : Option Addr) (xc : Nat) (wr : World) : Prop where
  sw : SW wr g s (.slice a s.l.length c) (.slice xa s.ex.length xc)
  row : Row W0 a s.l
  room : s.l.length ≤ c
  cap : c ≤ 9223372036854775807
  nil : a = none → c = 0
  own : OwnsI wr (n + 2) (.slice xa s.ex.length xc) s.ex
  map : wr.heap[n + 1]? = some (.map (tab g n) 4)
  box : wr.cell? ⟨n, 0, none⟩ = some (.pointer (some ⟨g, 0, none⟩))
  below : Below g w wr
  few : s.ex.length ≤ 8
  big : n + 2 ≤ wr.heap.size
/-- What run leaves behind it. -/
def RunsTo (W0 w : World) (g n : Nat) (T : Int × St) (w' : World) : Prop := Below g w w' ∧ (T.1 = 0 → ∃ a c xa xc, RW W0 w g n T.2 a c xa xc w')
theorem grownBy_drew (w : World) (row : Option Nat) : w.grownBy w.drew row := ⟨rfl, rfl, rfl, Nat.le_refl _, fun _ _ _ => rfl⟩
theorem SW.put2 {W : World} {g : Nat} {s : St} {rv xv : Value} (h : SW W g s rv xv) (v : Value) : SW (W.setCell ⟨g, 2, none⟩ v) g s rv v := by
  obtain ⟨c0, c1, c2, c3, c4, c5, c6, c7, fz⟩ := h
  exact ⟨(put_oth (by decide)).trans c0, (put_oth (by decide)).trans c1, put_same c2, (put_oth (by decide)).trans c3, (put_oth (by decide)).trans c4, (put_oth (by decide)).trans c5, (put_oth (by decide)).trans c6, (put_oth (by decide)).trans c7, fun o => by rw [World.frozen?_setCell]; exact fz o⟩
theorem SW.put0 {W : World} {g : Nat} {s : St} {rv xv : Value} (h : SW W g s rv xv) (x : Int) : SW (W.setCell ⟨g, 0, none⟩ (.int .i64 x)) g { s with next := x } rv xv := by
  obtain ⟨c0, c1, c2, c3, c4, c5, c6, c7, fz⟩ := h
  exact ⟨put_same c0, (put_oth (by decide)).trans c1, (put_oth (by decide)).trans c2, (put_oth (by decide)).trans c3, (put_oth (by decide)).trans c4, (put_oth (by decide)).trans c5, (put_oth (by decide)).trans c6, (put_oth (by decide)).trans c7, fun o => by rw [World.frozen?_setCell]; exact fz o⟩
theorem SW.put1 {W : World} {g : Nat} {s : St} {rv xv : Value} (h : SW W g s rv xv) (v : Value) : SW (W.setCell ⟨g, 1, none⟩ v) g s v xv := by
  obtain ⟨c0, c1, c2, c3, c4, c5, c6, c7, fz⟩ := h
  exact ⟨(put_oth (by decide)).trans c0, put_same c1, (put_oth (by decide)).trans c2, (put_oth (by decide)).trans c3, (put_oth (by decide)).trans c4, (put_oth (by decide)).trans c5, (put_oth (by decide)).trans c6, (put_oth (by decide)).trans c7, fun o => by rw [World.frozen?_setCell]; exact fz o⟩
theorem SW.as {W : World} {g : Nat} {s t : St} {rv xv : Value} (h : SW W g s rv xv) (e0 : t.next = s.next) (e1 : t.met = s.met) (e2 : t.cut = s.cut) (e3 : t.id = s.id) (e4 : t.off = s.off) (e5 : t.more = s.more) : SW W g t rv xv := by
  obtain ⟨c0, c1, c2, c3, c4, c5, c6, c7, fz⟩ := h
  exact ⟨by rw [e0]; exact c0, c1, c2, by rw [e1]; exact c3, by rw [e2]; exact c4, by rw [e3]; exact c5, by rw [e4]; exact c6, by rw [e5]; exact c7, fz⟩
theorem RW.drewN {W0 w : World} {g n : Nat} {s : St} {a : Option Addr} {c : Nat} {xa : Option Addr} {xc : Nat} {wr : World} (h : RW W0 w g n s a c xa xc wr) (m : Nat) : RW W0 w g n s a c xa xc (wr.drewN m) :=
  ⟨h.sw.grown (grownBy_drewN wr m none) (by simp), h.row, h.room, h.cap, h.nil, h.own, h.map, h.box, below_drewN h.below m, h.few, h.big⟩
set_option maxHeartbeats 400000 in
theorem fragment_met (g : Nat) (s : St) (rv xv v : Value) (w : World) (hS : SW w g s rv xv) (hm : s.met = true) :
    Calls Try.prog 89 #[.pointer (some ⟨g, 0, none⟩), v] w fun e w' => e = .returned (.int .i64 7) ∧ w' = w := by
  have c3 := hS.c3
  rw [hm] at c3
  clear hS
  go_enter Try.func89, Try.ntmps89
  go_wp2
  go_ret
  exact ⟨rfl, rfl⟩
theorem gtake (l : List Int) {k i : Nat} (h : i < k) : (l.take k).getD i 0 = l.getD i 0 := by
  simp only [List.getD_eq_getElem?_getD, List.getElem?_take, h, if_true]
theorem u16_take (l : List Int) (k : Nat) (x : Nat) (h : x + 2 ≤ k) : u16 (l.take k) x = u16 l x := by
  unfold u16
  rw [Int.toNat_natCast, gtake l (by omega), gtake l (by omega)]
theorem u32_take (l : List Int) (k : Nat) (x : Nat) (h : x + 4 ≤ k) : u32 (l.take k) x = u32 l x := by
  unfold u32
  rw [Int.toNat_natCast, gtake l (by omega), gtake l (by omega), gtake l (by omega), gtake l (by omega)]
/-- The function of the table that looks at the header at hand. -/
theorem look_call {W0 w : World} {g n : Nat} {s : St} {a : Option Addr} {c : Nat} {xa : Option Addr} {xc : Nat} {w1 : World} (R : RW W0 w g n s a c xa xc w1) (hg : W0.heap.size ≤ g) (hb : Below W0.heap.size W0 w)
    (f : Nat) (fi ca : Array Value) (hf : lookv g n s.next = .func (.func f) fi ca) (hx : isExt s.next = true) (hlen : hsz s.next s.l ≤ s.l.length) :
    Calls Try.prog f (fi.push (.slice a (hsz s.next s.l) c) ++ ca) w1 fun e w' => e = .returned (.int .i64 (lerr s)) ∧ w1.grownBy w' (some g) ∧ (lerr s = 0 → SW w' g (took s) (.slice a s.l.length c) (.slice xa s.ex.length xc)) := by
  have hp := hsz_pos s.next s.l
  have hbw : Below W0.heap.size W0 w1 := hb.trans (R.below.mono hg)
  have hr0 := R.row.take (hsz s.next s.l)
  have hr := hr0.below hbw
  have hl : (s.l.take (hsz s.next s.l)).length = hsz s.next s.l := by rw [List.length_take]; omega
  have hroom := R.room
  have hcap := R.cap
  simp only [isExt, decide_eq_true_eq] at hx
  rcases hx with h | h | h | h
  · have e1 : lookv g n s.next = fv0 n := by rw [h]; rfl
    rw [e1] at hf
    obtain ⟨rfl, rfl, rfl⟩ : f = 86 ∧ fi = #[] ∧ ca = #[.pointer (some ⟨n, 0, none⟩)] := by
      simp only [fv0, Value.func.injEq, Fn.func.injEq] at hf
      exact ⟨hf.1.symm, hf.2.1.symm, hf.2.2.symm⟩
    have C := looks1_any g n s _ xa xc a c _ w1 R.sw R.box hr (by rw [hl]; exact hp) (by rw [hl]; omega) hcap
    rw [hl] at C
    have e2 : lerr s = (if s.met = true ∨ 0 < s.ex.length then 7 else opt6 ((s.l.take (hsz s.next s.l)).drop 2)) := by unfold lerr; rw [if_pos h]
    have e3 : took s = s := by unfold took; rw [if_neg (by rw [h]; decide)]
    refine C.mono ?_
    rintro e w' ⟨rfl, rfl⟩
    exact ⟨by rw [e2], World.grownBy.refl _ _, fun _ => by rw [e3]; exact R.sw⟩
  · have e1 : lookv g n s.next = fv43 := by rw [h]; rfl
    rw [e1] at hf
    obtain ⟨rfl, rfl, rfl⟩ : f = 88 ∧ fi = #[] ∧ ca = #[] := by
      simp only [fv43, Value.func.injEq, Fn.func.injEq] at hf
      exact ⟨hf.1.symm, hf.2.1.symm, hf.2.2.symm⟩
    have C := routed_any a c _ w1 hr (by rw [hl]; exact hp)
    rw [hl, gtake _ (by omega), gtake _ (by omega)] at C
    have e2 : lerr s = (if s.l.getD 3 0 ≠ 0 ∨ s.l.getD 2 0 = 0 then 8 else 0) := by unfold lerr; rw [if_neg (by rw [h]; decide), if_pos h]
    have e3 : took s = s := by unfold took; rw [if_neg (by rw [h]; decide)]
    refine C.mono ?_
    rintro e w' ⟨rfl, rfl⟩
    exact ⟨by rw [e2], World.grownBy.refl _ _, fun _ => by rw [e3]; exact R.sw⟩
  · have e1 : lookv g n s.next = fv44 g := by rw [h]; rfl
    rw [e1] at hf
    obtain ⟨rfl, rfl, rfl⟩ : f = 89 ∧ fi = #[.pointer (some ⟨g, 0, none⟩)] ∧ ca = #[] := by
      simp only [fv44, Value.func.injEq, Fn.func.injEq] at hf
      exact ⟨hf.1.symm, hf.2.1.symm, hf.2.2.symm⟩
    have h8 : hsz s.next s.l = 8 := by unfold hsz; rw [if_pos (.inl h)]
    cases hm : s.met with
    | true =>
      have e2 : lerr s = 7 := by unfold lerr; rw [if_neg (by rw [h]; decide), if_neg (by rw [h]; decide), if_pos h, if_pos hm]
      refine (fragment_met g s _ _ _ w1 R.sw hm).mono ?_
      rintro e w' ⟨rfl, rfl⟩
      exact ⟨by rw [e2], World.grownBy.refl _ _, fun h0 => absurd h0 (by rw [e2]; decide)⟩
    | false =>
      have e2 : lerr s = 0 := by unfold lerr; rw [if_neg (by rw [h]; decide), if_neg (by rw [h]; decide), if_pos h, if_neg (by rw [hm]; decide)]
      have e3 : took s = frg s := by unfold took; rw [if_pos h]
      have C := fragment_any g s _ _ a c _ W0 w1 R.sw hr0 hg hbw (by rw [hl, h8]) hm
      rw [hl, show (2 : Int) = ((2 : Nat) : Int) from rfl, show (4 : Int) = ((4 : Nat) : Int) from rfl, u16_take _ _ _ (by omega), u32_take _ _ _ (by omega)] at C
      refine C.mono ?_
      rintro e w' ⟨rfl, k1, k2⟩
      exact ⟨by rw [e2], k2, fun _ => by rw [e3]; exact k1⟩
  · have e1 : lookv g n s.next = fv60 := by rw [h]; rfl
    rw [e1] at hf
    obtain ⟨rfl, rfl, rfl⟩ : f = 87 ∧ fi = #[] ∧ ca = #[] := by
      simp only [fv60, Value.func.injEq, Fn.func.injEq] at hf
      exact ⟨hf.1.symm, hf.2.1.symm, hf.2.2.symm⟩
    have C := options6_any a c _ w1 hr (by rw [hl]; exact hp) (by rw [hl]; omega) hcap
    rw [hl] at C
    have e2 : lerr s = opt6 ((s.l.take (hsz s.next s.l)).drop 2) := by unfold lerr; rw [if_neg (by rw [h]; decide), if_neg (by rw [h]; decide), if_neg (by rw [h]; decide)]
    have e3 : took s = s := by unfold took; rw [if_neg (by rw [h]; decide)]
    refine C.mono ?_
    rintro e w' ⟨rfl, rfl⟩
    exact ⟨by rw [e2], World.grownBy.refl _ _, fun _ => by rw [e3]; exact R.sw⟩
set_option maxRecDepth 100000 in
set_option maxHeartbeats 4000000 in
theorem run_any (g : Nat) (nx : Int) (l : List Int) (met : Bool) (a : Option Addr) (c : Nat) (W0 w : World) (hS : SW w g (st0 nx l met) (.slice a l.length c) (.slice none 0 0)) (hr : Row W0 a l) (hg : W0.heap.size ≤ g) (hb : Below W0.heap.size W0 w)
    (hc : l.length ≤ c) (hcm : c ≤ 9223372036854775807) (hnil : a = none → c = 0) :
    Calls Try.prog 68 #[.pointer (some ⟨g, 0, none⟩)] w fun e w' => e = .returned (.int .i64 (wend (st0 nx l met)).1) ∧ RunsTo W0 w g w.heap.size (wend (st0 nx l met)) w' := by
  have hgl := hS.lt
  obtain ⟨n, hn⟩ : ∃ n, w.heap.size = n := ⟨_, rfl⟩
  rw [hn] at hgl
  obtain ⟨T, hT⟩ : ∃ T, wend (st0 nx l met) = T := ⟨_, rfl⟩
  rw [hT, hn]
  have HT : Hid (wend (st0 nx l met) = T) := hT
  clear hT
  go_enter Try.func68, Try.ntmps68
  go_wp2_with fail
  refine (looks_any g w).mono ?_
  rintro e W1 ⟨rfl, m1, x1, b1, z1⟩
  rw [hn] at m1 x1 b1 z1
  have R1 : RW W0 w g n (st0 nx l met) a c none 0 W1 := ⟨hS.below (by omega) b1, hr, hc, hcm, hnil, OwnsI.nil _ _, m1, x1, b1.mono (by omega), Nat.zero_le _, by omega⟩
  have hb0 : Below W0.heap.size W0 W1 := hb.trans (b1.mono (by omega))
  clear m1 x1 b1 z1 hS hr hc hcm hnil
  go_wp2_with fail
  go_loopw [4] (fun _ wr => ∃ (s : St) (a : Option Addr) (c : Nat) (xa : Option Addr) (xc : Nat), RW W0 w g n s a c xa xc wr ∧ Hid (wend s = T)) (fun _ wr => 9 - sliceLen ((wr.cell? ⟨g, 2, none⟩).getD undef))
  case atStart => exact ⟨_, a, c, none, 0, R1, HT⟩
  case round =>
    obtain ⟨s, a, c, xa, xc, R, E⟩ := hrel
    clear R1 HT hb0
    have HR : Hid (RW W0 w g n s a c xa xc wr) := R
    have hlk := run_look R.map s.next
    have c0 := R.sw.c0
    have c1 := R.sw.c1
    have c2 := R.sw.c2
    have c4 := R.sw.c4
    cases hcut : s.cut with
    | true =>
      rw [hcut] at c4
      have ET : Hid (T = (0, s)) := by show T = _; rw [← E.out]; exact wend_over s R.few (by simp [over, hcut])
      clear R hlk E
      go_wp2
      go_ret
      exact ⟨ret_int (by rw [ET.out]), HR.out.below, fun _ => ⟨a, c, xa, xc, by rw [ET.out]; exact HR.out⟩⟩
    | false =>
      rw [hcut] at c4
      cases hx : isExt s.next with
      | false =>
        rw [hx] at hlk
        have ET : Hid (T = (0, s)) := by show T = _; rw [← E.out]; exact wend_over s R.few (by simp [over, hx])
        clear R E
        go_wp2
        go_ret
        exact ⟨ret_int (by rw [ET.out]), HR.out.below, fun _ => ⟨a, c, xa, xc, by rw [ET.out]; exact HR.out⟩⟩
      | true =>
        rw [hx] at hlk
        have ho : over s = false := by simp [over, hcut, hx]
        by_cases h8 : s.ex.length = 8
        · have ET : Hid (T = (17, s)) := by
            show T = _
            have hw : werr s = 17 := by unfold werr; rw [if_pos h8]
            rw [← E.out, wend_err s R.few ho (by rw [hw]; decide), hw]
          rw [h8] at c2
          clear R E h8
          go_wp2
          go_ret
          exact ⟨ret_int (by rw [ET.out]), HR.out.below, fun h => absurd h (by rw [ET.out]; simp)⟩
        · have h8' : ((s.ex.length : Int) == 8) = false := by simp; omega
          obtain ⟨f, fi, ca, hfv, hcf⟩ : ∃ f fi ca, lookv g n s.next = .func (.func f) fi ca ∧ ∀ args w, (callFunc f args).run Try.prog w = .ok (.enter f args) w := by
            simp only [isExt, decide_eq_true_eq] at hx
            rcases hx with h | h | h | h <;> rw [h]
            · exact ⟨_, _, _, rfl, Try.call86⟩
            · exact ⟨_, _, _, rfl, Try.call88⟩
            · exact ⟨_, _, _, rfl, Try.call89⟩
            · exact ⟨_, _, _, rfl, Try.call87⟩
          have HF : Hid (lookv g n s.next = .func (.func f) fi ca) := hfv
          rw [hfv] at hlk
          have rw0 := R.row.below (hb.trans (R.below.mono hg))
          obtain ⟨hz, hhz⟩ : ∃ hz, hsz s.next s.l = hz := ⟨_, rfl⟩
          have HZ : Hid (hsz s.next s.l = hz) := hhz
          have sm := rw0.small
          have H8 : Hid (¬ s.ex.length = 8) := h8
          clear hfv R h8
          go_wp2
          go_quiet (first | (go_at_call 83; refine Calls.quiet_of_same (size6_any _ _ _ _ _ (rw0.drewN _))))
          rw [hhz]
          clear hhz
          replace HR : Hid (RW W0 w g n s a c xa xc (wr.drewN nq)) := HR.out.drewN nq
          have c1 := HR.out.sw.c1
          obtain ⟨w1, hw1⟩ : ∃ w1, wr.drewN nq = w1 := ⟨_, rfl⟩
          rw [hw1] at HR c1 ⊢
          by_cases hlen : s.l.length < hz
          · have ET : Hid (T = (4, s)) := by
              show T = _
              have hw : werr s = 4 := by unfold werr; rw [if_neg H8.out, HZ.out, if_pos hlen]
              rw [← E.out, wend_err s HR.out.few ho (by rw [hw]; decide), hw]
            have hlen' : (hz : Int) > (s.l.length : Int) := by omega
            go_wp2
            go_ret
            exact ⟨ret_int (by rw [ET.out]), HR.out.below, fun h => absurd h (by rw [ET.out]; simp)⟩
          · have hlen' : ¬ (hz : Int) > (s.l.length : Int) := by omega
            have hlen'' : (hz : Int) ≤ (s.l.length : Int) := by omega
            have hcc := HR.out.room
            have hlc' : (hz : Int) ≤ (c : Int) := by omega
            have hlc : hz ≤ c := by omega
            clear hcc
            have LC := look_call HR.out hg hb f fi ca HF.out hx (by rw [HZ.out]; omega)
            rw [HZ.out] at LC
            have HLC : Hid _ := LC
            clear LC
            have h8n : s.ex.length ≤ 7 := by have := H8.out; have := HR.out.few; omega
            go_wp2_with fail
            refine Calls.mono HLC.out ?_
            rintro e w2 ⟨rfl, k1, k2⟩
            clear HLC hcf hlk c0 c1 c2 c4
            obtain ⟨r, hr⟩ : ∃ r, lerr s = r := ⟨_, rfl⟩
            rw [hr] at k2 ⊢
            by_cases h0 : r = 0
            · subst h0
              replace k2 := k2 rfl
              have own2 : OwnsI w2 (n + 2) (.slice xa s.ex.length xc) s.ex := HR.out.own.far k1 (by omega)
              have mp2 := (k1.block (n + 1) (by have := HR.out.big; omega) (by simp; omega)).trans HR.out.map
              have bx2 := (k1.cell_far ⟨n, 0, none⟩ (by have := HR.out.big; simp; omega) (by simp; omega)).trans HR.out.box
              have bel2 : Below g w w2 := HR.out.below.grown k1 (by have := HR.out.big; omega) (fun k hk => by cases hk; exact Nat.le_refl _)
              have big2 : n + 2 ≤ w2.heap.size := Nat.le_trans HR.out.big k1.size
              have c0 := k2.c0
              have c1 := k2.c1
              have c2 := k2.c2
              have f0 := k2.fz 0
              have f1 := k2.fz 1
              have f2 := k2.fz 2
              rw [took_next] at c0
              have OWN : Hid ((w2.alloc (.cells #[.int .i64 s.next] 3)).ownsRow (n + 2) 3 1 (.slice xa s.ex.length xc) s.ex.length (s.ex.map (Value.int .i64))) := World.ownsRow.alloc own2 _
              have NEW : Hid (∀ j u, ([.int .i64 s.next] : List Value)[j]? = some u → (w2.alloc (.cells #[.int .i64 s.next] 3)).cell? ((⟨w2.heap.size, 0, none⟩ : Addr).add j) = some u) :=
                World.news_of_block (cs := #[.int .i64 s.next]) (t := 3) (fr := (0, 0)) (World.heap_new w2 _)
              have gw : w2.grownBy (w2.alloc (.cells #[.int .i64 s.next] 3)) none := World.grownBy_alloc _ _ _
              obtain ⟨i0, hi, hz0, hz1, hz2⟩ := info_parts info_int
              have gl2 : g < w2.heap.size := k2.lt
              have far : Hid (∀ w3, (w2.alloc (.cells #[.int .i64 s.next] 3)).drew.grownBy w3 (Value.slice xa s.ex.length xc).ownBlock → SW w3 g (took s) (.slice a s.l.length c) (.slice xa s.ex.length xc)) := by
                intro w3 hgr
                refine ((k2.grown gw (by simp)).grown (grownBy_drew _ none) (by simp)).grown hgr ?_
                intro e
                have := (World.ownsRow.lt own2 g e.symm).1
                omega
              go_wp2_with fail
              go_region_law (refine step_append_lies _ rfl (.tmp 63) (.tmp 68) 39 rfl (n + 2) 3 i0 (.int .i64 0) 1 8 Try.underlying39 hi hz0 hz1 hz2 rfl (by decide) (.slice xa s.ex.length xc) s.ex.length (s.ex.map (Value.int .i64)) (by simp [Act.eval, Act.put]) OWN.out ⟨w2.heap.size, 0, none⟩ 1 1 [.int .i64 s.next] (by simp [Act.eval, Act.put]) rfl NEW.out (by simp [Value.oneCell']) (by decide) (by unfold maxLen; omega) (by omega) (by show n + 2 ≤ (w2.alloc _).heap.size; rw [World.size_alloc]; omega) (w2.heap.size + 1) (by show (w2.alloc _).heap.size = _; rw [World.size_alloc]) ?_; intro gx cx w3 hown3 hgrow3 hat hlt; have x2 := (far.out w3 hgrow3).c2; have y2 := (far.out w3 hgrow3).fz 2)
              all_goals (
                have S4 := (far.out w3 hgrow3).put2 (.slice (some ⟨gx, 0, none⟩) (s.ex.length + 1) cx)
                have own4 := World.ownsRow.kept hown3 (grownBy_setCell w3 g 2 (.slice (some ⟨gx, 0, none⟩) (s.ex.length + 1) cx)) (.inr (by
                  have := (World.ownsRow.lt hown3 gx rfl).1
                  show some gx ≠ some g
                  simp
                  omega))
                have G3 : w2.grownBy w3 (Value.slice xa s.ex.length xc).ownBlock := (World.grownBy_alloc w2 _ _).trans ((grownBy_drew _ _).trans hgrow3)
                have mp3 : w3.heap[n + 1]? = some (.map (tab g n) 4) := (G3.block (n + 1) (by omega) (fun e => by have := (World.ownsRow.lt own2 (n + 1) e.symm).1; omega)).trans mp2
                have bx3 : w3.cell? ⟨n, 0, none⟩ = some (.pointer (some ⟨g, 0, none⟩)) := (G3.cell_far ⟨n, 0, none⟩ (by simp; omega) (fun e => by have := (World.ownsRow.lt own2 n e.symm).1; omega)).trans bx2
                have bel3 : Below g w w3 := bel2.grown G3 (by omega) (fun k hk => by have := (World.ownsRow.lt own2 k hk).1; omega)
                have g4 := grownBy_setCell w3 g 2 (.slice (some ⟨gx, 0, none⟩) (s.ex.length + 1) cx)
                have mp4 := (g4.block (n + 1) (by have := G3.size; omega) (by simp; omega)).trans mp3
                have bx4 := (g4.cell_far ⟨n, 0, none⟩ (by have := G3.size; simp; omega) (by simp; omega)).trans bx3
                have bel4 := bel3.setCell (p := ⟨g, 2, none⟩) (Nat.le_refl _) (.slice (some ⟨gx, 0, none⟩) (s.ex.length + 1) cx)
                have big4 : n + 2 ≤ (w3.setCell ⟨g, 2, none⟩ (.slice (some ⟨gx, 0, none⟩) (s.ex.length + 1) cx)).heap.size := by have := G3.size; rw [size_setCell]; omega
                obtain ⟨W4, hW4⟩ : ∃ W4, w3.setCell ⟨g, 2, none⟩ (.slice (some ⟨gx, 0, none⟩) (s.ex.length + 1) cx) = W4 := ⟨_, rfl⟩
                rw [hW4] at S4 own4 mp4 bx4 bel4 big4
                clear g4 mp3 bx3 bel3 G3 hgrow3 hown3 hat hlt x2 y2 c0 c1 c2 f0 f1 f2 OWN NEW far gw own2 mp2 bx2 bel2 big2
                have c0 := S4.c0
                have c1 := S4.c1
                have f0 := S4.fz 0
                have f1 := S4.fz 1
                have r4 := HR.out.row.below (hb.trans (bel4.mono hg))
                have hp : 8 ≤ hz := by rw [← HZ.out]; exact hsz_pos _ _
                have hd := HR.out.row.drop c hz HR.out.room
                obtain ⟨bk, off, rfl, hcl⟩ := r4.cells (by omega)
                have b0 := hcl 0 (by omega)
                have bb := r4.bytes.get 0
                have i0' : (0 : Int) < (s.l.length : Int) := by omega
                clear hcl
                obtain ⟨x0, hx0⟩ : ∃ x0, s.l.getD 0 0 = x0 := ⟨_, rfl⟩
                have HX0 : Hid (s.l.getD 0 0 = x0) := hx0
                rw [hx0, Nat.add_zero] at b0
                rw [hx0] at bb
                clear hx0
                go_wp2_with fail
                go_region
                go_wp2
                have hd' : Row W0 (if c = hz then some ⟨bk, off, none⟩ else some ⟨bk, off + hz, none⟩) (s.l.drop hz) := by simpa [Go.WideShapes.add_plain] using hd
                obtain ⟨A, hA⟩ : ∃ A : Option Addr, (if c = hz then some ⟨bk, off, none⟩ else some ⟨bk, off + hz, none⟩) = A := ⟨_, rfl⟩
                rw [hA] at hd' ⊢
                have hAn : A ≠ none := by
                  intro e
                  rw [e] at hA
                  split at hA <;> cases hA
                have eL : s.l.length - hz = (after s).l.length := by rw [after_l, HZ.out, List.length_drop]
                have eX : s.ex.length + 1 = (after s).ex.length := by rw [after_ex]; simp
                have cw : wr.cell? ⟨g, 2, none⟩ = some (.slice xa s.ex.length xc) := by
                  have := HR.out.sw.c2
                  rw [← hw1] at this
                  exact this
                have S5 := ((S4.put0 x0).put1 (.slice A (s.l.length - hz) (c - hz))).grown (grownBy_drew _ none) (by simp)
                have S6 := S5.as (t := after s) (by rw [after_next]; exact HX0.out) rfl rfl rfl rfl rfl
                have ne : (Value.slice (some ⟨gx, 0, none⟩) (s.ex.length + 1) cx).ownBlock = none ∨ (Value.slice (some ⟨gx, 0, none⟩) (s.ex.length + 1) cx).ownBlock ≠ some g := .inr (by
                  have := (World.ownsRow.lt own4 gx rfl).1
                  show some gx ≠ some g
                  simp
                  omega)
                have own5 := (World.ownsRow.kept (World.ownsRow.kept own4 (grownBy_setCell W4 g 0 (.int .i64 x0)) ne) (grownBy_setCell _ g 1 (.slice A (s.l.length - hz) (c - hz))) ne).drew
                have G6 : W4.grownBy ((W4.setCell ⟨g, 0, none⟩ (.int .i64 x0)).setCell ⟨g, 1, none⟩ (.slice A (s.l.length - hz) (c - hz))).drew (some g) := ((grownBy_setCell W4 g 0 _).trans (grownBy_setCell _ g 1 _)).trans (grownBy_drew _ _)
                obtain ⟨W6, hW6⟩ : ∃ W6, ((W4.setCell ⟨g, 0, none⟩ (.int .i64 x0)).setCell ⟨g, 1, none⟩ (.slice A (s.l.length - hz) (c - hz))).drew = W6 := ⟨_, rfl⟩
                rw [hW6] at S6 own5 G6 ⊢
                have hroom := HR.out.room
                have hcap := HR.out.cap
                refine ⟨⟨after s, A, c - hz, some ⟨gx, 0, none⟩, cx, ⟨?_, ?_, ?_, by omega, fun e => absurd e hAn, ?_, ?_, ?_, ?_, by rw [← eX]; omega, Nat.le_trans big4 G6.size⟩, ?_⟩, ?_⟩
                · rw [← eL, ← eX]; exact S6
                · rw [after_l, HZ.out]; exact hd'
                · rw [← eL]; omega
                · show World.ownsRow _ _ _ _ _ _ _
                  rw [← eX, after_ex, List.map_append]
                  exact own5
                · exact (G6.block (n + 1) (by omega) (by simp; omega)).trans mp4
                · exact (G6.cell_far ⟨n, 0, none⟩ (by simp; omega) (by simp; omega)).trans bx4
                · exact bel4.grown G6 (by omega) (fun k hk => by cases hk; exact Nat.le_refl _)
                · show wend (after s) = T
                  rw [← E.out]
                  exact (wend_next s HR.out.few ho (by unfold werr; rw [if_neg H8.out, HZ.out, if_neg hlen, hr])).symm
                · rw [S6.c2, cw]
                  simp only [Option.getD_some, sliceLen_slice]
                  omega)
            · have h0' : (r != 0) = true := by simpa using h0
              have ET : Hid (T = (r, s)) := by
                show T = _
                have hw : werr s = r := by unfold werr; rw [if_neg H8.out, HZ.out, if_neg hlen, hr]
                rw [← E.out, wend_err s HR.out.few ho (by rw [hw]; exact h0), hw]
              have bel2 : Below g w w2 := HR.out.below.grown k1 (by have := HR.out.big; omega) (fun k hk => by cases hk; exact Nat.le_refl _)
              go_wp2
              go_ret
              exact ⟨ret_int (by rw [ET.out]), bel2, fun h => absurd h (by rw [ET.out]; exact h0)⟩
end Go.Proofs.Ytbghilihccaaaaa
