/- Texts joined: Ip6R -/
import Derived.Test.YtmnkdogdligckaaIp6zb14
namespace Go.Proofs.Ytmnkdogdligckaa
open Go.RowKit
set_option linter.unusedVariables false
set_option linter.unusedSimpArgs false
theorem getD_drop6 (l : List Int) (k i : Nat) : (l.drop k).getD i 0 = l.getD (k + i) 0 := by
  simp only [List.getD_eq_getElem?_getD, List.getElem?_drop]
set_option maxRecDepth 100000 in
set_option maxHeartbeats 2000000 in
theorem roptions6_any (a : Option Addr) (c : Nat) (l : List Int) (w : World) (h : Row w a l) :
    Calls Try.prog 63 #[.slice a l.length c] w fun e w' => e = .returned (.int .i64 (opt6 l)) ∧ w' = w := by
  have hs := h.small
  go_enter Try.func63, Try.ntmps63
  go_wp2
  go_loop [3] (fun v => ∃ k : Nat, k ≤ l.length ∧ v = .int .i64 k ∧ Hid (opt6 (l.drop k) = opt6 l)) (fun v => l.length - (intOf v).toNat)
  case atStart => exact ⟨0, Nat.zero_le _, rfl, by show opt6 (l.drop 0) = opt6 l; rw [List.drop_zero]⟩
  case round =>
    obtain ⟨k, hk, rfl, ho⟩ := hrel
    by_cases hlt : k < l.length
    · obtain ⟨bk, off, rfl, hcl⟩ := h.cells (by omega)
      have c0 := hcl k hlt
      have hx := h.bytes.get k
      have hd : l.drop k = l.getD k 0 :: l.drop (k + 1) := by
        rw [List.drop_eq_getElem_cons hlt]
        simp [hlt]
      have hlk : (k : Int) < (l.length : Int) := by omega
      obtain ⟨x, hxx⟩ : ∃ x, l.getD k 0 = x := ⟨_, rfl⟩
      rw [hxx] at c0 hx hd
      have ho' : Hid (opt6 (x :: l.drop (k + 1)) = opt6 l) := by show _ = _; rw [← hd]; exact ho.out
      have hrl : (l.drop (k + 1)).length = l.length - (k + 1) := by rw [List.length_drop]
      clear ho hd hxx
      by_cases x0 : x = 0
      · subst x0
        have E : Hid (opt6 (l.drop (k + 1)) = opt6 l) := by show _ = _; rw [← ho'.out, opt6_zero]
        clear ho' hcl h hrl
        go_wp2
        exact ⟨⟨k + 1, by omega, int_eq (by omega), E⟩, by simp [intOf]; omega⟩
      · have x0' : (x == 0) = false := by simpa using x0
        by_cases hl1 : k + 1 < l.length
        · have c1 := hcl (k + 1) hl1
          have hy := h.bytes.get (k + 1)
          have hr0 : (l.drop (k + 1)).getD 0 0 = l.getD (k + 1) 0 := by rw [getD_drop6, Nat.add_zero]
          obtain ⟨y, hyy⟩ : ∃ y, l.getD (k + 1) 0 = y := ⟨_, rfl⟩
          rw [hyy] at c1 hy hr0
          have hl1' : ¬ ((l.length : Int) ≤ (k : Int) + 1) := by omega
          have hl2' : (k : Int) + 1 < (l.length : Int) := by omega
          have hwk : wrap64 ((k : Int) + 1) = (k : Int) + 1 := wrap64_in _ (by omega) (by omega)
          by_cases hy2 : y > (l.length : Int) - (k : Int) - 2
          · have e : Hid (7 = opt6 l) := by show 7 = opt6 l; rw [← ho'.out, opt6_bad x _ x0 (.inr (.inr (by rw [hr0, hrl]; omega)))]
            clear ho' hcl h hrl hr0 hyy
            go_wp2
            go_ret
            exact ⟨ret_int e.out, rfl⟩
          · have y3 : ¬ y > (l.length : Int) - (k : Int) - 2 := hy2
            by_cases x6 : x / 64 = 0
            · have x6' : (x / 64 != 0) = false := by simpa using x6
              have hn := opt6_next x (l.drop (k + 1)) x0 (by rw [hr0, hrl]; omega)
              rw [hr0] at hn
              obtain ⟨m, rfl⟩ := Int.eq_ofNat_of_zero_le hy.1
              rw [Int.toNat_natCast, List.drop_drop] at hn
              have E : Hid (opt6 (l.drop (k + (2 + m))) = opt6 l) := by show _ = _; rw [← ho'.out, hn]; congr 2; omega
              clear ho' hcl h hrl hr0 hyy hn
              go_wp2
              exact ⟨⟨k + (2 + m), by omega, int_eq (by omega), E⟩, by simp [intOf]; omega⟩
            · have x6' : (x / 64 != 0) = true := by simpa using x6
              have e : Hid (7 = opt6 l) := by show 7 = opt6 l; rw [← ho'.out, opt6_bad x _ x0 (.inl x6)]
              clear ho' hcl h hrl hr0 hyy
              go_wp2
              go_ret
              exact ⟨ret_int e.out, rfl⟩
        · have e : Hid (7 = opt6 l) := by show 7 = opt6 l; rw [← ho'.out, opt6_bad x _ x0 (.inr (.inl (by rw [hrl]; omega)))]
          have hl1' : (l.length : Int) ≤ (k : Int) + 1 := by omega
          clear ho' hcl h hrl
          go_wp2
          go_ret
          exact ⟨ret_int e.out, rfl⟩
    · have hlt' : ¬ (k : Int) < (l.length : Int) := by omega
      have e : Hid (0 = opt6 l) := by show 0 = opt6 l; rw [← ho.out, List.drop_of_length_le (by omega), opt6_nil]
      clear ho
      go_wp2
      go_ret
      exact ⟨ret_int e.out, rfl⟩
set_option maxHeartbeats 400000 in
theorem isExt_any (n : Int) (w : World) : Calls Try.prog 20 #[.int .i64 n] w fun e w' => e = .returned (.bool (isExt n)) ∧ w' = w := by
  by_cases h0 : n = 0
  · subst h0
    go_enter Try.func20, Try.ntmps20
    go_wp2
    go_ret
    exact ⟨rfl, rfl⟩
  have h0' : (n == 0) = false := by simpa using h0
  by_cases h1 : n = 43
  · subst h1
    go_enter Try.func20, Try.ntmps20
    go_wp2
    go_ret
    exact ⟨rfl, rfl⟩
  have h1' : (n == 43) = false := by simpa using h1
  by_cases h2 : n = 60
  · subst h2
    go_enter Try.func20, Try.ntmps20
    go_wp2
    go_ret
    exact ⟨rfl, rfl⟩
  have h2' : (n == 60) = false := by simpa using h2
  by_cases h3 : n = 44
  · subst h3
    go_enter Try.func20, Try.ntmps20
    go_wp2
    go_ret
    exact ⟨rfl, rfl⟩
  have h3' : (n == 44) = false := by simpa using h3
  have e : isExt n = false := by simp [isExt, h0, h1, h2, h3]
  rw [e]
  clear e
  go_enter Try.func20, Try.ntmps20
  go_wp2
  go_ret
  exact ⟨rfl, rfl⟩
/-- The cells of the document's walk. -/
structure TW (W : World) (g : Nat) (s : St) (at_ : Nat) (bv xv : Value) (hop E : Bool) : Prop where
  c0 : W.cell? ⟨g, 0, none⟩ = some (.int .i64 s.next)
  c1 : W.cell? ⟨g, 1, none⟩ = some (.int .i64 at_)
  c2 : W.cell? ⟨g, 2, none⟩ = some bv
  c3 : W.cell? ⟨g, 3, none⟩ = some xv
  c4 : W.cell? ⟨g, 4, none⟩ = some (.bool hop)
  c5 : W.cell? ⟨g, 5, none⟩ = some (.bool s.met)
  c6 : W.cell? ⟨g, 6, none⟩ = some (.bool E)
  c16 : W.cell? ⟨g, 16, none⟩ = some (.bool s.cut)
  c17 : W.cell? ⟨g, 17, none⟩ = some (.int .u32 (if s.cut = true then s.id else 0))
  c18 : W.cell? ⟨g, 18, none⟩ = some (.int .i64 s.off)
  c19 : W.cell? ⟨g, 19, none⟩ = some (.bool s.more)
  z : ∀ o, 7 ≤ o → o < 22 → (o < 16 ∨ 20 ≤ o) → W.cell? ⟨g, o, none⟩ = some (zIp.getD (o - 7) undef)
  fz : ∀ o, W.frozen? ⟨g, o, none⟩ = false
theorem TW.lt {W : World} {g : Nat} {s : St} {at_ : Nat} {bv xv : Value} {hop E : Bool} (h : TW W g s at_ bv xv hop E) : g < W.heap.size := World.block_lt_of_cell? W _ h.c0
theorem TW.same {W W' : World} {g : Nat} {s : St} {at_ : Nat} {bv xv : Value} {hop E : Bool} (h : TW W g s at_ bv xv hop E) (k : ∀ o, W'.cell? ⟨g, o, none⟩ = W.cell? ⟨g, o, none⟩) (f : ∀ o, W'.frozen? ⟨g, o, none⟩ = W.frozen? ⟨g, o, none⟩) : TW W' g s at_ bv xv hop E :=
  ⟨(k _).trans h.c0, (k _).trans h.c1, (k _).trans h.c2, (k _).trans h.c3, (k _).trans h.c4, (k _).trans h.c5, (k _).trans h.c6, (k _).trans h.c16, (k _).trans h.c17, (k _).trans h.c18, (k _).trans h.c19, fun o h1 h2 h3 => (k _).trans (h.z o h1 h2 h3), fun o => (f _).trans (h.fz o)⟩
theorem TW.grown {W W' : World} {g : Nat} {s : St} {at_ : Nat} {bv xv : Value} {hop E : Bool} {row : Option Nat} (h : TW W g s at_ bv xv hop E) (hg : W.grownBy W' row) (hne : some g ≠ row) : TW W' g s at_ bv xv hop E :=
  h.same (fun o => hg.cell_far ⟨g, o, none⟩ h.lt hne) (fun o => hg.frozen_far ⟨g, o, none⟩ h.lt hne)
theorem TW.below {W W' : World} {g B : Nat} {s : St} {at_ : Nat} {bv xv : Value} {hop E : Bool} (h : TW W g s at_ bv xv hop E) (hg : g < B) (hb : Below B W W') : TW W' g s at_ bv xv hop E :=
  h.same (fun o => hb.cell (p := ⟨g, o, none⟩) hg) (fun o => hb.frozen (p := ⟨g, o, none⟩) hg)
/-- Cells of the walk written over: all others stay. -/
theorem TW.put {W : World} {g : Nat} {s t : St} {at_ at' : Nat} {bv xv xv' : Value} {hop hop' E : Bool} (h : TW W g s at_ bv xv hop E) (k : Nat) (v : Value) (hk : k < 7 ∨ (16 ≤ k ∧ k < 20))
    (q0 : if k = 0 then v = .int .i64 t.next else t.next = s.next) (q1 : if k = 1 then v = .int .i64 at' else at' = at_) (q2 : k ≠ 2) (q3 : if k = 3 then v = xv' else xv' = xv) (q4 : if k = 4 then v = .bool hop' else hop' = hop)
    (q5 : if k = 5 then v = .bool t.met else t.met = s.met) (q6 : k ≠ 6) (q16 : if k = 16 then v = .bool t.cut else t.cut = s.cut) (q17 : if k = 17 then v = .int .u32 (if t.cut = true then t.id else 0) else (if t.cut = true then t.id else 0) = (if s.cut = true then s.id else 0))
    (q18 : if k = 18 then v = .int .i64 t.off else t.off = s.off) (q19 : if k = 19 then v = .bool t.more else t.more = s.more) : TW (W.setCell ⟨g, k, none⟩ v) g t at' bv xv' hop' E := by
  have same : ∀ {u : Value}, W.cell? ⟨g, k, none⟩ = some u → (W.setCell ⟨g, k, none⟩ v).cell? ⟨g, k, none⟩ = some v := fun h => put_same h
  have oth : ∀ o, k ≠ o → (W.setCell ⟨g, k, none⟩ v).cell? ⟨g, o, none⟩ = W.cell? ⟨g, o, none⟩ := fun o ho => put_oth ho
  obtain ⟨c0, c1, c2, c3, c4, c5, c6, c16, c17, c18, c19, z, fz⟩ := h
  refine ⟨?_, ?_, ?_, ?_, ?_, ?_, ?_, ?_, ?_, ?_, ?_, ?_, fun o => by rw [World.frozen?_setCell]; exact fz o⟩
  · by_cases e : k = 0
    · subst e; rw [if_pos rfl] at q0; rw [same c0, q0]
    · rw [if_neg e] at q0; rw [oth 0 e, c0, q0]
  · by_cases e : k = 1
    · subst e; rw [if_pos rfl] at q1; rw [same c1, q1]
    · rw [if_neg e] at q1; rw [oth 1 e, c1, q1]
  · rw [oth 2 q2, c2]
  · by_cases e : k = 3
    · subst e; rw [if_pos rfl] at q3; rw [same c3, q3]
    · rw [if_neg e] at q3; rw [oth 3 e, c3, q3]
  · by_cases e : k = 4
    · subst e; rw [if_pos rfl] at q4; rw [same c4, q4]
    · rw [if_neg e] at q4; rw [oth 4 e, c4, q4]
  · by_cases e : k = 5
    · subst e; rw [if_pos rfl] at q5; rw [same c5, q5]
    · rw [if_neg e] at q5; rw [oth 5 e, c5, q5]
  · rw [oth 6 q6, c6]
  · by_cases e : k = 16
    · subst e; rw [if_pos rfl] at q16; rw [same c16, q16]
    · rw [if_neg e] at q16; rw [oth 16 e, c16, q16]
  · by_cases e : k = 17
    · subst e; rw [if_pos rfl] at q17; rw [same c17, q17]
    · rw [if_neg e] at q17; rw [oth 17 e, c17, q17]
  · by_cases e : k = 18
    · subst e; rw [if_pos rfl] at q18; rw [same c18, q18]
    · rw [if_neg e] at q18; rw [oth 18 e, c18, q18]
  · by_cases e : k = 19
    · subst e; rw [if_pos rfl] at q19; rw [same c19, q19]
    · rw [if_neg e] at q19; rw [oth 19 e, c19, q19]
  · intro o h1 h2 h3
    rw [oth o (by omega)]
    exact z o h1 h2 h3
set_option maxHeartbeats 1000000 in
theorem rsize6_any (g : Nat) (s : St) (at_ : Nat) (a : Option Addr) (c : Nat) (L : List Int) (xv : Value) (hop E : Bool) (w : World) (hT : TW w g s at_ (.slice a L.length c) xv hop E) (hr : Row w a L) (hs : s.l = L.drop at_) (hat : at_ ≤ L.length) :
    Calls Try.prog 62 #[.pointer (some ⟨g, 0, none⟩)] w fun e w' => e = .returned (.int .i64 (if s.l.length < hsz s.next s.l then -1 else (hsz s.next s.l : Int))) ∧ ∃ n, w' = w.drewN n := by
  have sm := hr.small
  have hll : s.l.length = L.length - at_ := by rw [hs, List.length_drop]
  have c0 := hT.c0
  have c1 := hT.c1
  have c2 := hT.c2
  obtain ⟨R, hR⟩ : ∃ R : Int, (if s.l.length < hsz s.next s.l then -1 else (hsz s.next s.l : Int)) = R := ⟨_, rfl⟩
  rw [hR]
  have HR : Hid ((if s.l.length < hsz s.next s.l then -1 else (hsz s.next s.l : Int)) = R) := hR
  clear hR
  by_cases hk : s.next = 44
  · have e8 : hsz s.next s.l = 8 := by unfold hsz; rw [if_pos (.inl hk)]
    have hk' : (s.next != 44) = false := by simp [hk]
    by_cases hl : L.length - at_ < 8
    · have eR : Hid (-1 = R) := by show -1 = R; rw [← HR.out, e8, if_pos (by omega)]
      have hl' : (L.length : Int) - (at_ : Int) < 8 := by omega
      clear hT e8 HR hr
      go_enter Try.func62, Try.ntmps62
      go_wp2
      go_quiet (fail)
      go_wp2
      go_ret
      exact ⟨ret_int eR.out, nq, rfl⟩
    · have eR : Hid (8 = R) := by show 8 = R; rw [← HR.out, e8, if_neg (by omega)]; rfl
      have hl' : ¬ (L.length : Int) - (at_ : Int) < 8 := by omega
      clear hT e8 HR hr
      go_enter Try.func62, Try.ntmps62
      go_wp2
      go_quiet (fail)
      go_wp2
      go_ret
      exact ⟨ret_int eR.out, nq, rfl⟩
  · have hk' : (s.next != 44) = true := by simpa using hk
    by_cases h2 : L.length - at_ < 2
    · have e8 : hsz s.next s.l = 8 := by unfold hsz; rw [if_pos (.inr (by omega))]
      have eR : Hid (-1 = R) := by show -1 = R; rw [← HR.out, e8, if_pos (by omega)]
      have hl' : (L.length : Int) - (at_ : Int) < 2 := by omega
      clear hT e8 HR hr
      go_enter Try.func62, Try.ntmps62
      go_wp2
      go_quiet (fail)
      go_wp2
      go_ret
      exact ⟨ret_int eR.out, nq, rfl⟩
    · have e8 : hsz s.next s.l = ((L.getD (at_ + 1) 0).toNat + 1) * 8 := by unfold hsz; rw [if_neg (by omega), hs, getD_drop6]
      have h2' : ¬ (L.length : Int) - (at_ : Int) < 2 := by omega
      obtain ⟨bk, off, rfl, hcl⟩ := hr.cells (by omega)
      have d1 := hcl (at_ + 1) (by omega)
      have b1 := hr.bytes.get (at_ + 1)
      rw [e8] at HR
      clear hcl hr hT e8
      generalize L.getD (at_ + 1) 0 = x at *
      obtain ⟨m, rfl⟩ := Int.eq_ofNat_of_zero_le b1.1
      rw [Int.toNat_natCast] at HR
      have i1 : (at_ : Int) + 1 < (L.length : Int) := by omega
      by_cases hl : L.length - at_ < (m + 1) * 8
      · have eR : Hid (-1 = R) := by show -1 = R; rw [← HR.out, if_pos (by omega)]
        have hl' : (L.length : Int) - (at_ : Int) < ((m : Int) + 1) * 8 := by omega
        clear HR
        go_enter Try.func62, Try.ntmps62
        go_wp2
        go_quiet (fail)
        go_wp2
        go_quiet (fail)
        go_wp2
        go_quiet (fail)
        go_wp2
        go_ret
        exact ⟨ret_int eR.out, _, by rw [drewN_add, drewN_add]⟩
      · have eR : Hid (((m : Int) + 1) * 8 = R) := by show _ = R; rw [← HR.out, if_neg (by omega)]; omega
        have hl' : ¬ (L.length : Int) - (at_ : Int) < ((m : Int) + 1) * 8 := by omega
        clear HR
        go_enter Try.func62, Try.ntmps62
        go_wp2
        go_quiet (fail)
        go_wp2
        go_quiet (fail)
        go_wp2
        go_quiet (fail)
        go_wp2
        go_ret
        exact ⟨ret_int eR.out, _, by rw [drewN_add, drewN_add]⟩
end Go.Proofs.Ytmnkdogdligckaa
