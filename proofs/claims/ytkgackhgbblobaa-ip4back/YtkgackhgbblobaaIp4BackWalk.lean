/- The law Ip4Back returns true. -/
import Derived.Test.YtkgackhgbblobaaIp4S
import Derived.Deep.RegionHeld3
namespace Go.Proofs.Ytkgackhgbblobaa
open Go.RowKit
set_option linter.unusedVariables false
set_option linter.unusedSimpArgs false

theorem bare_ret {R : Ending → World → Prop} {a : Act} {w : World} {g : Nat} {v0 v1 v2 v3 v4 v5 v6 v7 v8 v9 v10 v11 v12 v13 v14 : Value} (s : SIp w g v0 v1 v2 v3 v4 v5 v6 v7 v8 v9 v10 v11 v12 v13 v14) (h2 : a.tmps[2]?.getD undef = .pointer (some ⟨g, 0, none⟩)) (hd : a.defers = [])
    (hR : R (.returned (.agg #[v0, v1, v2, v3, v4, v5, v6, v7, v8, v9, v10, v11, v12, v13, v14])) w) : bodyPost Try.prog Try.f16 R .ret a w := by
  obtain ⟨c0, c1, c2, c3, c4, c5, c6, c7, c8, c9, c10, c11, c12, c13, c14⟩ := s
  refine bodyPost_ret (v := .agg #[v0, v1, v2, v3, v4, v5, v6, v7, v8, v9, v10, v11, v12, v13, v14]) ?_ hd hR
  simp [results, Try.results16, go_sem, h2, c0, c1, c2, c3, c4, c5, c6, c7, c8, c9, c10, c11, c12, c13, c14]

set_option maxRecDepth 100000 in
set_option maxHeartbeats 2000000 in
theorem bare_true (f sf sh sl df dh dl pr ho : Int) (id of : Int) (mo : Bool) (xa : Option Addr) (xc : Nat) (da : Option Addr) (dat : List Int) (dc : Nat) (w : World) :
    Calls Try.prog 16 #[.agg #[.int .i64 f, .int .i64 sf, .int .u64 sh, .int .u64 sl, .int .i64 df, .int .u64 dh, .int .u64 dl, .int .i64 pr, .int .i64 ho, .bool true, .int .u32 id, .int .i64 of, .bool mo, .slice xa 0 xc, .slice da dat.length dc]] w fun e w' => e = .returned (.agg #[.int .i64 f, .int .i64 sf, .int .u64 sh, .int .u64 sl, .int .i64 df, .int .u64 dh, .int .u64 dl, .int .i64 pr, .int .i64 ho, .bool true, .int .u32 id, .int .i64 of, .bool mo, .slice xa 0 xc, .slice da dat.length dc]) ∧ Below w.heap.size w w' := by
  obtain ⟨W0, hW0⟩ : ∃ W0, (w.alloc (.cells #[.int .i64 f, .int .i64 sf, .int .u64 sh, .int .u64 sl, .int .i64 df, .int .u64 dh, .int .u64 dl, .int .i64 pr, .int .i64 ho, .bool true, .int .u32 id, .int .i64 of, .bool mo, .slice xa 0 xc, .slice da dat.length dc] 29)).alloc (.cells zIp 29) = W0 := ⟨_, rfl⟩
  have b1 : Below (w.alloc (.cells #[.int .i64 f, .int .i64 sf, .int .u64 sh, .int .u64 sl, .int .i64 df, .int .u64 dh, .int .u64 dl, .int .i64 pr, .int .i64 ho, .bool true, .int .u32 id, .int .i64 of, .bool mo, .slice xa 0 xc, .slice da dat.length dc] 29)).heap.size (w.alloc (.cells #[.int .i64 f, .int .i64 sf, .int .u64 sh, .int .u64 sl, .int .i64 df, .int .u64 dh, .int .u64 dl, .int .i64 pr, .int .i64 ho, .bool true, .int .u32 id, .int .i64 of, .bool mo, .slice xa 0 xc, .slice da dat.length dc] 29)) W0 := by rw [← hW0]; exact (Below.refl _ _).alloc (Nat.le_refl _) _
  have sp : SIp W0 w.heap.size (.int .i64 f) (.int .i64 sf) (.int .u64 sh) (.int .u64 sl) (.int .i64 df) (.int .u64 dh) (.int .u64 dl) (.int .i64 pr) (.int .i64 ho) (.bool true) (.int .u32 id) (.int .i64 of) (.bool mo) (.slice xa 0 xc) (.slice da dat.length dc) := (sIp_new w _ _ _ _ _ _ _ _ _ _ _ _ _ _ _).below (by simp) b1
  have fzp : ∀ o, W0.frozen? ⟨w.heap.size, o, none⟩ = false := fun o => (b1.frozen (p := ⟨w.heap.size, o, none⟩) (by simp)).trans (by simp)
  have Z : Hid (ZIp W0 (w.heap.size + 1)) := by
    have := zIp_new (w.alloc (.cells #[.int .i64 f, .int .i64 sf, .int .u64 sh, .int .u64 sl, .int .i64 df, .int .u64 dh, .int .u64 dl, .int .i64 pr, .int .i64 ho, .bool true, .int .u32 id, .int .i64 of, .bool mo, .slice xa 0 xc, .slice da dat.length dc] 29))
    rw [hW0, World.size_alloc] at this
    exact this
  have bb : Hid (Below w.heap.size w W0) := ((Below.refl _ _).alloc (Nat.le_refl _) _).trans (b1.mono (by simp))
  obtain ⟨e0, e1, e2, e3, e4, e5, e6, e7, e8, e9, e10, e11, e12, e13, e14, ez⟩ := Z.out
  obtain ⟨d0, d1, d2, d3, d4, d5, d6, d7, d8, d9, d10, d11, d12, d13, d14⟩ := sp
  clear b1
  go_enter Try.func16, Try.ntmps16
  go_wp2
  exact bare_ret (sIp_set Z.out _ _ _ _ _ _ _ _ _ _ _ _ _ _ _) rfl rfl ⟨rfl, set15_below bb.out (Nat.le_succ _) _ _ _ _ _ _ _ _ _ _ _ _ _ _ _⟩

set_option maxRecDepth 100000 in
set_option maxHeartbeats 2000000 in
theorem bare_false (f sf sh sl df dh dl pr ho : Int) (id of : Int) (mo : Bool) (xa : Option Addr) (xc : Nat) (da : Option Addr) (dat : List Int) (dc : Nat) (w : World) :
    Calls Try.prog 16 #[.agg #[.int .i64 f, .int .i64 sf, .int .u64 sh, .int .u64 sl, .int .i64 df, .int .u64 dh, .int .u64 dl, .int .i64 pr, .int .i64 ho, .bool false, .int .u32 id, .int .i64 of, .bool mo, .slice xa 0 xc, .slice da dat.length dc]] w fun e w' => e = .returned (.agg #[.int .i64 f, .int .i64 sf, .int .u64 sh, .int .u64 sl, .int .i64 df, .int .u64 dh, .int .u64 dl, .int .i64 pr, .int .i64 ho, .bool false, .int .u32 0, .int .i64 0, .bool false, .slice xa 0 xc, .slice da dat.length dc]) ∧ Below w.heap.size w w' := by
  obtain ⟨W0, hW0⟩ : ∃ W0, (w.alloc (.cells #[.int .i64 f, .int .i64 sf, .int .u64 sh, .int .u64 sl, .int .i64 df, .int .u64 dh, .int .u64 dl, .int .i64 pr, .int .i64 ho, .bool false, .int .u32 id, .int .i64 of, .bool mo, .slice xa 0 xc, .slice da dat.length dc] 29)).alloc (.cells zIp 29) = W0 := ⟨_, rfl⟩
  have b1 : Below (w.alloc (.cells #[.int .i64 f, .int .i64 sf, .int .u64 sh, .int .u64 sl, .int .i64 df, .int .u64 dh, .int .u64 dl, .int .i64 pr, .int .i64 ho, .bool false, .int .u32 id, .int .i64 of, .bool mo, .slice xa 0 xc, .slice da dat.length dc] 29)).heap.size (w.alloc (.cells #[.int .i64 f, .int .i64 sf, .int .u64 sh, .int .u64 sl, .int .i64 df, .int .u64 dh, .int .u64 dl, .int .i64 pr, .int .i64 ho, .bool false, .int .u32 id, .int .i64 of, .bool mo, .slice xa 0 xc, .slice da dat.length dc] 29)) W0 := by rw [← hW0]; exact (Below.refl _ _).alloc (Nat.le_refl _) _
  have sp : SIp W0 w.heap.size (.int .i64 f) (.int .i64 sf) (.int .u64 sh) (.int .u64 sl) (.int .i64 df) (.int .u64 dh) (.int .u64 dl) (.int .i64 pr) (.int .i64 ho) (.bool false) (.int .u32 id) (.int .i64 of) (.bool mo) (.slice xa 0 xc) (.slice da dat.length dc) := (sIp_new w _ _ _ _ _ _ _ _ _ _ _ _ _ _ _).below (by simp) b1
  have fzp : ∀ o, W0.frozen? ⟨w.heap.size, o, none⟩ = false := fun o => (b1.frozen (p := ⟨w.heap.size, o, none⟩) (by simp)).trans (by simp)
  have Z : Hid (ZIp W0 (w.heap.size + 1)) := by
    have := zIp_new (w.alloc (.cells #[.int .i64 f, .int .i64 sf, .int .u64 sh, .int .u64 sl, .int .i64 df, .int .u64 dh, .int .u64 dl, .int .i64 pr, .int .i64 ho, .bool false, .int .u32 id, .int .i64 of, .bool mo, .slice xa 0 xc, .slice da dat.length dc] 29))
    rw [hW0, World.size_alloc] at this
    exact this
  have bb : Hid (Below w.heap.size w W0) := ((Below.refl _ _).alloc (Nat.le_refl _) _).trans (b1.mono (by simp))
  obtain ⟨e0, e1, e2, e3, e4, e5, e6, e7, e8, e9, e10, e11, e12, e13, e14, ez⟩ := Z.out
  obtain ⟨d0, d1, d2, d3, d4, d5, d6, d7, d8, d9, d10, d11, d12, d13, d14⟩ := sp
  clear b1
  have b2 : Below w.heap.size w (((W0.setCell ⟨w.heap.size, 10, none⟩ (.int .u32 0)).setCell ⟨w.heap.size, 11, none⟩ (.int .i64 0)).setCell ⟨w.heap.size, 12, none⟩ (.bool false)) := ((bb.out.setCell (Nat.le_refl _) _).setCell (Nat.le_refl _) _).setCell (Nat.le_refl _) _
  have z2 : ZIp (((W0.setCell ⟨w.heap.size, 10, none⟩ (.int .u32 0)).setCell ⟨w.heap.size, 11, none⟩ (.int .i64 0)).setCell ⟨w.heap.size, 12, none⟩ (.bool false)) (w.heap.size + 1) := by
    obtain ⟨e0, e1, e2, e3, e4, e5, e6, e7, e8, e9, e10, e11, e12, e13, e14, ez⟩ := Z.out
    constructor
    all_goals first
      | (rw [put_other (by simp), put_other (by simp), put_other (by simp)]; assumption)
      | (intro o; simp [ez])
  go_enter Try.func16, Try.ntmps16
  go_wp2
  exact bare_ret (sIp_set z2 _ _ _ _ _ _ _ _ _ _ _ _ _ _ _) rfl rfl ⟨rfl, set15_below b2 (Nat.le_succ _) _ _ _ _ _ _ _ _ _ _ _ _ _ _ _⟩

theorem bare_any (f sf sh sl df dh dl pr ho : Int) (fg : Bool) (id of : Int) (mo : Bool) (ID OF : Int) (MO : Bool) (xa : Option Addr) (xc : Nat) (da : Option Addr) (dat : List Int) (dc : Nat) (w : World)
    (h : Pk.bare (⟨f, ⟨sf, sh, sl⟩, ⟨df, dh, dl⟩, pr, ho, fg, id, of, mo, dat⟩ : Pk) = ⟨f, ⟨sf, sh, sl⟩, ⟨df, dh, dl⟩, pr, ho, fg, ID, OF, MO, dat⟩) :
    Calls Try.prog 16 #[.agg #[.int .i64 f, .int .i64 sf, .int .u64 sh, .int .u64 sl, .int .i64 df, .int .u64 dh, .int .u64 dl, .int .i64 pr, .int .i64 ho, .bool fg, .int .u32 id, .int .i64 of, .bool mo, .slice xa 0 xc, .slice da dat.length dc]] w fun e w' => e = .returned (.agg #[.int .i64 f, .int .i64 sf, .int .u64 sh, .int .u64 sl, .int .i64 df, .int .u64 dh, .int .u64 dl, .int .i64 pr, .int .i64 ho, .bool fg, .int .u32 ID, .int .i64 OF, .bool MO, .slice xa 0 xc, .slice da dat.length dc]) ∧ Below w.heap.size w w' := by
  unfold Pk.bare at h
  cases fg
  · simp only [Bool.false_eq_true, if_false, Pk.mk.injEq, true_and, and_true] at h
    obtain ⟨rfl, rfl, rfl⟩ := h
    exact bare_false f sf sh sl df dh dl pr ho id of mo xa xc da dat dc w
  · simp only [if_true, Pk.mk.injEq, true_and, and_true] at h
    obtain ⟨rfl, rfl, rfl⟩ := h
    exact bare_true f sf sh sl df dh dl pr ho id of mo xa xc da dat dc w

set_option maxRecDepth 100000 in
set_option maxHeartbeats 8000000 in
theorem ip4Back_walk (q : Pk) (xa : Option Addr) (xn xc : Nat) (da : Option Addr) (dc : Nat) (W : World) (ok : q.ok) (hdc : q.data.length ≤ dc) (hdm : dc ≤ 140737488351232) (hdn : da = none → dc = 0) (hr : Row W da q.data) :
    Calls Try.prog 5 #[q.v (.slice xa xn xc) (.slice da q.data.length dc)] W fun e w' => e = .returned (.bool true) ∧ Below W.heap.size W w' := by
  obtain ⟨f, ⟨sf, sh, sl⟩, ⟨df, dh, dl⟩, pr, ho, fg, id, of, mo, dat⟩ := q
  simp only at hdc hr
  show Calls Try.prog 5 #[.agg #[.int .i64 f, .int .i64 sf, .int .u64 sh, .int .u64 sl, .int .i64 df, .int .u64 dh, .int .u64 dl, .int .i64 pr, .int .i64 ho, .bool fg, .int .u32 id, .int .i64 of, .bool mo, .slice xa xn xc, .slice da dat.length dc]] W _
  have b0 : Hid (Below W.heap.size W (W.alloc (.cells #[.int .i64 f, .int .i64 sf, .int .u64 sh, .int .u64 sl, .int .i64 df, .int .u64 dh, .int .u64 dl, .int .i64 pr, .int .i64 ho, .bool fg, .int .u32 id, .int .i64 of, .bool mo, .slice xa xn xc, .slice da dat.length dc] 29))) := (Below.refl _ _).alloc (Nat.le_refl _) _
  cases hm : Pk.may (⟨f, ⟨sf, sh, sl⟩, ⟨df, dh, dl⟩, pr, ho, fg, id, of, mo, dat⟩ : Pk) xn with
  | false =>
    have KN : Hid (∀ W', Calls Try.prog 13 #[.agg #[.int .i64 f, .int .i64 sf, .int .u64 sh, .int .u64 sl, .int .i64 df, .int .u64 dh, .int .u64 dl, .int .i64 pr, .int .i64 ho, .bool fg, .int .u32 id, .int .i64 of, .bool mo, .slice xa xn xc, .slice da dat.length dc]] W' fun e w' => e = .returned (.tuple #[.slice none 0 0, .int .i64 1]) ∧ Below W'.heap.size W' w') := fun W' => build_no f sf sh sl df dh dl pr ho fg id of mo xa xn xc da dat dc W' (by omega) ok.off hm
    clear hr ok hm
    go_enter Try.func5, Try.ntmps5
    go_wp2_with fail
    refine (KN.out _).mono ?_
    rintro e W1 ⟨rfl, b1⟩
    have bb : Hid (Below W.heap.size W W1) := b0.out.trans (b1.mono b0.out.size)
    clear b1 KN
    go_wp2_with fail
    refine (alive_any W1).mono ?_
    rintro e W2 ⟨rfl, b2⟩
    have bc : Hid (Below W.heap.size W W2) := bb.out.trans (b2.mono bb.out.size)
    clear b2
    go_wp2_with fail
    go_ret
    exact ⟨rfl, bc.out⟩
  | true =>
    obtain ⟨hmay, rfl⟩ := may_iff.1 hm
    obtain ⟨Q, hQ⟩ : ∃ Q, Pk.bare (⟨f, ⟨sf, sh, sl⟩, ⟨df, dh, dl⟩, pr, ho, fg, id, of, mo, dat⟩ : Pk) = Q := ⟨_, rfl⟩
    have mq : May Q := hQ ▸ hmay.bare
    have okq : Q.ok := hQ ▸ ok_bare ok
    have qb : Q.isBare := hQ ▸ bare_isBare (⟨f, ⟨sf, sh, sl⟩, ⟨df, dh, dl⟩, pr, ho, fg, id, of, mo, dat⟩ : Pk)
    have hQd : Q.data = dat := by rw [← hQ]; unfold Pk.bare; split <;> rfl
    obtain ⟨B, hB⟩ : ∃ B, Q.made = B := ⟨_, rfl⟩
    have lB : B.length = 20 + Q.data.length := by rw [← hB]; exact made_len mq
    have hBs : B.length ≤ 65535 := by have h1 := mq.over; have h2 := mq.off0; omega
    have hB20 : 20 ≤ B.length := by omega
    have KY : Hid (∀ W', Row W' da dat → Calls Try.prog 13 #[.agg #[.int .i64 f, .int .i64 sf, .int .u64 sh, .int .u64 sl, .int .i64 df, .int .u64 dh, .int .u64 dl, .int .i64 pr, .int .i64 ho, .bool fg, .int .u32 id, .int .i64 of, .bool mo, .slice xa 0 xc, .slice da dat.length dc]] W' fun e w' => ∃ a' c', e = .returned (.tuple #[.slice a' B.length c', .int .i64 0]) ∧ Fresh W' w' a' c' B) := fun W' h' => by
      have := build_yes f sf sh sl df dh dl pr ho fg id of mo xa xc da dat dc W' h' hdn ok hmay
      rw [hQ, hB] at this
      exact this
    have r0 : Row (W.alloc (.cells #[.int .i64 f, .int .i64 sf, .int .u64 sh, .int .u64 sl, .int .i64 df, .int .u64 dh, .int .u64 dl, .int .i64 pr, .int .i64 ho, .bool fg, .int .u32 id, .int .i64 of, .bool mo, .slice xa 0 xc, .slice da dat.length dc] 29)) da dat := hr.alloc _
    have HQ : Hid (May Q ∧ Q.ok ∧ Q.isBare ∧ Q.made = B ∧ Q.data = dat ∧ M.Bytes B) := ⟨mq, okq, qb, hB, hQd, by rw [← hB]; exact made_bytes mq okq.data⟩
    have HQQ : Hid (Pk.bare (⟨f, ⟨sf, sh, sl⟩, ⟨df, dh, dl⟩, pr, ho, fg, id, of, mo, dat⟩ : Pk) = Q) := hQ
    obtain ⟨n, hn⟩ : ∃ n, B.length = n := ⟨_, rfl⟩
    rw [hn] at hBs hB20
    have HN : Hid (B.length = n) := hn
    clear hr ok hm hmay mq okq qb hQd hB lB hQ hn
    go_enter Try.func5, Try.ntmps5
    go_wp2_with fail
    refine (KY.out _ r0).mono ?_
    rintro e W1 ⟨a1, c1, rfl, f1⟩
    have bb : Hid (Below W.heap.size W W1) := b0.out.trans (f1.below.mono b0.out.size)
    have F1 : Hid (Owns W1 W.heap.size (.slice a1 B.length c1) B ∧ B.length ≤ c1 ∧ (a1 = none → c1 = 0) ∧ Row W1 a1 B ∧ c1 ≤ 9223372036854775807) := ⟨owns_le b0.out.size f1.owns, f1.room, f1.nil, f1.row, f1.cap_le⟩
    have SP : Hid (SIp W1 W.heap.size (.int .i64 f) (.int .i64 sf) (.int .u64 sh) (.int .u64 sl) (.int .i64 df) (.int .u64 dh) (.int .u64 dl) (.int .i64 pr) (.int .i64 ho) (.bool fg) (.int .u32 id) (.int .i64 of) (.bool mo) (.slice xa 0 xc) (.slice da dat.length dc)) := (sIp_new W _ _ _ _ _ _ _ _ _ _ _ _ _ _ _).below (by simp) f1.below
    have RD : Hid (Row W1 da dat) := r0.below f1.below
    rw [HN.out]
    clear f1 r0 KY
    obtain ⟨ID, OF, MO, hbare⟩ : ∃ ID OF MO, Q = ⟨f, ⟨sf, sh, sl⟩, ⟨df, dh, dl⟩, pr, ho, fg, ID, OF, MO, dat⟩ := by
      rw [← HQQ.out]
      unfold Pk.bare
      cases fg
      · exact ⟨0, 0, false, rfl⟩
      · exact ⟨id, of, mo, rfl⟩
    have HB2 : Hid (Pk.bare (⟨f, ⟨sf, sh, sl⟩, ⟨df, dh, dl⟩, pr, ho, fg, id, of, mo, dat⟩ : Pk) = ⟨f, ⟨sf, sh, sl⟩, ⟨df, dh, dl⟩, pr, ho, fg, ID, OF, MO, dat⟩) := HQQ.out.trans hbare
    have KP : Hid (Calls Try.prog 9 #[.slice a1 n c1] W1 fun e w' => ∃ a2 c2, e = .returned (.tuple #[.agg #[.int .i64 f, .int .i64 sf, .int .u64 sh, .int .u64 sl, .int .i64 df, .int .u64 dh, .int .u64 dl, .int .i64 pr, .int .i64 ho, .bool fg, .int .u32 ID, .int .i64 OF, .bool MO, .slice none 0 0, .slice a2 dat.length c2], .int .i64 0]) ∧ Fresh W1 w' a2 c2 dat) := by
      have := parse_any a1 c1 B W1 F1.out.2.2.2.1 F1.out.2.2.1 (by rw [HN.out]; omega) F1.out.2.1 F1.out.2.2.2.2
      have e1 : perr B = 0 := by rw [← HQ.out.2.2.2.1]; exact made_reads HQ.out.1
      have e2 : parsed B = ⟨f, ⟨sf, sh, sl⟩, ⟨df, dh, dl⟩, pr, ho, fg, ID, OF, MO, dat⟩ := by
        unfold parsed
        rw [if_pos e1, ← HQ.out.2.2.2.1, made_pkt HQ.out.1 HQ.out.2.1 HQ.out.2.2.1, hbare]
      rw [HN.out, e1, e2] at this
      exact this
    clear hbare
    go_wp2_with fail
    refine KP.out.mono ?_
    rintro e W2 ⟨a2, c2, rfl, f2⟩
    obtain ⟨gp, hgp⟩ : ∃ gp, W2.heap.size = gp := ⟨_, rfl⟩
    obtain ⟨W3, hW3⟩ : ∃ W3, W2.alloc (.cells #[.int .i64 f, .int .i64 sf, .int .u64 sh, .int .u64 sl, .int .i64 df, .int .u64 dh, .int .u64 dl, .int .i64 pr, .int .i64 ho, .bool fg, .int .u32 ID, .int .i64 OF, .bool MO, .slice none 0 0, .slice a2 dat.length c2] 29) = W3 := ⟨_, rfl⟩
    have b23 : Below W2.heap.size W2 W3 := by rw [← hW3]; exact (Below.refl _ _).alloc (Nat.le_refl _) _
    have s3 : SIp W3 gp (.int .i64 f) (.int .i64 sf) (.int .u64 sh) (.int .u64 sl) (.int .i64 df) (.int .u64 dh) (.int .u64 dl) (.int .i64 pr) (.int .i64 ho) (.bool fg) (.int .u32 ID) (.int .i64 OF) (.bool MO) (.slice none 0 0) (.slice a2 dat.length c2) := by rw [← hW3, ← hgp]; exact sIp_new W2 _ _ _ _ _ _ _ _ _ _ _ _ _ _ _
    have b13 : Below W1.heap.size W1 W3 := f2.below.trans (b23.mono f2.below.size)
    have hWs : W.heap.size < W1.heap.size := World.block_lt_of_cell? W1 _ SP.out.c0
    have s1 := SP.out.below hWs b13
    have r3 : Hid (Row W3 a2 dat ∧ Row W3 da dat) := ⟨f2.row.below b23, RD.out.below b13⟩
    have B3 : Hid (Below W.heap.size W W3) := bb.out.trans (b13.mono bb.out.size)
    have st : ∀ X, Below W3.heap.size W3 X → X.cell? ⟨gp, 0, none⟩ = some (.int .i64 f) ∧ X.cell? ⟨gp, 1, none⟩ = some (.int .i64 sf) ∧ X.cell? ⟨gp, 2, none⟩ = some (.int .u64 sh) ∧ X.cell? ⟨gp, 3, none⟩ = some (.int .u64 sl) ∧ X.cell? ⟨gp, 4, none⟩ = some (.int .i64 df) ∧ X.cell? ⟨gp, 5, none⟩ = some (.int .u64 dh) ∧ X.cell? ⟨gp, 6, none⟩ = some (.int .u64 dl) ∧ X.cell? ⟨gp, 7, none⟩ = some (.int .i64 pr) ∧ X.cell? ⟨gp, 8, none⟩ = some (.int .i64 ho) ∧ X.cell? ⟨gp, 9, none⟩ = some (.bool fg) ∧ X.cell? ⟨gp, 10, none⟩ = some (.int .u32 ID) ∧ X.cell? ⟨gp, 11, none⟩ = some (.int .i64 OF) ∧ X.cell? ⟨gp, 12, none⟩ = some (.bool MO) ∧ X.cell? ⟨gp, 13, none⟩ = some (.slice none 0 0) ∧ X.cell? ⟨gp, 14, none⟩ = some (.slice a2 dat.length c2) ∧ X.cell? ⟨W.heap.size, 0, none⟩ = some (.int .i64 f) ∧ X.cell? ⟨W.heap.size, 1, none⟩ = some (.int .i64 sf) ∧ X.cell? ⟨W.heap.size, 2, none⟩ = some (.int .u64 sh) ∧ X.cell? ⟨W.heap.size, 3, none⟩ = some (.int .u64 sl) ∧ X.cell? ⟨W.heap.size, 4, none⟩ = some (.int .i64 df) ∧ X.cell? ⟨W.heap.size, 5, none⟩ = some (.int .u64 dh) ∧ X.cell? ⟨W.heap.size, 6, none⟩ = some (.int .u64 dl) ∧ X.cell? ⟨W.heap.size, 7, none⟩ = some (.int .i64 pr) ∧ X.cell? ⟨W.heap.size, 8, none⟩ = some (.int .i64 ho) ∧ X.cell? ⟨W.heap.size, 9, none⟩ = some (.bool fg) ∧ X.cell? ⟨W.heap.size, 10, none⟩ = some (.int .u32 id) ∧ X.cell? ⟨W.heap.size, 11, none⟩ = some (.int .i64 of) ∧ X.cell? ⟨W.heap.size, 12, none⟩ = some (.bool mo) ∧ X.cell? ⟨W.heap.size, 13, none⟩ = some (.slice xa 0 xc) ∧ X.cell? ⟨W.heap.size, 14, none⟩ = some (.slice da dat.length dc) := fun X hX => by
      obtain ⟨f0, f1, f2, f3, f4, f5, f6, f7, f8, f9, f10, f11, f12, f13, f14⟩ := s3.below (by rw [← hgp, ← hW3]; simp) hX
      obtain ⟨g0, g1, g2, g3, g4, g5, g6, g7, g8, g9, g10, g11, g12, g13, g14⟩ := s1.below (Nat.lt_of_lt_of_le hWs b13.size) hX
      exact ⟨f0, f1, f2, f3, f4, f5, f6, f7, f8, f9, f10, f11, f12, f13, f14, g0, g1, g2, g3, g4, g5, g6, g7, g8, g9, g10, g11, g12, g13, g14⟩
    have K1 : Hid (∀ X, Below W3.heap.size W3 X → Calls Try.prog 16 #[.agg #[.int .i64 f, .int .i64 sf, .int .u64 sh, .int .u64 sl, .int .i64 df, .int .u64 dh, .int .u64 dl, .int .i64 pr, .int .i64 ho, .bool fg, .int .u32 id, .int .i64 of, .bool mo, .slice xa 0 xc, .slice da dat.length dc]] X fun e w' => e = .returned (.agg #[.int .i64 f, .int .i64 sf, .int .u64 sh, .int .u64 sl, .int .i64 df, .int .u64 dh, .int .u64 dl, .int .i64 pr, .int .i64 ho, .bool fg, .int .u32 ID, .int .i64 OF, .bool MO, .slice xa 0 xc, .slice da dat.length dc]) ∧ (w'.cell? ⟨gp, 0, none⟩ = some (.int .i64 f) ∧ w'.cell? ⟨gp, 1, none⟩ = some (.int .i64 sf) ∧ w'.cell? ⟨gp, 2, none⟩ = some (.int .u64 sh) ∧ w'.cell? ⟨gp, 3, none⟩ = some (.int .u64 sl) ∧ w'.cell? ⟨gp, 4, none⟩ = some (.int .i64 df) ∧ w'.cell? ⟨gp, 5, none⟩ = some (.int .u64 dh) ∧ w'.cell? ⟨gp, 6, none⟩ = some (.int .u64 dl) ∧ w'.cell? ⟨gp, 7, none⟩ = some (.int .i64 pr) ∧ w'.cell? ⟨gp, 8, none⟩ = some (.int .i64 ho) ∧ w'.cell? ⟨gp, 9, none⟩ = some (.bool fg) ∧ w'.cell? ⟨gp, 10, none⟩ = some (.int .u32 ID) ∧ w'.cell? ⟨gp, 11, none⟩ = some (.int .i64 OF) ∧ w'.cell? ⟨gp, 12, none⟩ = some (.bool MO) ∧ w'.cell? ⟨gp, 13, none⟩ = some (.slice none 0 0) ∧ w'.cell? ⟨gp, 14, none⟩ = some (.slice a2 dat.length c2) ∧ w'.cell? ⟨W.heap.size, 0, none⟩ = some (.int .i64 f) ∧ w'.cell? ⟨W.heap.size, 1, none⟩ = some (.int .i64 sf) ∧ w'.cell? ⟨W.heap.size, 2, none⟩ = some (.int .u64 sh) ∧ w'.cell? ⟨W.heap.size, 3, none⟩ = some (.int .u64 sl) ∧ w'.cell? ⟨W.heap.size, 4, none⟩ = some (.int .i64 df) ∧ w'.cell? ⟨W.heap.size, 5, none⟩ = some (.int .u64 dh) ∧ w'.cell? ⟨W.heap.size, 6, none⟩ = some (.int .u64 dl) ∧ w'.cell? ⟨W.heap.size, 7, none⟩ = some (.int .i64 pr) ∧ w'.cell? ⟨W.heap.size, 8, none⟩ = some (.int .i64 ho) ∧ w'.cell? ⟨W.heap.size, 9, none⟩ = some (.bool fg) ∧ w'.cell? ⟨W.heap.size, 10, none⟩ = some (.int .u32 id) ∧ w'.cell? ⟨W.heap.size, 11, none⟩ = some (.int .i64 of) ∧ w'.cell? ⟨W.heap.size, 12, none⟩ = some (.bool mo) ∧ w'.cell? ⟨W.heap.size, 13, none⟩ = some (.slice xa 0 xc) ∧ w'.cell? ⟨W.heap.size, 14, none⟩ = some (.slice da dat.length dc)) ∧ Below W3.heap.size W3 w') := by
      intro X hX
      refine (bare_any f sf sh sl df dh dl pr ho fg id of mo ID OF MO xa xc da dat dc X HB2.out).mono ?_
      rintro e w' ⟨rfl, hb⟩
      have hb' := hX.trans (hb.mono hX.size)
      exact ⟨rfl, st w' hb', hb'⟩
    have K2 : Hid (∀ X, Below W3.heap.size W3 X → Calls Try.prog 11 #[.agg #[.int .i64 f, .int .i64 sf, .int .u64 sh, .int .u64 sl, .int .i64 df, .int .u64 dh, .int .u64 dl, .int .i64 pr, .int .i64 ho, .bool fg, .int .u32 ID, .int .i64 OF, .bool MO, .slice none 0 0, .slice a2 dat.length c2], .agg #[.int .i64 f, .int .i64 sf, .int .u64 sh, .int .u64 sl, .int .i64 df, .int .u64 dh, .int .u64 dl, .int .i64 pr, .int .i64 ho, .bool fg, .int .u32 ID, .int .i64 OF, .bool MO, .slice xa 0 xc, .slice da dat.length dc]] X fun e w' => e = .returned (.bool true) ∧ (w'.cell? ⟨gp, 0, none⟩ = some (.int .i64 f) ∧ w'.cell? ⟨gp, 1, none⟩ = some (.int .i64 sf) ∧ w'.cell? ⟨gp, 2, none⟩ = some (.int .u64 sh) ∧ w'.cell? ⟨gp, 3, none⟩ = some (.int .u64 sl) ∧ w'.cell? ⟨gp, 4, none⟩ = some (.int .i64 df) ∧ w'.cell? ⟨gp, 5, none⟩ = some (.int .u64 dh) ∧ w'.cell? ⟨gp, 6, none⟩ = some (.int .u64 dl) ∧ w'.cell? ⟨gp, 7, none⟩ = some (.int .i64 pr) ∧ w'.cell? ⟨gp, 8, none⟩ = some (.int .i64 ho) ∧ w'.cell? ⟨gp, 9, none⟩ = some (.bool fg) ∧ w'.cell? ⟨gp, 10, none⟩ = some (.int .u32 ID) ∧ w'.cell? ⟨gp, 11, none⟩ = some (.int .i64 OF) ∧ w'.cell? ⟨gp, 12, none⟩ = some (.bool MO) ∧ w'.cell? ⟨gp, 13, none⟩ = some (.slice none 0 0) ∧ w'.cell? ⟨gp, 14, none⟩ = some (.slice a2 dat.length c2) ∧ w'.cell? ⟨W.heap.size, 0, none⟩ = some (.int .i64 f) ∧ w'.cell? ⟨W.heap.size, 1, none⟩ = some (.int .i64 sf) ∧ w'.cell? ⟨W.heap.size, 2, none⟩ = some (.int .u64 sh) ∧ w'.cell? ⟨W.heap.size, 3, none⟩ = some (.int .u64 sl) ∧ w'.cell? ⟨W.heap.size, 4, none⟩ = some (.int .i64 df) ∧ w'.cell? ⟨W.heap.size, 5, none⟩ = some (.int .u64 dh) ∧ w'.cell? ⟨W.heap.size, 6, none⟩ = some (.int .u64 dl) ∧ w'.cell? ⟨W.heap.size, 7, none⟩ = some (.int .i64 pr) ∧ w'.cell? ⟨W.heap.size, 8, none⟩ = some (.int .i64 ho) ∧ w'.cell? ⟨W.heap.size, 9, none⟩ = some (.bool fg) ∧ w'.cell? ⟨W.heap.size, 10, none⟩ = some (.int .u32 id) ∧ w'.cell? ⟨W.heap.size, 11, none⟩ = some (.int .i64 of) ∧ w'.cell? ⟨W.heap.size, 12, none⟩ = some (.bool mo) ∧ w'.cell? ⟨W.heap.size, 13, none⟩ = some (.slice xa 0 xc) ∧ w'.cell? ⟨W.heap.size, 14, none⟩ = some (.slice da dat.length dc)) ∧ Below W3.heap.size W3 w') := by
      intro X hX
      refine (same_ip f sf sh sl df dh dl pr ho fg ID OF MO none 0 xa xc a2 c2 da dc dat X (r3.out.1.below hX) (r3.out.2.below hX)).mono ?_
      rintro e w' ⟨rfl, hb⟩
      have hb' := hX.trans (hb.mono hX.size)
      exact ⟨rfl, st w' hb', hb'⟩
    have K3 : Hid (∀ X, Below W3.heap.size W3 X → Calls Try.prog 12 #[] X fun e w' => e = .returned (.bool true) ∧ (w'.cell? ⟨gp, 0, none⟩ = some (.int .i64 f) ∧ w'.cell? ⟨gp, 1, none⟩ = some (.int .i64 sf) ∧ w'.cell? ⟨gp, 2, none⟩ = some (.int .u64 sh) ∧ w'.cell? ⟨gp, 3, none⟩ = some (.int .u64 sl) ∧ w'.cell? ⟨gp, 4, none⟩ = some (.int .i64 df) ∧ w'.cell? ⟨gp, 5, none⟩ = some (.int .u64 dh) ∧ w'.cell? ⟨gp, 6, none⟩ = some (.int .u64 dl) ∧ w'.cell? ⟨gp, 7, none⟩ = some (.int .i64 pr) ∧ w'.cell? ⟨gp, 8, none⟩ = some (.int .i64 ho) ∧ w'.cell? ⟨gp, 9, none⟩ = some (.bool fg) ∧ w'.cell? ⟨gp, 10, none⟩ = some (.int .u32 ID) ∧ w'.cell? ⟨gp, 11, none⟩ = some (.int .i64 OF) ∧ w'.cell? ⟨gp, 12, none⟩ = some (.bool MO) ∧ w'.cell? ⟨gp, 13, none⟩ = some (.slice none 0 0) ∧ w'.cell? ⟨gp, 14, none⟩ = some (.slice a2 dat.length c2) ∧ w'.cell? ⟨W.heap.size, 0, none⟩ = some (.int .i64 f) ∧ w'.cell? ⟨W.heap.size, 1, none⟩ = some (.int .i64 sf) ∧ w'.cell? ⟨W.heap.size, 2, none⟩ = some (.int .u64 sh) ∧ w'.cell? ⟨W.heap.size, 3, none⟩ = some (.int .u64 sl) ∧ w'.cell? ⟨W.heap.size, 4, none⟩ = some (.int .i64 df) ∧ w'.cell? ⟨W.heap.size, 5, none⟩ = some (.int .u64 dh) ∧ w'.cell? ⟨W.heap.size, 6, none⟩ = some (.int .u64 dl) ∧ w'.cell? ⟨W.heap.size, 7, none⟩ = some (.int .i64 pr) ∧ w'.cell? ⟨W.heap.size, 8, none⟩ = some (.int .i64 ho) ∧ w'.cell? ⟨W.heap.size, 9, none⟩ = some (.bool fg) ∧ w'.cell? ⟨W.heap.size, 10, none⟩ = some (.int .u32 id) ∧ w'.cell? ⟨W.heap.size, 11, none⟩ = some (.int .i64 of) ∧ w'.cell? ⟨W.heap.size, 12, none⟩ = some (.bool mo) ∧ w'.cell? ⟨W.heap.size, 13, none⟩ = some (.slice xa 0 xc) ∧ w'.cell? ⟨W.heap.size, 14, none⟩ = some (.slice da dat.length dc)) ∧ Below W3.heap.size W3 w') := by
      intro X hX
      refine (alive_any X).mono ?_
      rintro e w' ⟨rfl, hb⟩
      have hb' := hX.trans (hb.mono hX.size)
      exact ⟨rfl, st w' hb', hb'⟩
    obtain ⟨q0, q1, q2, q3, q4, q5, q6, q7, q8, q9, q10, q11, q12, q13, q14, q15, q16, q17, q18, q19, q20, q21, q22, q23, q24, q25, q26, q27, q28, q29⟩ := st W3 (Below.refl _ _)
    clear f2 b23 s3 b13 s1 KP st
    go_wp2
    go_region_held3 (fun w'' => w''.cell? ⟨gp, 0, none⟩ = some (.int .i64 f) ∧ w''.cell? ⟨gp, 1, none⟩ = some (.int .i64 sf) ∧ w''.cell? ⟨gp, 2, none⟩ = some (.int .u64 sh) ∧ w''.cell? ⟨gp, 3, none⟩ = some (.int .u64 sl) ∧ w''.cell? ⟨gp, 4, none⟩ = some (.int .i64 df) ∧ w''.cell? ⟨gp, 5, none⟩ = some (.int .u64 dh) ∧ w''.cell? ⟨gp, 6, none⟩ = some (.int .u64 dl) ∧ w''.cell? ⟨gp, 7, none⟩ = some (.int .i64 pr) ∧ w''.cell? ⟨gp, 8, none⟩ = some (.int .i64 ho) ∧ w''.cell? ⟨gp, 9, none⟩ = some (.bool fg) ∧ w''.cell? ⟨gp, 10, none⟩ = some (.int .u32 ID) ∧ w''.cell? ⟨gp, 11, none⟩ = some (.int .i64 OF) ∧ w''.cell? ⟨gp, 12, none⟩ = some (.bool MO) ∧ w''.cell? ⟨gp, 13, none⟩ = some (.slice none 0 0) ∧ w''.cell? ⟨gp, 14, none⟩ = some (.slice a2 dat.length c2) ∧ w''.cell? ⟨W.heap.size, 0, none⟩ = some (.int .i64 f) ∧ w''.cell? ⟨W.heap.size, 1, none⟩ = some (.int .i64 sf) ∧ w''.cell? ⟨W.heap.size, 2, none⟩ = some (.int .u64 sh) ∧ w''.cell? ⟨W.heap.size, 3, none⟩ = some (.int .u64 sl) ∧ w''.cell? ⟨W.heap.size, 4, none⟩ = some (.int .i64 df) ∧ w''.cell? ⟨W.heap.size, 5, none⟩ = some (.int .u64 dh) ∧ w''.cell? ⟨W.heap.size, 6, none⟩ = some (.int .u64 dl) ∧ w''.cell? ⟨W.heap.size, 7, none⟩ = some (.int .i64 pr) ∧ w''.cell? ⟨W.heap.size, 8, none⟩ = some (.int .i64 ho) ∧ w''.cell? ⟨W.heap.size, 9, none⟩ = some (.bool fg) ∧ w''.cell? ⟨W.heap.size, 10, none⟩ = some (.int .u32 id) ∧ w''.cell? ⟨W.heap.size, 11, none⟩ = some (.int .i64 of) ∧ w''.cell? ⟨W.heap.size, 12, none⟩ = some (.bool mo) ∧ w''.cell? ⟨W.heap.size, 13, none⟩ = some (.slice xa 0 xc) ∧ w''.cell? ⟨W.heap.size, 14, none⟩ = some (.slice da dat.length dc)) (go_keep) (first
      | (go_at_call 16; refine (K1.out _ (Below.refl _ _).drew).mono ?_; rintro e W4 ⟨rfl, ⟨r0, r1, r2, r3, r4, r5, r6, r7, r8, r9, r10, r11, r12, r13, r14, r15, r16, r17, r18, r19, r20, r21, r22, r23, r24, r25, r26, r27, r28, r29⟩, b4⟩)
      | (go_at_call 11; refine (K2.out _ b4).mono ?_; rintro e W5 ⟨rfl, ⟨s0, s1, s2, s3, s4, s5, s6, s7, s8, s9, s10, s11, s12, s13, s14, s15, s16, s17, s18, s19, s20, s21, s22, s23, s24, s25, s26, s27, s28, s29⟩, b5⟩)
      | (go_at_call 12; refine (K3.out _ b5).mono ?_; rintro e W6 ⟨rfl, ⟨t0, t1, t2, t3, t4, t5, t6, t7, t8, t9, t10, t11, t12, t13, t14, t15, t16, t17, t18, t19, t20, t21, t22, t23, t24, t25, t26, t27, t28, t29⟩, b6⟩))
    all_goals go_wp2
    all_goals go_ret
    all_goals exact ⟨rfl, B3.out.trans (b6.mono B3.out.size)⟩
end Go.Proofs.Ytkgackhgbblobaa
