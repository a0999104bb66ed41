/- The law Ip4Short returns true. -/
import Derived.Test.YtkgackhgbblobaaIp4S
import Derived.Deep.RegionHeld3
namespace Go.Proofs.Ytkgackhgbblobaa
open Go.RowKit
set_option linter.unusedVariables false
set_option linter.unusedSimpArgs false

set_option maxRecDepth 100000 in
set_option maxHeartbeats 4000000 in
theorem ip4Short_walk (q : Pk) (xa : Option Addr) (xn xc : Nat) (da : Option Addr) (dc : Nat) (x : Int) (W : World) (ok : q.ok) (hdc : q.data.length ≤ dc) (hdm : dc ≤ 140737488351232) (hdn : da = none → dc = 0) (hr : Row W da q.data) (hx : (Lit.int .i64 x).wf = true) :
    Calls Try.prog 8 #[q.v (.slice xa xn xc) (.slice da q.data.length dc), .int .i64 x] W fun e w' => e = .returned (.bool true) ∧ Below W.heap.size W w' := by
  obtain ⟨f, ⟨sf, sh, sl⟩, ⟨df, dh, dl⟩, pr, ho, fg, id, of, mo, dat⟩ := q
  simp only at hdc hr
  have hx' : -9223372036854775808 ≤ x ∧ x ≤ 9223372036854775807 := by simpa [Lit.wf, IntKind.min, IntKind.max, IntKind.signed, IntKind.bits] using hx
  clear hx
  show Calls Try.prog 8 #[.agg #[.int .i64 f, .int .i64 sf, .int .u64 sh, .int .u64 sl, .int .i64 df, .int .u64 dh, .int .u64 dl, .int .i64 pr, .int .i64 ho, .bool fg, .int .u32 id, .int .i64 of, .bool mo, .slice xa xn xc, .slice da dat.length dc], .int .i64 x] W _
  have b0 : Hid (Below W.heap.size W (W.alloc (.cells #[.int .i64 f, .int .i64 sf, .int .u64 sh, .int .u64 sl, .int .i64 df, .int .u64 dh, .int .u64 dl, .int .i64 pr, .int .i64 ho, .bool fg, .int .u32 id, .int .i64 of, .bool mo, .slice xa xn xc, .slice da dat.length dc] 29))) := (Below.refl _ _).alloc (Nat.le_refl _) _
  cases hm : Pk.may (⟨f, ⟨sf, sh, sl⟩, ⟨df, dh, dl⟩, pr, ho, fg, id, of, mo, dat⟩ : Pk) xn with
  | false =>
    have KN : Hid (∀ W', Calls Try.prog 13 #[.agg #[.int .i64 f, .int .i64 sf, .int .u64 sh, .int .u64 sl, .int .i64 df, .int .u64 dh, .int .u64 dl, .int .i64 pr, .int .i64 ho, .bool fg, .int .u32 id, .int .i64 of, .bool mo, .slice xa xn xc, .slice da dat.length dc]] W' fun e w' => e = .returned (.tuple #[.slice none 0 0, .int .i64 1]) ∧ Below W'.heap.size W' w') := fun W' => build_no f sf sh sl df dh dl pr ho fg id of mo xa xn xc da dat dc W' (by omega) ok.off hm
    clear hr ok hm
    go_enter Try.func8, Try.ntmps8
    go_wp2_with fail
    refine (KN.out _).mono ?_
    rintro e W1 ⟨rfl, b1⟩
    have bb : Hid (Below W.heap.size W W1) := b0.out.trans (b1.mono b0.out.size)
    clear b1 KN
    go_wp2_with fail
    refine (alive_any W1).mono ?_
    rintro e W2 ⟨rfl, b2⟩
    have bc : Hid (Below W.heap.size W W2) := bb.out.trans (b2.mono bb.out.size)
    clear b2
    go_wp2_with fail
    go_ret
    exact ⟨rfl, bc.out⟩
  | true =>
    obtain ⟨hmay, rfl⟩ := may_iff.1 hm
    obtain ⟨Q, hQ⟩ : ∃ Q, Pk.bare (⟨f, ⟨sf, sh, sl⟩, ⟨df, dh, dl⟩, pr, ho, fg, id, of, mo, dat⟩ : Pk) = Q := ⟨_, rfl⟩
    have mq : May Q := hQ ▸ hmay.bare
    have okq : Q.ok := hQ ▸ ok_bare ok
    have qb : Q.isBare := hQ ▸ bare_isBare (⟨f, ⟨sf, sh, sl⟩, ⟨df, dh, dl⟩, pr, ho, fg, id, of, mo, dat⟩ : Pk)
    have hQd : Q.data = dat := by rw [← hQ]; unfold Pk.bare; split <;> rfl
    obtain ⟨B, hB⟩ : ∃ B, Q.made = B := ⟨_, rfl⟩
    have lB : B.length = 20 + Q.data.length := by rw [← hB]; exact made_len mq
    have hBs : B.length ≤ 65535 := by have h1 := mq.over; have h2 := mq.off0; omega
    have hB20 : 20 ≤ B.length := by omega
    have KY : Hid (∀ W', Row W' da dat → Calls Try.prog 13 #[.agg #[.int .i64 f, .int .i64 sf, .int .u64 sh, .int .u64 sl, .int .i64 df, .int .u64 dh, .int .u64 dl, .int .i64 pr, .int .i64 ho, .bool fg, .int .u32 id, .int .i64 of, .bool mo, .slice xa 0 xc, .slice da dat.length dc]] W' fun e w' => ∃ a' c', e = .returned (.tuple #[.slice a' B.length c', .int .i64 0]) ∧ Fresh W' w' a' c' B) := fun W' h' => by
      have := build_yes f sf sh sl df dh dl pr ho fg id of mo xa xc da dat dc W' h' hdn ok hmay
      rw [hQ, hB] at this
      exact this
    have r0 : Row (W.alloc (.cells #[.int .i64 f, .int .i64 sf, .int .u64 sh, .int .u64 sl, .int .i64 df, .int .u64 dh, .int .u64 dl, .int .i64 pr, .int .i64 ho, .bool fg, .int .u32 id, .int .i64 of, .bool mo, .slice xa 0 xc, .slice da dat.length dc] 29)) da dat := hr.alloc _
    have HQ : Hid (May Q ∧ Q.ok ∧ Q.isBare ∧ Q.made = B ∧ Q.data = dat ∧ M.Bytes B) := ⟨mq, okq, qb, hB, hQd, by rw [← hB]; exact made_bytes mq okq.data⟩
    have HQQ : Hid (Pk.bare (⟨f, ⟨sf, sh, sl⟩, ⟨df, dh, dl⟩, pr, ho, fg, id, of, mo, dat⟩ : Pk) = Q) := hQ
    obtain ⟨n, hn⟩ : ∃ n, B.length = n := ⟨_, rfl⟩
    rw [hn] at hBs hB20
    have HN : Hid (B.length = n) := hn
    clear hr ok hm hmay mq okq qb hQd hB lB hQ hn
    go_enter Try.func8, Try.ntmps8
    go_wp2_with fail
    refine (KY.out _ r0).mono ?_
    rintro e W1 ⟨a1, c1, rfl, f1⟩
    have bb : Hid (Below W.heap.size W W1) := b0.out.trans (f1.below.mono b0.out.size)
    have F1 : Hid (Owns W1 W.heap.size (.slice a1 B.length c1) B ∧ B.length ≤ c1 ∧ (a1 = none → c1 = 0) ∧ Row W1 a1 B ∧ c1 ≤ 9223372036854775807) := ⟨owns_le b0.out.size f1.owns, f1.room, f1.nil, f1.row, f1.cap_le⟩
    rw [HN.out]
    clear f1 r0 KY
    obtain ⟨i, hi, ei⟩ := turn_place x n (by omega) (by omega)
    have hlt : (B.take i).length = i := by rw [List.length_take, HN.out]; omega
    obtain ⟨E, hE⟩ : ∃ E, perr (B.take i) = E := ⟨_, rfl⟩
    have hE0 : (E != 0) = true := by
      have := made_cut HQ.out.1 i (by rw [HQ.out.2.2.2.1, HN.out]; exact hi)
      rw [HQ.out.2.2.2.1, hE] at this
      simpa using this
    obtain ⟨P, hP⟩ : ∃ P, parsed (B.take i) = P := ⟨_, rfl⟩
    have KP : Hid (Calls Try.prog 9 #[.slice a1 i c1] W1 fun e w' => ∃ a' c', e = .returned (.tuple #[P.v (.slice none 0 0) (.slice a' P.data.length c'), .int .i64 E]) ∧ Fresh W1 w' a' c' P.data) := by
      have := parse_any a1 c1 (B.take i) W1 (F1.out.2.2.2.1.take i) F1.out.2.2.1 (by omega) (by have := F1.out.2.1; rw [HN.out] at this; omega) F1.out.2.2.2.2
      rw [hlt, hE, hP] at this
      exact this
    have hic : (i : Int) ≤ (c1 : Int) := by have := F1.out.2.1; rw [HN.out] at this; omega
    have hcm : c1 ≤ 9223372036854775807 := F1.out.2.2.2.2
    have hn0 : ((n : Int) == 0) = false := by simp; omega
    have hi' : i ≤ n := by omega
    clear hlt hE hP
    go_wp2_with fail
    refine KP.out.mono ?_
    rintro e W2 ⟨a2, c2, rfl, f2⟩
    obtain ⟨W3, hW3⟩ : ∃ W3, W2.alloc (.cells #[.int .i64 P.fam, .int .i64 P.src.fam, .int .u64 P.src.hi, .int .u64 P.src.lo, .int .i64 P.dst.fam, .int .u64 P.dst.hi, .int .u64 P.dst.lo, .int .i64 P.proto, .int .i64 P.hop, .bool P.frag, .int .u32 P.id, .int .i64 P.off, .bool P.more, .slice none 0 0, .slice a2 P.data.length c2] 29) = W3 := ⟨_, rfl⟩
    have b3 : Hid (Below W.heap.size W W3) := by
      rw [← hW3]
      have h1 := bb.out.trans (f2.below.mono bb.out.size)
      exact h1.alloc h1.size _
    clear f2 KP
    go_wp2_with fail
    refine (alive_any W3).mono ?_
    rintro e W4 ⟨rfl, b4⟩
    have bc : Hid (Below W.heap.size W W4) := b3.out.trans (b4.mono b3.out.size)
    clear b4
    go_wp2_with fail
    go_ret
    exact ⟨rfl, bc.out⟩
end Go.Proofs.Ytkgackhgbblobaa
