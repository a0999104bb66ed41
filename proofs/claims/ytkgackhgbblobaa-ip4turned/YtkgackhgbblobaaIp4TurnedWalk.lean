/- The law Ip4Turned returns true. -/
import Derived.Test.YtkgackhgbblobaaIp4S
import Derived.Deep.RegionHeld3
namespace Go.Proofs.Ytkgackhgbblobaa
open Go.RowKit
set_option linter.unusedVariables false
set_option linter.unusedSimpArgs false

theorem xor_ne (x y : Int) (hx : 0 ≤ x ∧ x ≤ 255) (hy : 0 < y ∧ y ≤ 255) : bits .xor .u8 x y ≠ x := by
  obtain ⟨a, rfl⟩ := Int.eq_ofNat_of_zero_le hx.1
  obtain ⟨b, rfl⟩ := Int.eq_ofNat_of_zero_le (Int.le_of_lt hy.1)
  have h : ∀ a b : Fin 256, 0 < b.val → bits .xor .u8 (a.val : Int) (b.val : Int) ≠ (a.val : Int) := by decide +kernel
  exact h ⟨a, by omega⟩ ⟨b, by omega⟩ (by show 0 < b; omega)
theorem xor_ver (y : Int) (hy : 16 ≤ y ∧ y ≤ 255) : bits .xor .u8 69 y / 16 ≠ 4 := by
  obtain ⟨b, rfl⟩ := Int.eq_ofNat_of_zero_le (show 0 ≤ y by omega)
  have h : ∀ b : Fin 256, 16 ≤ b.val → bits .xor .u8 69 (b.val : Int) / 16 ≠ 4 := by decide +kernel
  exact h ⟨b, by omega⟩ (by show 16 ≤ b; omega)

set_option maxRecDepth 100000 in
set_option maxHeartbeats 4000000 in
theorem ip4Turned_walk (q : Pk) (xa : Option Addr) (xn xc : Nat) (da : Option Addr) (dc : Nat) (x y : Int) (W : World) (ok : q.ok) (hdc : q.data.length ≤ dc) (hdm : dc ≤ 140737488351232) (hdn : da = none → dc = 0) (hr : Row W da q.data) (hx : (Lit.int .i64 x).wf = true) (hy : (Lit.int .u8 y).wf = true) :
    Calls Try.prog 7 #[q.v (.slice xa xn xc) (.slice da q.data.length dc), .int .i64 x, .int .u8 y] W fun e w' => e = .returned (.bool true) ∧ Below W.heap.size W w' := by
  obtain ⟨f, ⟨sf, sh, sl⟩, ⟨df, dh, dl⟩, pr, ho, fg, id, of, mo, dat⟩ := q
  simp only at hdc hr
  have hx' : -9223372036854775808 ≤ x ∧ x ≤ 9223372036854775807 := by simpa [Lit.wf, IntKind.min, IntKind.max, IntKind.signed, IntKind.bits] using hx
  have hy' : 0 ≤ y ∧ y ≤ 255 := by simpa [Lit.wf, IntKind.min, IntKind.max, IntKind.signed, IntKind.bits] using hy
  clear hx hy
  show Calls Try.prog 7 #[.agg #[.int .i64 f, .int .i64 sf, .int .u64 sh, .int .u64 sl, .int .i64 df, .int .u64 dh, .int .u64 dl, .int .i64 pr, .int .i64 ho, .bool fg, .int .u32 id, .int .i64 of, .bool mo, .slice xa xn xc, .slice da dat.length dc], .int .i64 x, .int .u8 y] W _
  have b0 : Hid (Below W.heap.size W (W.alloc (.cells #[.int .i64 f, .int .i64 sf, .int .u64 sh, .int .u64 sl, .int .i64 df, .int .u64 dh, .int .u64 dl, .int .i64 pr, .int .i64 ho, .bool fg, .int .u32 id, .int .i64 of, .bool mo, .slice xa xn xc, .slice da dat.length dc] 29))) := (Below.refl _ _).alloc (Nat.le_refl _) _
  cases hm : Pk.may (⟨f, ⟨sf, sh, sl⟩, ⟨df, dh, dl⟩, pr, ho, fg, id, of, mo, dat⟩ : Pk) xn with
  | false =>
    have KN : Hid (∀ W', Calls Try.prog 13 #[.agg #[.int .i64 f, .int .i64 sf, .int .u64 sh, .int .u64 sl, .int .i64 df, .int .u64 dh, .int .u64 dl, .int .i64 pr, .int .i64 ho, .bool fg, .int .u32 id, .int .i64 of, .bool mo, .slice xa xn xc, .slice da dat.length dc]] W' fun e w' => e = .returned (.tuple #[.slice none 0 0, .int .i64 1]) ∧ Below W'.heap.size W' w') := fun W' => build_no f sf sh sl df dh dl pr ho fg id of mo xa xn xc da dat dc W' (by omega) ok.off hm
    clear hr ok hm
    go_enter Try.func7, Try.ntmps7
    go_wp2_with fail
    refine (KN.out _).mono ?_
    rintro e W1 ⟨rfl, b1⟩
    have bb : Hid (Below W.heap.size W W1) := b0.out.trans (b1.mono b0.out.size)
    clear b1 KN
    go_wp2_with fail
    refine (alive_any W1).mono ?_
    rintro e W2 ⟨rfl, b2⟩
    have bc : Hid (Below W.heap.size W W2) := bb.out.trans (b2.mono bb.out.size)
    clear b2
    go_wp2_with fail
    go_ret
    exact ⟨rfl, bc.out⟩
  | true =>
    obtain ⟨hmay, rfl⟩ := may_iff.1 hm
    obtain ⟨Q, hQ⟩ : ∃ Q, Pk.bare (⟨f, ⟨sf, sh, sl⟩, ⟨df, dh, dl⟩, pr, ho, fg, id, of, mo, dat⟩ : Pk) = Q := ⟨_, rfl⟩
    have mq : May Q := hQ ▸ hmay.bare
    have okq : Q.ok := hQ ▸ ok_bare ok
    have qb : Q.isBare := hQ ▸ bare_isBare (⟨f, ⟨sf, sh, sl⟩, ⟨df, dh, dl⟩, pr, ho, fg, id, of, mo, dat⟩ : Pk)
    have hQd : Q.data = dat := by rw [← hQ]; unfold Pk.bare; split <;> rfl
    obtain ⟨B, hB⟩ : ∃ B, Q.made = B := ⟨_, rfl⟩
    have lB : B.length = 20 + Q.data.length := by rw [← hB]; exact made_len mq
    have hBs : B.length ≤ 65535 := by have h1 := mq.over; have h2 := mq.off0; omega
    have hB20 : 20 ≤ B.length := by omega
    have KY : Hid (∀ W', Row W' da dat → Calls Try.prog 13 #[.agg #[.int .i64 f, .int .i64 sf, .int .u64 sh, .int .u64 sl, .int .i64 df, .int .u64 dh, .int .u64 dl, .int .i64 pr, .int .i64 ho, .bool fg, .int .u32 id, .int .i64 of, .bool mo, .slice xa 0 xc, .slice da dat.length dc]] W' fun e w' => ∃ a' c', e = .returned (.tuple #[.slice a' B.length c', .int .i64 0]) ∧ Fresh W' w' a' c' B) := fun W' h' => by
      have := build_yes f sf sh sl df dh dl pr ho fg id of mo xa xc da dat dc W' h' hdn ok hmay
      rw [hQ, hB] at this
      exact this
    have r0 : Row (W.alloc (.cells #[.int .i64 f, .int .i64 sf, .int .u64 sh, .int .u64 sl, .int .i64 df, .int .u64 dh, .int .u64 dl, .int .i64 pr, .int .i64 ho, .bool fg, .int .u32 id, .int .i64 of, .bool mo, .slice xa 0 xc, .slice da dat.length dc] 29)) da dat := hr.alloc _
    have HQ : Hid (May Q ∧ Q.ok ∧ Q.isBare ∧ Q.made = B ∧ Q.data = dat ∧ M.Bytes B) := ⟨mq, okq, qb, hB, hQd, by rw [← hB]; exact made_bytes mq okq.data⟩
    have HQQ : Hid (Pk.bare (⟨f, ⟨sf, sh, sl⟩, ⟨df, dh, dl⟩, pr, ho, fg, id, of, mo, dat⟩ : Pk) = Q) := hQ
    obtain ⟨n, hn⟩ : ∃ n, B.length = n := ⟨_, rfl⟩
    rw [hn] at hBs hB20
    have HN : Hid (B.length = n) := hn
    clear hr ok hm hmay mq okq qb hQd hB lB hQ hn
    go_enter Try.func7, Try.ntmps7
    go_wp2_with fail
    refine (KY.out _ r0).mono ?_
    rintro e W1 ⟨a1, c1, rfl, f1⟩
    have bb : Hid (Below W.heap.size W W1) := b0.out.trans (f1.below.mono b0.out.size)
    have F1 : Hid (Owns W1 W.heap.size (.slice a1 B.length c1) B ∧ B.length ≤ c1 ∧ (a1 = none → c1 = 0) ∧ Row W1 a1 B ∧ c1 ≤ 9223372036854775807) := ⟨owns_le b0.out.size f1.owns, f1.room, f1.nil, f1.row, f1.cap_le⟩
    rw [HN.out]
    clear f1 r0 KY
    by_cases hy0 : y = 0
    case pos =>
      have hy1 : (y == 0) = true := by simpa using hy0
      clear hy0
      go_wp2_with fail
      refine (alive_any W1).mono ?_
      rintro e W2 ⟨rfl, b2⟩
      have bc : Hid (Below W.heap.size W W2) := bb.out.trans (b2.mono bb.out.size)
      clear b2
      go_wp2_with fail
      go_ret
      exact ⟨rfl, bc.out⟩
    have hy1 : (y == 0) = false := by simpa using hy0
    have hn20 : ¬ ((n : Int) < 20) := by omega
    obtain ⟨i, hi, ei⟩ := turn_place x 20 (by omega) (by omega)
    have ei' : (wrap64 (x.tmod 20 + 20)).tmod 20 = (i : Int) := ei
    by_cases hh : i = 0 ∧ y < 16
    case pos =>
      obtain ⟨rfl, hy16⟩ := hh
      go_wp2_with fail
      refine (alive_any W1).mono ?_
      rintro e W2 ⟨rfl, b2⟩
      have bc : Hid (Below W.heap.size W W2) := bb.out.trans (b2.mono bb.out.size)
      clear b2
      go_wp2_with fail
      go_ret
      exact ⟨rfl, bc.out⟩
    obtain ⟨gb, hgb, hgB⟩ := Owns.at F1.out.1 F1.out.2.2.2.1 (by rw [HN.out]; omega)
    subst hgb
    have hcell := F1.out.2.2.2.1.cell i (by rw [HN.out]; omega)
    have hfz := F1.out.1.frozen i
    have hzb := F1.out.2.2.2.1.bytes.get i
    obtain ⟨z, hz⟩ : ∃ z, B.getD i 0 = z := ⟨_, rfl⟩
    rw [hz] at hcell hzb
    obtain ⟨u, hu⟩ : ∃ u, bits .xor .u8 z y = u := ⟨_, rfl⟩
    have hub : 0 ≤ u ∧ u ≤ 255 := by rw [← hu]; exact u8_xor_bd z y
    have hne : u ≠ z := by rw [← hu]; exact xor_ne z y hzb ⟨by omega, hy'.2⟩
    obtain ⟨E, hE⟩ : ∃ E, perr (B.set i u) = E := ⟨_, rfl⟩
    have hE0 : (E != 0) = true := by
      have := made_turned HQ.out.1 HQ.out.2.1.data i u hi hub (by rw [HQ.out.2.2.2.1, hz]; exact hne) (by
        rintro rfl
        have h69 : z = 69 := by rw [← hz, ← HQ.out.2.2.2.1, made_at 0 (by omega)]; rfl
        rw [← hu, h69]
        exact xor_ver y ⟨by omega, hy'.2⟩)
      rw [HQ.out.2.2.2.1, hE] at this
      simpa using this
    obtain ⟨P, hP⟩ : ∃ P, parsed (B.set i u) = P := ⟨_, rfl⟩
    have OS := F1.out.1.stored i u
    have hls : (B.set i u).length = n := by rw [List.length_set, HN.out]
    have KP : Hid (Calls Try.prog 9 #[.slice (some ⟨gb, 0, none⟩) n c1] (W1.setCell ⟨gb, i, none⟩ (.int .u8 u)) fun e w' => ∃ a' c', e = .returned (.tuple #[P.v (.slice none 0 0) (.slice a' P.data.length c'), .int .i64 E]) ∧ Fresh (W1.setCell ⟨gb, i, none⟩ (.int .u8 u)) w' a' c' P.data) := by
      have hrow : Row (W1.setCell ⟨gb, i, none⟩ (.int .u8 u)) (some ⟨gb, 0, none⟩) (B.set i u) := Owns.row (B := W.heap.size) (c := c1) (by rw [List.length_set] at *; exact OS) (by rw [hls]; omega) (HQ.out.2.2.2.2.2.set i hub)
      have := parse_any (some ⟨gb, 0, none⟩) c1 (B.set i u) _ hrow (fun h => by cases h) (by omega) (by rw [List.length_set]; exact F1.out.2.1) F1.out.2.2.2.2
      rw [hls, hE, hP] at this
      exact this
    have bs : Hid (Below W.heap.size W (W1.setCell ⟨gb, i, none⟩ (.int .u8 u))) := bb.out.setCell hgB _
    have hi20 : (i : Int) < (n : Int) := by omega
    have hdec : (((i : Int) == 0) && decide (y < 16)) = false := by
      by_cases h0 : i = 0
      · have : ¬ y < 16 := fun h => hh ⟨h0, h⟩
        simp [this]
      · simp [h0]
    clear hz hE hP OS hls hne hh ei
    by_cases h0 : i = 0
    · have hy16 : ¬ y < 16 := by
        subst h0
        simpa using hdec
      have h00 : ((i : Int) == 0) = true := by simp [h0]
      clear hdec h0
      go_wp2_with fail
      refine KP.out.mono ?_
      rintro e W2 ⟨a2, c2, rfl, f2⟩
      obtain ⟨W3, hW3⟩ : ∃ W3, W2.alloc (.cells #[.int .i64 P.fam, .int .i64 P.src.fam, .int .u64 P.src.hi, .int .u64 P.src.lo, .int .i64 P.dst.fam, .int .u64 P.dst.hi, .int .u64 P.dst.lo, .int .i64 P.proto, .int .i64 P.hop, .bool P.frag, .int .u32 P.id, .int .i64 P.off, .bool P.more, .slice none 0 0, .slice a2 P.data.length c2] 29) = W3 := ⟨_, rfl⟩
      have b3 : Hid (Below W.heap.size W W3) := by
        rw [← hW3]
        have h1 := bs.out.trans (f2.below.mono bs.out.size)
        exact h1.alloc h1.size _
      clear f2 KP
      go_wp2_with fail
      refine (alive_any W3).mono ?_
      rintro e W4 ⟨rfl, b4⟩
      have bc : Hid (Below W.heap.size W W4) := b3.out.trans (b4.mono b3.out.size)
      clear b4
      go_wp2_with fail
      go_ret
      exact ⟨rfl, bc.out⟩
    · have h00 : ((i : Int) == 0) = false := by simp [h0]
      clear hdec h0
      go_wp2_with fail
      refine KP.out.mono ?_
      rintro e W2 ⟨a2, c2, rfl, f2⟩
      obtain ⟨W3, hW3⟩ : ∃ W3, W2.alloc (.cells #[.int .i64 P.fam, .int .i64 P.src.fam, .int .u64 P.src.hi, .int .u64 P.src.lo, .int .i64 P.dst.fam, .int .u64 P.dst.hi, .int .u64 P.dst.lo, .int .i64 P.proto, .int .i64 P.hop, .bool P.frag, .int .u32 P.id, .int .i64 P.off, .bool P.more, .slice none 0 0, .slice a2 P.data.length c2] 29) = W3 := ⟨_, rfl⟩
      have b3 : Hid (Below W.heap.size W W3) := by
        rw [← hW3]
        have h1 := bs.out.trans (f2.below.mono bs.out.size)
        exact h1.alloc h1.size _
      clear f2 KP
      go_wp2_with fail
      refine (alive_any W3).mono ?_
      rintro e W4 ⟨rfl, b4⟩
      have bc : Hid (Below W.heap.size W W4) := b3.out.trans (b4.mono b3.out.size)
      clear b4
      go_wp2_with fail
      go_ret
      exact ⟨rfl, bc.out⟩
end Go.Proofs.Ytkgackhgbblobaa
