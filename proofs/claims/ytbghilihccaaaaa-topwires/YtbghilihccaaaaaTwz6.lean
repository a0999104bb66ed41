/- Texts joined: Ip4A Ip4B Check Ip4T -/
import Derived.Test.YtbghilihccaaaaaTwz5
namespace Go.Proofs.Ytbghilihccaaaaa
open Go.RowKit
set_option linter.unusedVariables false
set_option linter.unusedSimpArgs false
def sliceLen : Value → Nat
  | .slice _ n _ => n
  | _ => 0
theorem sliceLen_slice (a : Option Addr) (n c : Nat) : sliceLen (.slice a n c) = n := rfl
set_option maxRecDepth 100000 in
set_option maxHeartbeats 1000000 in
theorem options_any (a : Option Addr) (c : Nat) (l : List Int) (w : World) (h : Row w a l) (hc : l.length ≤ c) (hcm : c ≤ 9223372036854775807) :
    Calls Try.prog 64 #[.slice a l.length c] w fun e w' => e = .returned (.int .i64 (opts l)) ∧ w' = w := by
  go_enter Try.func64, Try.ntmps64
  go_wp2
  go_loop [0] (fun v => ∃ a' c' r, v = .slice a' r.length c' ∧ Row w a' r ∧ r.length ≤ c' ∧ c' ≤ 9223372036854775807 ∧ Hid (opts r = opts l)) (fun v => sliceLen v)
  case atStart => exact ⟨a, c, l, rfl, h, hc, hcm, rfl⟩
  case round =>
    obtain ⟨a', c', r, rfl, hr, hc', hcm', ho⟩ := hrel
    clear hc hcm h
    cases r with
    | nil =>
      have e : Hid (0 = opts l) := by show 0 = opts l; rw [← ho.out, opts_nil]
      clear ho hr
      simp only [List.length_nil] at hc' ⊢
      go_wp2
      go_ret
      exact ⟨ret_int e.out, rfl⟩
    | cons x r =>
      obtain ⟨bk, off, rfl, hcl⟩ := hr.cells (by simp)
      have c0 := hcl 0 (by simp)
      have hx := hr.bytes.get 0
      simp only [Nat.add_zero, List.getD_cons_zero] at c0 hx
      simp only [List.length_cons] at hc' ⊢
      have hn0 : ((r.length : Int) + 1 > 0) := by omega
      by_cases x0 : x = 0
      · subst x0
        have e : Hid (0 = opts l) := by show 0 = opts l; rw [← ho.out, opts_end]
        clear ho hr hcl
        go_wp2
        go_ret
        exact ⟨ret_int e.out, rfl⟩
      · have x0' : (x != 0) = true := by simpa using x0
        by_cases x1 : x = 1
        · subst x1
          have hd : Row w (if c' = 1 then some ⟨bk, off, none⟩ else some ⟨bk, off + 1, none⟩) r := by
            have hd := hr.drop c' 1 (by simpa using hc')
            simpa [Go.WideShapes.add_plain] using hd
          have E : Hid (opts r = opts l) := by show opts r = opts l; rw [← ho.out, opts_one]
          clear ho hr hcl
          go_wp2
          exact ⟨⟨_, _, r, rfl, hd, by omega, by omega, E⟩, by simp [sliceLen]⟩
        · by_cases x2 : x = 131 ∨ x = 137
          · have e : Hid (8 = opts l) := by show 8 = opts l; rw [← ho.out, opts_route x r x2]
            clear ho hr hcl
            rcases x2 with rfl | rfl
            all_goals (go_wp2; go_ret; exact ⟨ret_int e.out, rfl⟩)
          · have x1' : (x == 1) = false := by simpa using x1
            have x2' : (x == 131) = false := by simp; omega
            have x3' : (x == 137) = false := by simp; omega
            cases r with
            | nil =>
              have e : Hid (7 = opts l) := by show 7 = opts l; rw [← ho.out, opts_bad x [] x0 x1 x2 (.inl (by simp))]
              clear ho hr hcl
              simp only [List.length_nil] at hc' ⊢
              go_wp2
              go_ret
              exact ⟨ret_int e.out, rfl⟩
            | cons y r =>
              have c1 := hcl 1 (by simp)
              have hy := hr.bytes.get 1
              simp only [List.getD_cons_succ, List.getD_cons_zero, List.length_cons] at c1 hy hc' hn0 ⊢
              obtain ⟨n, hn⟩ : ∃ n, r.length + 1 + 1 = n := ⟨_, rfl⟩
              have HN : Hid (r.length + 1 + 1 = n) := hn
              have hn1 : 2 ≤ n := by omega
              have hn2 : ¬ ((n : Int) < 2) := by omega
              have hn3 : (n : Int) > 0 := by omega
              rw [hn] at hc' ⊢
              clear hn hn0
              by_cases hb : (y :: r).length < 1 ∨ (y :: r).getD 0 0 < 2 ∨ (y :: r).getD 0 0 > (y :: r).length + 1
              · have e : Hid (7 = opts l) := by show 7 = opts l; rw [← ho.out, opts_bad x _ x0 x1 x2 hb]
                simp only [List.length_cons, List.getD_cons_zero] at hb
                clear ho hr hcl
                by_cases y2 : y < 2
                · go_wp2
                  go_ret
                  exact ⟨ret_int e.out, rfl⟩
                · have y3 : y > (n : Int) := by have := HN.out; omega
                  go_wp2
                  go_ret
                  exact ⟨ret_int e.out, rfl⟩
              · have hn := opts_next x _ x0 x1 x2 hb
                simp only [List.length_cons, List.getD_cons_zero] at hb hn
                have y2 : ¬ y < 2 := by omega
                have y3 : ¬ y > (n : Int) := by have := HN.out; omega
                obtain ⟨m, rfl⟩ := Int.eq_ofNat_of_zero_le hy.1
                rw [Int.toNat_natCast] at hn
                have E : Hid (opts ((x :: (m : Int) :: r).drop m) = opts l) := by show opts ((x :: (m : Int) :: r).drop m) = opts l; rw [← ho.out, hn]
                have hd : Row w (if c' = m then some ⟨bk, off, none⟩ else some ⟨bk, off + m, none⟩) ((x :: (m : Int) :: r).drop m) := by
                  have hd := hr.drop c' m (by have := HN.out; simp; omega)
                  simpa [Go.WideShapes.add_plain] using hd
                have hl2 : Hid (n - m = ((x :: (m : Int) :: r).drop m).length) := by
                  show _ = _
                  have := HN.out
                  simp
                  omega
                have y4 : (m : Int) ≤ (n : Int) := by omega
                have y5 : m ≤ n := by omega
                clear ho hr hcl hn hb
                go_wp2
                exact ⟨⟨_, _, _, by rw [hl2.out], hd, by rw [← hl2.out]; omega, by omega, E⟩, by simp [sliceLen]; omega⟩
set_option maxHeartbeats 400000 in
theorem byteAt_any (a : Option Addr) (c g : Nat) (l : List Int) (k : Nat) (w : World) (h : Row w a l) (hk : k < l.length) (hg : w.cell? ⟨g, 0, none⟩ = some (.slice a l.length c)) :
    Calls Try.prog 57 #[.int .i64 k, .pointer (some ⟨g, 0, none⟩)] w fun e w' => e = .returned (.int .i64 (l.getD k 0)) ∧ w' = w := by
  obtain ⟨bk, off, rfl, hc⟩ := h.cells (by omega)
  have c0 := hc k hk
  have hx := h.bytes.get k
  have hk' : (k : Int) < (l.length : Int) := by omega
  have hs := h.small
  clear hc h
  generalize l.getD k 0 = x at *
  go_enter Try.func57, Try.ntmps57
  go_wp2
  go_ret
  exact ⟨rfl, rfl⟩
set_option maxHeartbeats 400000 in
theorem wordAt_any (a : Option Addr) (c g : Nat) (l : List Int) (k : Int) (w : World) (h : Row w a l) (h0 : 0 ≤ k) (hk : k + 2 ≤ l.length) (hg : w.cell? ⟨g, 0, none⟩ = some (.slice a l.length c)) :
    Calls Try.prog 58 #[.int .i64 k, .pointer (some ⟨g, 0, none⟩)] w fun e w' => e = .returned (.int .i64 (u16 l k)) ∧ ∃ n, w' = w.drewN n := by
  go_enter Try.func58, Try.ntmps58
  go_wp2_with (go_at_call 59; refine (u16_yes _ _ _ _ _ h h0 hk).mono ?_; rintro e w' ⟨rfl, n, rfl⟩)
  go_ret
  exact ⟨rfl, n, rfl⟩
set_option maxHeartbeats 400000 in
theorem addrAt_any (a : Option Addr) (c g : Nat) (l : List Int) (k : Int) (w : World) (h : Row w a l) (hnil : a = none → c = 0) (hl : l.length ≤ 140737488351232) (hc : l.length ≤ c) (hcm : c ≤ 9223372036854775807) (h0 : 0 ≤ k) (hk : k + 4 ≤ l.length) (hg : w.cell? ⟨g, 0, none⟩ = some (.slice a l.length c)) :
    Calls Try.prog 60 #[.int .i64 k, .pointer (some ⟨g, 0, none⟩)] w fun e w' => e = .returned (fromB (part l k 4)).1.v ∧ Below w.heap.size w w' := by
  have hgl : g < w.heap.size := World.block_lt_of_cell? w _ hg
  have hgn : g ≠ w.heap.size := by omega
  have b0 : Below w.heap.size w (w.alloc (.cells #[.int .i64 0, .int .u64 0, .int .u64 0] 37)) := (Below.refl _ _).alloc (Nat.le_refl _) _
  have r0 := h.alloc (.cells #[.int .i64 0, .int .u64 0, .int .u64 0] 37)
  go_enter Try.func60, Try.ntmps60
  go_wp2_with fail
  refine (part_yes _ _ _ _ _ _ r0 hnil hl hc hcm h0 (by omega) (by omega)).mono ?_
  rintro e w1 ⟨a1, c1, rfl, f1⟩
  have b1 := f1.below
  have r1 := f1.row
  have z1 := b1.size
  simp only [World.size_alloc] at b1 z1
  clear f1 r0 hg
  go_wp2_with fail
  refine (from_any _ _ _ _ r1).mono ?_
  rintro e w2 ⟨rfl, b2⟩
  have b3 := b1.trans (b2.mono z1)
  have z2 := b3.size
  simp only [World.size_alloc] at z2
  have bb := b0.trans (b3.mono (Nat.le_succ _))
  obtain ⟨A, hA⟩ : ∃ A, (fromB (part l k 4)).1 = A := ⟨_, rfl⟩
  rw [hA]
  obtain ⟨f, hi, lo⟩ := A
  obtain ⟨w3, hw3⟩ : ∃ w3, w2.alloc (.cells #[.int .i64 f, .int .u64 hi, .int .u64 lo] 37) = w3 := ⟨_, rfl⟩
  have b4 : Below (w.alloc (.cells #[.int .i64 0, .int .u64 0, .int .u64 0] 37)).heap.size (w.alloc (.cells #[.int .i64 0, .int .u64 0, .int .u64 0] 37)) w3 := by
    rw [← hw3]; simp only [World.size_alloc]; exact b3.alloc z2 _
  have d0 : w3.cell? ⟨w.heap.size, 0, none⟩ = some (.int .i64 0) := kept b4 (by simp)
  have d1 : w3.cell? ⟨w.heap.size, 1, none⟩ = some (.int .u64 0) := kept b4 (by simp)
  have d2 : w3.cell? ⟨w.heap.size, 2, none⟩ = some (.int .u64 0) := kept b4 (by simp)
  have fz : ∀ o, w3.frozen? ⟨w.heap.size, o, none⟩ = false := fun o => (b4.frozen (p := ⟨w.heap.size, o, none⟩) (by simp)).trans (by simp)
  have e0 : w3.cell? ⟨w2.heap.size, 0, none⟩ = some (.int .i64 f) := by rw [← hw3]; simp
  have e1 : w3.cell? ⟨w2.heap.size, 1, none⟩ = some (.int .u64 hi) := by rw [← hw3]; simp
  have e2 : w3.cell? ⟨w2.heap.size, 2, none⟩ = some (.int .u64 lo) := by rw [← hw3]; simp
  have b5 : Below w.heap.size w w3 := b0.trans (b4.mono (by simp))
  clear r1 b1 z1 b2 b3 bb b4
  go_wp2
  exact bodyPost_ret (v := .agg #[.int .i64 f, .int .u64 hi, .int .u64 lo]) (by simp [results, Try.results60, go_sem, d0, d1, d2]) rfl ⟨by rw [hA], ((b5.setCell (by simp) _).setCell (by simp) _).setCell (by simp) _⟩
end Go.Proofs.Ytbghilihccaaaaa
namespace Go.Proofs.Ytbghilihccaaaaa
open Go.RowKit
theorem i64_and15 (n : Int) : bits .and .i64 n 15 = n % 16 := by
  show IntKind.i64.wrap ((BitVec.ofInt 64 n &&& BitVec.ofInt 64 15).toNat : Int) = _
  have h15 : BitVec.ofInt 64 15 = (15 : BitVec 64) := rfl
  rw [h15, BitVec.toNat_and, show (15 : BitVec 64).toNat = 2 ^ 4 - 1 from rfl, Nat.and_two_pow_sub_one_eq_mod]
  rw [IntKind.wrap_i64, BitVec.toNat_ofInt]
  omega
theorem i64_and8191 (n : Int) : bits .and .i64 n 8191 = n % 8192 := by
  show IntKind.i64.wrap ((BitVec.ofInt 64 n &&& BitVec.ofInt 64 8191).toNat : Int) = _
  have h15 : BitVec.ofInt 64 8191 = (8191 : BitVec 64) := rfl
  rw [h15, BitVec.toNat_and, show (8191 : BitVec 64).toNat = 2 ^ 13 - 1 from rfl, Nat.and_two_pow_sub_one_eq_mod]
  rw [IntKind.wrap_i64, BitVec.toNat_ofInt]
  omega
theorem nat_and_pow (x i : Nat) : x &&& 2 ^ i = x / 2 ^ i % 2 * 2 ^ i := by
  have e : x / 2 ^ i % 2 = (x.testBit i).toNat := by
    rw [Nat.testBit_eq_decide_div_mod_eq]
    have := Nat.mod_two_eq_zero_or_one (x / 2 ^ i)
    rcases this with h | h <;> simp [h]
  apply Nat.eq_of_testBit_eq
  intro j
  rw [Nat.testBit_and, Nat.testBit_two_pow, e]
  by_cases hj : i = j
  · subst hj
    cases x.testBit i <;> simp
  · cases hx : x.testBit i <;> simp [hj]
theorem i64_and_pow (x : Nat) (i : Nat) (hi : i < 62) (hx : x < 9223372036854775808) : bits .and .i64 (x : Int) (2 ^ i) = ((x / 2 ^ i % 2 * 2 ^ i : Nat) : Int) := by
  show IntKind.i64.wrap ((BitVec.ofInt 64 x &&& BitVec.ofInt 64 (2 ^ i)).toNat : Int) = _
  have h1 : (BitVec.ofInt 64 (x : Int)).toNat = x := by rw [BitVec.toNat_ofInt]; omega
  have hp : 2 ^ i < 2 ^ 62 := Nat.pow_lt_pow_right (by decide) hi
  have h2 : (BitVec.ofInt 64 ((2 : Int) ^ i)).toNat = 2 ^ i := by
    rw [BitVec.toNat_ofInt, show ((2 : Int) ^ i) = ((2 ^ i : Nat) : Int) by simp]
    generalize 2 ^ i = q at hp
    omega
  rw [BitVec.toNat_and, h1, h2, nat_and_pow, IntKind.wrap_i64]
  have h3 : x / 2 ^ i % 2 * 2 ^ i ≤ 2 ^ i := by
    have h4 := Nat.mod_lt (x / 2 ^ i) (by decide : 0 < 2)
    have h5 : x / 2 ^ i % 2 * 2 ^ i ≤ 1 * 2 ^ i := Nat.mul_le_mul_right _ (by omega)
    omega
  generalize x / 2 ^ i % 2 * 2 ^ i = y at h3
  generalize 2 ^ i = q at hp h3
  omega
theorem i64_and32768 (x : Int) (h0 : 0 ≤ x) (hx : x ≤ 65535) : bits .and .i64 x 32768 = x / 32768 % 2 * 32768 := by
  obtain ⟨n, rfl⟩ := Int.eq_ofNat_of_zero_le h0
  have := i64_and_pow n 15 (by decide) (by omega)
  rw [show ((2 : Int) ^ 15) = 32768 from rfl] at this
  rw [this]
  omega
theorem i64_and8192 (x : Int) (h0 : 0 ≤ x) (hx : x ≤ 65535) : bits .and .i64 x 8192 = x / 8192 % 2 * 8192 := by
  obtain ⟨n, rfl⟩ := Int.eq_ofNat_of_zero_le h0
  have := i64_and_pow n 13 (by decide) (by omega)
  rw [show ((2 : Int) ^ 13) = 8192 from rfl] at this
  rw [this]
  omega
end Go.Proofs.Ytbghilihccaaaaa
namespace Go.Proofs.Ytbghilihccaaaaa
open Go.RowKit
set_option linter.unusedVariables false
set_option maxHeartbeats 400000 in
theorem check_any (a : Option Addr) (cap : Nat) (ls : List (List Int)) (w : World) (h : Rowss w a ls) :
    Calls Try.prog 55 #[.slice a ls.length cap] w fun e w' => e = .returned (.int .i64 (65535 - M.sumOf ls)) ∧ w' = w := by
  have hb := M.nf_bd (M.raw true ls.flatten)
  have hb' : 0 ≤ M.sumOf ls ∧ M.sumOf ls ≤ 65535 := hb
  clear hb
  go_enter Try.func55, Try.ntmps55
  go_wp2_with (go_at_call 63; refine (sum_any _ _ _ _ h).mono ?_; rintro e w' ⟨rfl, rfl⟩)
  go_ret
  exact ⟨rfl, rfl⟩
end Go.Proofs.Ytbghilihccaaaaa
namespace Go.Proofs.Ytbghilihccaaaaa
set_option linter.unusedVariables false
set_option linter.unusedSimpArgs false
theorem bytes4_len {a : Ad} (hf : a.fam = 4) (hr : a.right = true) : a.bytes.length = 4 := by
  unfold Ad.bytes
  rw [if_pos hr, if_pos hf, bytesGo_length]
theorem bytes_bytes (a : Ad) : M.Bytes a.bytes := by
  unfold Ad.bytes
  split
  · exact bytesGo_bytes _ _ _
  · exact M.Bytes.nil
theorem chk_bd (p : Pk) : 0 ≤ p.chk ∧ p.chk ≤ 65535 := by
  have := M.nf_bd (M.raw true ([p.front, p.src.bytes, p.dst.bytes] : List (List Int)).flatten)
  unfold Pk.chk M.sumOf
  omega
theorem hdr_len {p : Pk} (h : May p) : p.hdr.length = 20 := by
  have h1 := bytes4_len h.sf h.sr
  have h2 := bytes4_len h.df h.dr
  simp only [Pk.hdr, Pk.front, List.length_append, List.length_cons, List.length_nil, h1, h2]
theorem made_len {p : Pk} (h : May p) : p.made.length = 20 + p.data.length := by
  rw [Pk.made, List.length_append, hdr_len h]
theorem hdr_raw {p : Pk} (h : May p) : M.raw true p.hdr % 65535 = 0 ∧ 0 < M.raw true p.hdr := by
  have hs := bytes4_len h.sf h.sr
  have hd := bytes4_len h.df h.dr
  have c := chk_bd p
  have r1 := (M.raw_bd true p.src.bytes (bytes_bytes _)).1
  have r2 := (M.raw_bd true p.dst.bytes (bytes_bytes _)).1
  have f0 : 17664 ≤ M.raw true p.front := by
    have h1 := h.hop
    have h2 := h.proto
    simp only [Pk.front, List.cons_append, List.nil_append, M.raw_cons, M.raw_nil, Bool.not_true, Bool.not_false, if_true, Bool.false_eq_true, if_false]
    omega
  have e1 : M.raw true ([p.front, p.src.bytes, p.dst.bytes] : List (List Int)).flatten = M.raw true p.front + (M.raw true p.src.bytes + M.raw true p.dst.bytes) := by
    simp only [List.flatten_cons, List.flatten_nil, List.append_nil]
    rw [M.raw_append, M.raw_append, show p.front.length = 10 from rfl, M.par_even true (by decide : 10 % 2 = 0), hs, M.par_even true (by decide : 4 % 2 = 0)]
  have e2 : M.raw true p.hdr = M.raw true p.front + p.chk + (M.raw true p.src.bytes + M.raw true p.dst.bytes) := by
    rw [Pk.hdr, M.raw_append, M.raw_append, M.raw_append]
    simp only [List.length_append, List.length_cons, List.length_nil, hs, show p.front.length = 10 from rfl, M.par_even true (by decide : 10 % 2 = 0), M.par_even true (by decide : (10 + (0 + 1 + 1)) % 2 = 0), M.par_even true (by decide : (10 + (0 + 1 + 1) + 4) % 2 = 0), M.raw_cons, M.raw_nil, Bool.not_true, Bool.not_false, if_true, Bool.false_eq_true, if_false]
    omega
  have e3 : p.chk = 65535 - M.nf (M.raw true ([p.front, p.src.bytes, p.dst.bytes] : List (List Int)).flatten) := rfl
  rw [e1] at e3
  rw [e2, e3]
  generalize M.raw true p.front = f at *
  generalize M.raw true p.src.bytes = s at *
  generalize M.raw true p.dst.bytes = d at *
  clear e1 e2 e3 c
  unfold M.nf
  rw [if_neg (by omega)]
  omega
theorem hdr_sum {p : Pk} (h : May p) : M.sumOf [p.hdr] = 65535 := by
  have := hdr_raw h
  rw [M.sumOf_one]
  exact M.nf_full this.1 this.2
theorem getD_left (l m : List Int) (i : Nat) (h : i < l.length) : (l ++ m).getD i 0 = l.getD i 0 := by
  simp only [List.getD_eq_getElem?_getD, List.getElem?_append_left h]
/-- The first twenty bytes are alike. -/
def Alike (b c : List Int) : Prop := ∀ i, i < 20 → b.getD i 0 = c.getD i 0
theorem alike_hd {b c : List Int} (h : Alike b c) : hd b = hd c := by unfold hd; rw [h 0 (by omega)]
theorem alike_sz {b c : List Int} (h : Alike b c) : sz b = sz c := by
  show 256 * b.getD 2 0 + b.getD 3 0 = 256 * c.getD 2 0 + c.getD 3 0
  rw [h 2 (by omega), h 3 (by omega)]
theorem alike_pl {b c : List Int} (h : Alike b c) : pl b = pl c := by
  show 256 * b.getD 6 0 + b.getD 7 0 = 256 * c.getD 6 0 + c.getD 7 0
  rw [h 6 (by omega), h 7 (by omega)]
theorem take_app {b m : List Int} {k : Nat} (h : k ≤ b.length) : (b ++ m).take k = b.take k := by
  rw [List.take_append_of_le_length h]
theorem part_app {b m : List Int} {x n : Int} (hx : 0 ≤ x) (hn : 0 ≤ n) (h : x + n ≤ b.length) : part (b ++ m) x n = part b x n := by
  unfold part
  rw [List.drop_append_of_le_length (by omega), List.take_append_of_le_length (by rw [List.length_drop]; omega)]
theorem alike_app {b : List Int} (m : List Int) (h : 20 ≤ b.length) : Alike (b ++ m) b := fun i hi => getD_left b m i (by omega)
/-- What stands behind turns nothing. -/
theorem behind {b : List Int} (m : List Int) (h : perr b = 0) : perr (b ++ m) = 0 ∧ pkt (b ++ m) = pkt b := by
  obtain ⟨h1, h2, h3, h4, h5, h6, h7, h8, h9, h10, h11, h12⟩ := perr_zero.1 h
  have al := alike_app m h1
  have e1 := alike_hd al
  have e2 := alike_sz al
  have e3 := alike_pl al
  have e4 : mr (b ++ m) = mr b := by unfold mr; rw [e3]
  have e5 : ofs (b ++ m) = ofs b := by unfold ofs; rw [e3]
  have e6 : (b ++ m).take (hd b).toNat = b.take (hd b).toNat := take_app (by omega)
  refine ⟨perr_zero.2 ⟨by rw [List.length_append]; omega, by rw [al 0 (by omega)]; exact h2, by rw [e1]; exact h3, by rw [e1, List.length_append]; omega, by rw [e1, e2]; exact h5, by rw [e2, List.length_append]; omega, by rw [e1, e6]; exact h7, by rw [al 8 (by omega)]; exact h8, by rw [e3]; exact h9, by rw [e1, e6]; exact h10, by rw [e1, e2, e4]; exact h11, by rw [e1, e2, e5]; exact h12⟩, ?_⟩
  have e7 : fr (b ++ m) = fr b := by unfold fr; rw [e4, e5]
  have e8 : u16 (b ++ m) 4 = u16 b 4 := by
    show 256 * (b ++ m).getD 4 0 + (b ++ m).getD 5 0 = 256 * b.getD 4 0 + b.getD 5 0
    rw [al 4 (by omega), al 5 (by omega)]
  unfold pkt
  rw [part_app (by omega) (by omega) (by omega), part_app (by omega) (by omega) (by omega), al 9 (by omega), al 8 (by omega), e7, e8, e5, e4, e1, e2, part_app (by omega) (by omega) (by omega)]
theorem made_at {p : Pk} (i : Nat) (h : i < 12) : p.made.getD i 0 = (p.front ++ [p.chk / 256 % 256, p.chk % 256]).getD i 0 := by
  unfold Pk.made Pk.hdr
  rw [List.append_assoc, List.append_assoc, getD_left _ _ i (by simp [Pk.front]; omega)]
theorem made_sz {p : Pk} (h : May p) : sz p.made = 20 + p.data.length := by
  show 256 * p.made.getD 2 0 + p.made.getD 3 0 = _
  rw [made_at 2 (by omega), made_at 3 (by omega)]
  show 256 * ((20 + (p.data.length : Int)) / 256 % 256) + (20 + (p.data.length : Int)) % 256 = _
  have := h.over
  have := h.off0
  omega
theorem made_hd (p : Pk) : hd p.made = 20 := by
  unfold hd
  rw [made_at 0 (by omega)]
  rfl
theorem made_pl {p : Pk} (h : May p) : pl p.made = p.place := by
  show 256 * p.made.getD 6 0 + p.made.getD 7 0 = _
  rw [made_at 6 (by omega), made_at 7 (by omega)]
  show 256 * (p.place / 256 % 256) + p.place % 256 = _
  have h1 := h.over
  have h2 := h.off0
  have : p.place = p.off / 8 + (if p.more then 8192 else 0) := rfl
  split at this <;> omega
theorem made_id {p : Pk} (h : May p) (ho : p.ok) : u16 p.made 4 = p.id := by
  show 256 * p.made.getD 4 0 + p.made.getD 5 0 = _
  rw [made_at 4 (by omega), made_at 5 (by omega)]
  show 256 * (p.id / 256 % 256) + p.id % 256 = _
  have h1 := h.id
  have h2 := ho.id
  omega
theorem made_take {p : Pk} (h : May p) : p.made.take 20 = p.hdr := by
  unfold Pk.made
  exact List.take_left' (hdr_len h)
theorem made_src {p : Pk} (h : May p) : part p.made 12 4 = p.src.bytes := by
  have h1 := bytes4_len h.sf h.sr
  show (p.made.drop 12).take 4 = _
  unfold Pk.made Pk.hdr
  rw [List.append_assoc, List.append_assoc, List.drop_left' (by simp [Pk.front])]
  exact List.take_left' h1
theorem made_dst {p : Pk} (h : May p) : part p.made 16 4 = p.dst.bytes := by
  have h1 := bytes4_len h.sf h.sr
  have h2 := bytes4_len h.df h.dr
  show (p.made.drop 16).take 4 = _
  unfold Pk.made Pk.hdr
  rw [List.append_assoc, List.drop_left' (by simp [Pk.front, h1])]
  exact List.take_left' h2
theorem made_data {p : Pk} (h : May p) : part p.made 20 (20 + p.data.length - 20) = p.data := by
  show (p.made.drop 20).take (20 + (p.data.length : Int) - 20).toNat = _
  unfold Pk.made
  rw [List.drop_left' (hdr_len h), show (20 + (p.data.length : Int) - 20).toNat = p.data.length by omega]
  exact List.take_length
theorem made_mr {p : Pk} (h : May p) : mr p.made = p.more := by
  unfold mr
  rw [made_pl h]
  have h1 := h.over
  have h2 := h.off0
  unfold Pk.place
  cases p.more
  · simp only [Bool.false_eq_true, if_false, decide_eq_false_iff_not]; omega
  · simp only [if_true, decide_eq_true_eq]; omega
theorem made_ofs {p : Pk} (h : May p) : ofs p.made = p.off := by
  unfold ofs
  rw [made_pl h]
  have h1 := h.over
  have h2 := h.off0
  have h3 := h.off8
  unfold Pk.place
  cases p.more
  · simp only [Bool.false_eq_true, if_false]; omega
  · simp only [if_true]; omega
theorem made_flag {p : Pk} (h : May p) : p.place / 32768 % 2 = 0 := by
  have h1 := h.over
  have h2 := h.off0
  unfold Pk.place
  cases p.more
  · simp only [Bool.false_eq_true, if_false]; omega
  · simp only [if_true]; omega
theorem made_reads {p : Pk} (h : May p) : perr p.made = 0 := by
  have hl := made_len h
  have e1 := made_hd p
  have e2 := made_sz h
  refine perr_zero.2 ⟨by omega, ?_, by omega, by omega, by omega, by omega, ?_, ?_, by rw [made_pl h]; exact made_flag h, ?_, ?_, ?_⟩
  · rw [made_at 0 (by omega)]
    rfl
  · rw [e1, show (20 : Int).toNat = 20 from rfl, made_take h]
    exact hdr_sum h
  · rw [made_at 8 (by omega)]
    show p.hop ≠ 0
    have := h.hop
    omega
  · rw [e1, show (20 : Int).toNat = 20 from rfl, made_take h, List.drop_of_length_le (by rw [hdr_len h]; exact Nat.le_refl _)]
    rfl
  · rw [made_mr h, e1, e2]
    intro hm
    have := h.mult hm
    omega
  · rw [made_ofs h, e1, e2]
    have := h.over
    omega
/-- Of a packet that is bare: a fragment is what has More or a place. -/
def Pk.isBare (p : Pk) : Prop := p.frag = false → p.id = 0 ∧ p.off = 0 ∧ p.more = false
theorem made_fr {p : Pk} (h : May p) (hb : p.isBare) : fr p.made = p.frag := by
  unfold fr
  rw [made_mr h, made_ofs h]
  cases hf : p.frag
  · obtain ⟨_, h1, h2⟩ := hb hf
    simp [h1, h2]
  · rcases h.kind hf with h1 | h1 <;> simp [h1]
theorem made_pkt {p : Pk} (h : May p) (ho : p.ok) (hb : p.isBare) : pkt p.made = p := by
  unfold pkt
  rw [made_src h, made_dst h, from_bytes ho.src h.sr, from_bytes ho.dst h.dr, made_fr h hb, made_id h ho, made_ofs h, made_mr h, made_hd, made_sz h, made_data h, made_at 9 (by omega), made_at 8 (by omega)]
  have e : (if p.frag = true then p.id else 0) = p.id := by
    cases hf : p.frag
    · rw [(hb hf).1]; rfl
    · rfl
  rw [e]
  have := h.fam
  obtain ⟨f, s, d, pr, ho', fg, i, of, mo, da⟩ := p
  simp only at this
  subst this
  rfl
end Go.Proofs.Ytbghilihccaaaaa
