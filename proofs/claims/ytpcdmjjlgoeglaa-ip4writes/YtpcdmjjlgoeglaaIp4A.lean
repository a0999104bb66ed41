/- The options of a header, and a header's numbers by the functions made where they are used. -/
import Derived.Test.YtpcdmjjlgoeglaaIp4M
import Derived.Test.YtpcdmjjlgoeglaaFrm
namespace Go.Proofs.Ytpcdmjjlgoeglaa
open Go.RowKit
set_option linter.unusedVariables false
set_option linter.unusedSimpArgs false

def sliceLen : Value → Nat
  | .slice _ n _ => n
  | _ => 0
theorem sliceLen_slice (a : Option Addr) (n c : Nat) : sliceLen (.slice a n c) = n := rfl

set_option maxRecDepth 100000 in
set_option maxHeartbeats 1000000 in
theorem options_any (a : Option Addr) (c : Nat) (l : List Int) (w : World) (h : Row w a l) (hc : l.length ≤ c) (hcm : c ≤ 9223372036854775807) :
    Calls Try.prog 31 #[.slice a l.length c] w fun e w' => e = .returned (.int .i64 (opts l)) ∧ w' = w := by
  go_enter Try.func31, Try.ntmps31
  go_wp2
  go_loop [0] (fun v => ∃ a' c' r, v = .slice a' r.length c' ∧ Row w a' r ∧ r.length ≤ c' ∧ c' ≤ 9223372036854775807 ∧ Hid (opts r = opts l)) (fun v => sliceLen v)
  case atStart => exact ⟨a, c, l, rfl, h, hc, hcm, rfl⟩
  case round =>
    obtain ⟨a', c', r, rfl, hr, hc', hcm', ho⟩ := hrel
    clear hc hcm h
    cases r with
    | nil =>
      have e : Hid (0 = opts l) := by show 0 = opts l; rw [← ho.out, opts_nil]
      clear ho hr
      simp only [List.length_nil] at hc' ⊢
      go_wp2
      go_ret
      exact ⟨ret_int e.out, rfl⟩
    | cons x r =>
      obtain ⟨bk, off, rfl, hcl⟩ := hr.cells (by simp)
      have c0 := hcl 0 (by simp)
      have hx := hr.bytes.get 0
      simp only [Nat.add_zero, List.getD_cons_zero] at c0 hx
      simp only [List.length_cons] at hc' ⊢
      have hn0 : ((r.length : Int) + 1 > 0) := by omega
      by_cases x0 : x = 0
      · subst x0
        have e : Hid (0 = opts l) := by show 0 = opts l; rw [← ho.out, opts_end]
        clear ho hr hcl
        go_wp2
        go_ret
        exact ⟨ret_int e.out, rfl⟩
      · have x0' : (x != 0) = true := by simpa using x0
        by_cases x1 : x = 1
        · subst x1
          have hd : Row w (if c' = 1 then some ⟨bk, off, none⟩ else some ⟨bk, off + 1, none⟩) r := by
            have hd := hr.drop c' 1 (by simpa using hc')
            simpa [Go.WideShapes.add_plain] using hd
          have E : Hid (opts r = opts l) := by show opts r = opts l; rw [← ho.out, opts_one]
          clear ho hr hcl
          go_wp2
          exact ⟨⟨_, _, r, rfl, hd, by omega, by omega, E⟩, by simp [sliceLen]⟩
        · by_cases x2 : x = 131 ∨ x = 137
          · have e : Hid (8 = opts l) := by show 8 = opts l; rw [← ho.out, opts_route x r x2]
            clear ho hr hcl
            rcases x2 with rfl | rfl
            all_goals (go_wp2; go_ret; exact ⟨ret_int e.out, rfl⟩)
          · have x1' : (x == 1) = false := by simpa using x1
            have x2' : (x == 131) = false := by simp; omega
            have x3' : (x == 137) = false := by simp; omega
            cases r with
            | nil =>
              have e : Hid (7 = opts l) := by show 7 = opts l; rw [← ho.out, opts_bad x [] x0 x1 x2 (.inl (by simp))]
              clear ho hr hcl
              simp only [List.length_nil] at hc' ⊢
              go_wp2
              go_ret
              exact ⟨ret_int e.out, rfl⟩
            | cons y r =>
              have c1 := hcl 1 (by simp)
              have hy := hr.bytes.get 1
              simp only [List.getD_cons_succ, List.getD_cons_zero, List.length_cons] at c1 hy hc' hn0 ⊢
              obtain ⟨n, hn⟩ : ∃ n, r.length + 1 + 1 = n := ⟨_, rfl⟩
              have HN : Hid (r.length + 1 + 1 = n) := hn
              have hn1 : 2 ≤ n := by omega
              have hn2 : ¬ ((n : Int) < 2) := by omega
              have hn3 : (n : Int) > 0 := by omega
              rw [hn] at hc' ⊢
              clear hn hn0
              by_cases hb : (y :: r).length < 1 ∨ (y :: r).getD 0 0 < 2 ∨ (y :: r).getD 0 0 > (y :: r).length + 1
              · have e : Hid (7 = opts l) := by show 7 = opts l; rw [← ho.out, opts_bad x _ x0 x1 x2 hb]
                simp only [List.length_cons, List.getD_cons_zero] at hb
                clear ho hr hcl
                by_cases y2 : y < 2
                · go_wp2
                  go_ret
                  exact ⟨ret_int e.out, rfl⟩
                · have y3 : y > (n : Int) := by have := HN.out; omega
                  go_wp2
                  go_ret
                  exact ⟨ret_int e.out, rfl⟩
              · have hn := opts_next x _ x0 x1 x2 hb
                simp only [List.length_cons, List.getD_cons_zero] at hb hn
                have y2 : ¬ y < 2 := by omega
                have y3 : ¬ y > (n : Int) := by have := HN.out; omega
                obtain ⟨m, rfl⟩ := Int.eq_ofNat_of_zero_le hy.1
                rw [Int.toNat_natCast] at hn
                have E : Hid (opts ((x :: (m : Int) :: r).drop m) = opts l) := by show opts ((x :: (m : Int) :: r).drop m) = opts l; rw [← ho.out, hn]
                have hd : Row w (if c' = m then some ⟨bk, off, none⟩ else some ⟨bk, off + m, none⟩) ((x :: (m : Int) :: r).drop m) := by
                  have hd := hr.drop c' m (by have := HN.out; simp; omega)
                  simpa [Go.WideShapes.add_plain] using hd
                have hl2 : Hid (n - m = ((x :: (m : Int) :: r).drop m).length) := by
                  show _ = _
                  have := HN.out
                  simp
                  omega
                have y4 : (m : Int) ≤ (n : Int) := by omega
                have y5 : m ≤ n := by omega
                clear ho hr hcl hn hb
                go_wp2
                exact ⟨⟨_, _, _, by rw [hl2.out], hd, by rw [← hl2.out]; omega, by omega, E⟩, by simp [sliceLen]; omega⟩

set_option maxHeartbeats 400000 in
theorem byteAt_any (a : Option Addr) (c g : Nat) (l : List Int) (k : Nat) (w : World) (h : Row w a l) (hk : k < l.length) (hg : w.cell? ⟨g, 0, none⟩ = some (.slice a l.length c)) :
    Calls Try.prog 24 #[.int .i64 k, .pointer (some ⟨g, 0, none⟩)] w fun e w' => e = .returned (.int .i64 (l.getD k 0)) ∧ w' = w := by
  obtain ⟨bk, off, rfl, hc⟩ := h.cells (by omega)
  have c0 := hc k hk
  have hx := h.bytes.get k
  have hk' : (k : Int) < (l.length : Int) := by omega
  have hs := h.small
  clear hc h
  generalize l.getD k 0 = x at *
  go_enter Try.func24, Try.ntmps24
  go_wp2
  go_ret
  exact ⟨rfl, rfl⟩

set_option maxHeartbeats 400000 in
theorem wordAt_any (a : Option Addr) (c g : Nat) (l : List Int) (k : Int) (w : World) (h : Row w a l) (h0 : 0 ≤ k) (hk : k + 2 ≤ l.length) (hg : w.cell? ⟨g, 0, none⟩ = some (.slice a l.length c)) :
    Calls Try.prog 25 #[.int .i64 k, .pointer (some ⟨g, 0, none⟩)] w fun e w' => e = .returned (.int .i64 (u16 l k)) ∧ ∃ n, w' = w.drewN n := by
  go_enter Try.func25, Try.ntmps25
  go_wp2_with (go_at_call 26; refine (u16_yes _ _ _ _ _ h h0 hk).mono ?_; rintro e w' ⟨rfl, n, rfl⟩)
  go_ret
  exact ⟨rfl, n, rfl⟩

set_option maxHeartbeats 400000 in
theorem addrAt_any (a : Option Addr) (c g : Nat) (l : List Int) (k : Int) (w : World) (h : Row w a l) (hnil : a = none → c = 0) (hl : l.length ≤ 140737488351232) (hc : l.length ≤ c) (hcm : c ≤ 9223372036854775807) (h0 : 0 ≤ k) (hk : k + 4 ≤ l.length) (hg : w.cell? ⟨g, 0, none⟩ = some (.slice a l.length c)) :
    Calls Try.prog 27 #[.int .i64 k, .pointer (some ⟨g, 0, none⟩)] w fun e w' => e = .returned (fromB (part l k 4)).1.v ∧ Below w.heap.size w w' := by
  have hgl : g < w.heap.size := World.block_lt_of_cell? w _ hg
  have hgn : g ≠ w.heap.size := by omega
  have b0 : Below w.heap.size w (w.alloc (.cells #[.int .i64 0, .int .u64 0, .int .u64 0] 24)) := (Below.refl _ _).alloc (Nat.le_refl _) _
  have r0 := h.alloc (.cells #[.int .i64 0, .int .u64 0, .int .u64 0] 24)
  go_enter Try.func27, Try.ntmps27
  go_wp2_with fail
  refine (part_yes _ _ _ _ _ _ r0 hnil hl hc hcm h0 (by omega) (by omega)).mono ?_
  rintro e w1 ⟨a1, c1, rfl, f1⟩
  have b1 := f1.below
  have r1 := f1.row
  have z1 := b1.size
  simp only [World.size_alloc] at b1 z1
  clear f1 r0 hg
  go_wp2_with fail
  refine (from_any _ _ _ _ r1).mono ?_
  rintro e w2 ⟨rfl, b2⟩
  have b3 := b1.trans (b2.mono z1)
  have z2 := b3.size
  simp only [World.size_alloc] at z2
  have bb := b0.trans (b3.mono (Nat.le_succ _))
  obtain ⟨A, hA⟩ : ∃ A, (fromB (part l k 4)).1 = A := ⟨_, rfl⟩
  rw [hA]
  obtain ⟨f, hi, lo⟩ := A
  obtain ⟨w3, hw3⟩ : ∃ w3, w2.alloc (.cells #[.int .i64 f, .int .u64 hi, .int .u64 lo] 24) = w3 := ⟨_, rfl⟩
  have b4 : Below (w.alloc (.cells #[.int .i64 0, .int .u64 0, .int .u64 0] 24)).heap.size (w.alloc (.cells #[.int .i64 0, .int .u64 0, .int .u64 0] 24)) w3 := by
    rw [← hw3]; simp only [World.size_alloc]; exact b3.alloc z2 _
  have d0 : w3.cell? ⟨w.heap.size, 0, none⟩ = some (.int .i64 0) := kept b4 (by simp)
  have d1 : w3.cell? ⟨w.heap.size, 1, none⟩ = some (.int .u64 0) := kept b4 (by simp)
  have d2 : w3.cell? ⟨w.heap.size, 2, none⟩ = some (.int .u64 0) := kept b4 (by simp)
  have fz : ∀ o, w3.frozen? ⟨w.heap.size, o, none⟩ = false := fun o => (b4.frozen (p := ⟨w.heap.size, o, none⟩) (by simp)).trans (by simp)
  have e0 : w3.cell? ⟨w2.heap.size, 0, none⟩ = some (.int .i64 f) := by rw [← hw3]; simp
  have e1 : w3.cell? ⟨w2.heap.size, 1, none⟩ = some (.int .u64 hi) := by rw [← hw3]; simp
  have e2 : w3.cell? ⟨w2.heap.size, 2, none⟩ = some (.int .u64 lo) := by rw [← hw3]; simp
  have b5 : Below w.heap.size w w3 := b0.trans (b4.mono (by simp))
  clear r1 b1 z1 b2 b3 bb b4
  go_wp2
  exact bodyPost_ret (v := .agg #[.int .i64 f, .int .u64 hi, .int .u64 lo]) (by simp [results, Try.results27, go_sem, d0, d1, d2]) rfl ⟨by rw [hA], ((b5.setCell (by simp) _).setCell (by simp) _).setCell (by simp) _⟩
end Go.Proofs.Ytpcdmjjlgoeglaa
