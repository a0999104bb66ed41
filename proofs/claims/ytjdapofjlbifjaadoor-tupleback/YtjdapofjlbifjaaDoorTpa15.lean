/- Texts joined: RByt -/
import Derived.Test.YtjdapofjlbifjaaDoorTpa14
import Derived.Deep.DeepCutAuto
namespace Go.Proofs.YtjdapofjlbifjaaDoor
open Go.RowKit
set_option linter.unusedVariables false
set_option linter.unusedSimpArgs false
theorem room_of {w : World} {B : Nat} {a : Option Addr} {c : Nat} {l : List Int} (o : Owns w B (.slice a l.length c) l) : l.length ≤ c ∧ (a = none → c = 0) := by
  obtain ⟨a', c', h1, h2, h3, _⟩ := o.form
  cases h1
  exact ⟨h2, h3⟩
theorem or_bit (n d : Nat) (hn : n < 256) (hd : d < 2) : bits .or .i64 ((n : Int) * 2) d = ((n * 2 + d : Nat) : Int) := by
  rw [bits_join .i64 63 (by decide) wraps_i64 1 ((n : Int) * 2) d (by omega) (by omega) (by omega) (by omega) (by omega) (by omega)]; omega
theorem mod_step (V e k : Nat) : V / 2 ^ (e + 1) % 2 ^ k * 2 + V / 2 ^ e % 2 = V / 2 ^ e % 2 ^ (k + 1) := by
  rw [show (2 : Nat) ^ (k + 1) = 2 * 2 ^ k by rw [Nat.pow_succ, Nat.mul_comm], Nat.mod_mul, show (2 : Nat) ^ (e + 1) = 2 ^ e * 2 by rw [Nat.pow_succ], ← Nat.div_div_eq_div_mul]
  omega
/-- The box of an address stands. -/
structure Boxed (w w' : World) (f h l : Int) : Prop where
  a0 : w'.cell? ⟨w.heap.size, 0, none⟩ = some (.int .i64 f)
  a1 : w'.cell? ⟨w.heap.size, 1, none⟩ = some (.int .u64 h)
  a2 : w'.cell? ⟨w.heap.size, 2, none⟩ = some (.int .u64 l)
  bel : Below w.heap.size w w'
  size : w.heap.size < w'.heap.size
theorem Boxed.below {w w' w'' : World} {f h l : Int} (x : Boxed w w' f h l) (hb : Below (w.heap.size + 1) w' w'') : Boxed w w'' f h l :=
  ⟨(hb.cell (p := ⟨w.heap.size, 0, none⟩) (by simp)).trans x.a0, (hb.cell (p := ⟨w.heap.size, 1, none⟩) (by simp)).trans x.a1, (hb.cell (p := ⟨w.heap.size, 2, none⟩) (by simp)).trans x.a2,
   x.bel.trans (hb.mono (by omega)), by have := x.size; have := hb.size; omega⟩
set_option maxRecDepth 100000 in
set_option maxHeartbeats 4000000 in
theorem rbytes_right (f h l : Int) (w : World) (ho : Ad.ok ⟨f, h, l⟩) (hr : Ad.right ⟨f, h, l⟩ = true) :
    Calls Tryd.prog 47 #[.agg #[.int .i64 f, .int .u64 h, .int .u64 l]] w fun e w' => ∃ a c, e = .returned (.slice a (Ad.bytes ⟨f, h, l⟩).length c) ∧ Fresh w w' a c (Ad.bytes ⟨f, h, l⟩) := by
  have hok := ho
  obtain ⟨⟨_, _⟩, ⟨h0, h1⟩, ⟨l0, l1⟩⟩ := ho
  simp only at h0 h1 l0 l1
  obtain ⟨N, hN⟩ : ∃ N : Nat, (if f = 4 then 4 else 16) = N := ⟨_, rfl⟩
  have hN16 : N ≤ 16 := by rw [← hN]; split <;> omega
  have ew : Ad.width ⟨f, h, l⟩ = (N : Int) * 8 := by unfold Ad.width; simp only; rw [← hN]; split <;> simp
  have es : (if f = 4 then (32 : Int) else 128) = (N : Int) * 8 := ew
  obtain ⟨V, hV⟩ : ∃ V : Nat, Ad.val ⟨f, h, l⟩ = (V : Int) := ⟨(num2 h l).toNat, by unfold Ad.val num2; simp only; omega⟩
  have eb : Ad.bytes ⟨f, h, l⟩ = (List.range N).map fun j => ((V / 256 ^ (N - 1 - j) % 256 : Nat) : Int) := by
    unfold Ad.bytes
    rw [if_pos hr]
    show bytesGo (if f = 4 then 4 else 16) h l = _
    rw [hN, bytesGo_val N h l h0 (by omega) l0 (by omega)]
    apply List.map_congr_left
    intro j _
    have : num2 h l = (V : Int) := hV
    rw [this]
    norm_cast
  have kb : ∀ i : Nat, i < 8 * N → ∀ w, Calls Tryd.prog 55 #[.agg #[.int .i64 f, .int .u64 h, .int .u64 l], .int .i64 i] w fun e w' => e = .returned (.int .i64 ((V / 2 ^ (8 * N - 1 - i) % 2 : Nat) : Int)) ∧ w' = w.alloc (.cells #[.int .i64 f, .int .u64 h, .int .u64 l] 24) := fun i hi w => by
    have := rbit_any f h l i w hok hr (by rw [ew]; omega)
    have e : Ad.bit ⟨f, h, l⟩ i = ((V / 2 ^ (8 * N - 1 - i) % 2 : Nat) : Int) := by
      unfold Ad.bit
      rw [hV, ew, show ((N : Int) * 8).toNat = 8 * N by omega]
      norm_cast
    rwa [e] at this
  have krr : ∀ w, Calls Tryd.prog 36 #[.agg #[.int .i64 f, .int .u64 h, .int .u64 l]] w fun e w' => e = .returned (.bool true) ∧ w' = w.alloc (.cells #[.int .i64 f, .int .u64 h, .int .u64 l] 24) := fun w => by
    have := rright_any f h l w l0
    rwa [hr] at this
  have ks : ∀ w, Calls Tryd.prog 54 #[.int .i64 f] w fun e w' => e = .returned (.int .i64 ((N : Int) * 8)) ∧ w' = w := fun w => by
    have := rsize_any f w
    rwa [es] at this
  rw [eb]
  generalize hB : ((List.range N).map fun j => ((V / 256 ^ (N - 1 - j) % 256 : Nat) : Int)) = Bs
  have HB : Hid _ := hB
  have hBl : Hid (Bs.length = N) := by show _ = _; rw [← hB]; simp
  have hget : Hid (∀ j, j < N → Bs.getD j 0 = ((V / 256 ^ (N - 1 - j) % 256 : Nat) : Int)) := fun j hj => by rw [← hB]; simp [hj]
  clear hB HB eb ew es hN hr hok hV h0 h1 l0 l1
  go_enter Tryd.func47, Tryd.ntmps47
  go_wp2_with (go_at_call 36; refine (krr _).mono ?_; rintro e w' ⟨rfl, rfl⟩)
  have X0 : Boxed w ((w.alloc (.cells #[.int .i64 f, .int .u64 h, .int .u64 l] 24)).alloc (.cells #[.int .i64 f, .int .u64 h, .int .u64 l] 24)) f h l := ⟨by simp [go_sem], by simp [go_sem], by simp [go_sem], ((Below.refl _ _).alloc (Nat.le_refl _) _).alloc (by simp) _, by simp; omega⟩
  generalize (w.alloc (.cells #[.int .i64 f, .int .u64 h, .int .u64 l] 24)).alloc (.cells #[.int .i64 f, .int .u64 h, .int .u64 l] 24) = w0 at *
  go_loopw [3, 4] (fun o i w' => ∃ (j : Nat) (r : List Int) (a : Option Addr) (c : Nat), j ≤ N ∧ i = .int .i64 ((8 * j : Nat) : Int) ∧ o = .slice a r.length c ∧ r.length ≤ j ∧ M.Bytes r ∧ Owns w' (w.heap.size + 1) (.slice a r.length c) r ∧ Boxed w w' f h l ∧ Hid (r = Bs.take j)) (fun _ i _ => 8 * N - (intOf i).toNat)
  case atStart => exact ⟨0, [], none, 0, Nat.zero_le _, rfl, rfl, Nat.le_refl _, M.Bytes.nil, Owns.nil _ _, X0, rfl⟩
  case round =>
    obtain ⟨j, r, a, c, hj, rfl, rfl, hrl, hrb, own, X, hT⟩ := hrel
    obtain ⟨a0, a1, a2, bel, hz⟩ := X
    by_cases hlt : j < N
    · have ilt : ((8 * j : Nat) : Int) < (N : Int) * 8 := by omega
      have hj8 : 8 * j + 8 ≤ 8 * N := by omega
      obtain ⟨p, hp⟩ : ∃ p, 8 * j = p := ⟨_, rfl⟩
      have HP : Hid (8 * j = p) := hp
      rw [hp] at ilt hj8 ⊢
      clear hp
      have X1 : Boxed w wr f h l := ⟨a0, a1, a2, bel, hz⟩
      go_upto_region 9 with (go_at_call 54; refine (ks _).mono ?_; rintro e w' ⟨rfl, hw'⟩; subst hw')
      clear a0 a1 a2 bel hz
      go_wp2
      go_loopw [5, 6] (fun n k w'' => ∃ (t m : Nat), t ≤ 8 ∧ k = .int .i64 t ∧ n = .int .i64 m ∧ m < 256 ∧ Hid (m = V / 2 ^ (8 * N - p - t) % 2 ^ t) ∧ Owns w'' (w.heap.size + 1) (.slice a r.length c) r ∧ Boxed w w'' f h l) (fun _ k _ => 8 - (intOf k).toNat)
      case atStart => exact ⟨0, 0, by omega, rfl, rfl, by omega, (by show 0 = _; simp [Nat.mod_one]), own, X1⟩
      case round =>
        obtain ⟨t, m, ht, rfl, rfl, hm, hM, own2, Y⟩ := hrel
        obtain ⟨a0, a1, a2, bel, hz⟩ := Y
        by_cases ht8 : t < 8
        · have it8 : (t : Int) < 8 := by omega
          have kbt := kb (p + t) (by omega)
          rw [show ((p + t : Nat) : Int) = (p : Int) + (t : Int) by omega] at kbt
          obtain ⟨d, hd⟩ : ∃ d, V / 2 ^ (8 * N - 1 - (p + t)) % 2 = d := ⟨_, rfl⟩
          rw [hd] at kbt
          have hd2 : d < 2 := by rw [← hd]; exact Nat.mod_lt _ (by decide)
          have hm128 : m < 2 ^ t := by rw [hM.out]; exact Nat.mod_lt _ (Nat.two_pow_pos t)
          have hm7 : m < 128 := Nat.lt_of_lt_of_le hm128 (Nat.pow_le_pow_right (n := 2) (j := 7) (by decide) (by omega))
          have eor := or_bit m d hm hd2
          have hM2 : Hid (m * 2 + d = V / 2 ^ (8 * N - p - (t + 1)) % 2 ^ (t + 1)) := by
            show _ = _
            have := mod_step V (8 * N - p - (t + 1)) t
            rw [show 8 * N - p - (t + 1) + 1 = 8 * N - p - t by omega, ← hM.out, show 8 * N - p - (t + 1) = 8 * N - 1 - (p + t) by omega, hd] at this
            rw [this, show 8 * N - p - (t + 1) = 8 * N - 1 - (p + t) by omega]
          have Z := (Below.refl (w.heap.size + 1) wr).alloc (by omega) (.cells #[.int .i64 f, .int .u64 h, .int .u64 l] 24)
          have Y2 := (⟨a0, a1, a2, bel, hz⟩ : Boxed w wr f h l).below Z
          clear hd hM hm128
          go_wp2_with (go_at_call 55; refine (kbt _).mono ?_; rintro e w' ⟨rfl, rfl⟩)
          exact ⟨⟨t + 1, m * 2 + d, by omega, int_eq (by omega), int_eq (by omega), by omega, hM2, own2.alloc _, Y2⟩, by simp [intOf]; omega⟩
        · have et : t = 8 := by omega
          subst et
          have it8 : ¬ ((8 : Nat) : Int) < 8 := by omega
          have hbyte : (m : Int) = Bs.getD j 0 := by
            rw [hget.out j hlt, hM.out]
            have : 2 ^ (8 * N - p - 8) = 256 ^ (N - 1 - j) := by
              rw [show (256 : Nat) = 2 ^ 8 from rfl, ← Nat.pow_mul]
              congr 1
              have := HP.out
              omega
            rw [this]
          obtain ⟨r2, hr2⟩ : ∃ r2, r ++ [(m : Int)] = r2 := ⟨_, rfl⟩
          have HR2 : Hid (r ++ [(m : Int)] = r2) := hr2
          have hT2 : Hid (r2 = Bs.take (j + 1)) := by
            show _ = _
            rw [← hr2, hT.out, hbyte, List.take_succ_eq_append_getElem (by rw [hBl.out]; exact hlt)]
            congr 1
            rw [List.getD_eq_getElem?_getD, List.getElem?_eq_getElem (by rw [hBl.out]; exact hlt)]
            rfl
          have hl2 : r2.length ≤ j + 1 := by rw [← hr2]; simp; omega
          have hb2 : M.Bytes r2 := by rw [← hr2]; exact hrb.app (fun z hz => by simp at hz; omega)
          have um : IntKind.u8.wrap (m : Int) = (m : Int) := by rw [IntKind.wrap_u8]; omega
          have Y : Boxed w wr f h l := ⟨a0, a1, a2, bel, hz⟩
          clear hr2 hbyte hM
          go_wp2_with (at_builtin; refine wpList_app2 _ rfl _ _ rfl (w.heap.size + 1) _ r rfl (own2.alloc _) hrb _ 1 [(m : Int)] rfl ?row (fun hh => by cases hh) r2 HR2.out ?c1 ?c2 ?_)
          case row =>
            refine row_at _ 5 [(m : Int)] _ (by first | rfl | simp) (by simp) ?_
            intro z hz
            simp at hz
            omega
          case c1 => omega
          case c2 => first | omega | (simp; omega)
          intro a3 c3 w3 o3 hc3 hn3 r3 b3 _
          have Z := ((Below.refl (w.heap.size + 1) wr).alloc (by omega) (.cells #[.int .u8 (m : Int)] 5)).trans b3
          go_wp2
          exact ⟨⟨j + 1, r2, a3, c3, by omega, int_eq (by have := HP.out; omega), rfl, hl2, hb2, o3, Y.below Z, hT2⟩, by have := HP.out; simp [intOf]; omega⟩
    · have ej : j = N := by omega
      have ilt : ¬ ((8 * j : Nat) : Int) < (N : Int) * 8 := by omega
      obtain rfl : r = Bs := by rw [hT.out, ej, ← hBl.out, List.take_length]
      have rm := room_of own
      clear ej
      go_wp2_with (go_at_call 54; refine (ks _).mono ?_; rintro e w' ⟨rfl, hw'⟩; subst hw')
      go_ret
      exact ⟨a, c, rfl, owns_le (by omega) own, rm.1, rm.2, own.row (by omega) hrb, bel⟩
end Go.Proofs.YtjdapofjlbifjaaDoor
