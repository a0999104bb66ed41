/- Texts joined: Ip6Se -/
import Derived.Test.YtmnkdogdligckaaIp6zb36
import Derived.BigRegion
namespace Go.Proofs.Ytmnkdogdligckaa
open Go.RowKit
set_option linter.unusedVariables false
set_option linter.unusedSimpArgs false
set_option maxRecDepth 100000 in
set_option maxHeartbeats 4000000 in
theorem one_hop7 (g : Nat) (s : St) (at_ : Nat) (L : List Int) (a : Option Addr) (c : Nat) (xa : Option Addr) (xc : Nat) (E : Bool) (W0 w w1 : World) (R : RT W0 w g s at_ L a c xa xc E w1) (hg : W0.heap.size ≤ g) (hb : Below W0.heap.size W0 w) (hcut : s.cut = false) (h8 : s.ex.length ≠ 8) (hl : ¬ s.l.length < hsz s.next s.l) (hx : s.next = 0) (hh : s.met = true ∨ 0 < s.ex.length) :
    Calls Try.prog 44 #[.pointer (some ⟨g, 0, none⟩)] w1 fun e w' => e = .returned (.tuple #[.int .i64 (werr s), .bool (oneOver s)]) ∧ OneTo W0 w g s at_ L a c E w' := by
  have hw : werr s = 7 := by
    unfold werr
    rw [if_neg h8, if_neg hl]
    unfold lerr
    rw [if_pos hx, if_pos hh]
  have ho : oneOver s = true := by unfold oneOver; rw [hw, if_neg (by decide)]
  rw [hw, ho]
  have HB : Hid (∀ w', Below g w w' → OneTo W0 w g s at_ L a c E w') := fun w' h => ⟨h, fun h => absurd h (by rw [hw]; decide)⟩
  clear hw ho
  have hlz := R.lis
  have hll : s.l.length = L.length - at_ := by rw [R.lis, List.length_drop]
  have c3 := R.tw.c3
  have h8n : s.ex.length ≤ 7 := by have := R.few; omega
  have h8' : ¬ (8 : Int) ≤ (s.ex.length : Int) := by omega
  have hbw : Below W0.heap.size W0 w1 := hb.trans (R.below.mono hg)
  have HZC : Hid _ := rsize6_any g s at_ a c L _ _ E w1 R.tw (R.row.below hbw) R.lis R.atl
  rw [if_neg hl] at HZC
  have HRA : Hid (∀ n, RT W0 w g s at_ L a c xa xc E (w1.drewN n)) := fun n => R.drewN n
  obtain ⟨hz, hhz⟩ : ∃ hz, hsz s.next s.l = hz := ⟨_, rfl⟩
  have HZ : Hid (hsz s.next s.l = hz) := hhz
  rw [hhz] at HZC hl
  have hp : 8 ≤ hz := by rw [← hhz]; exact hsz_pos _ _
  have sm := R.row.small
  have hroom := R.room
  have hcap := R.cap
  have hatl := R.atl
  have hd0 := (R.row.drop c at_ hroom).take hz
  rw [← R.lis] at hd0
  have hL : (s.l.take hz).length = hz := by rw [List.length_take]; omega
  have HL : Hid ((s.l.take hz).length = hz) := hL
  obtain ⟨bk, off, rfl, hclx⟩ := R.row.cells (by omega)
  clear hclx
  have hcat : ¬ c = at_ := by omega
  rw [if_neg hcat] at hd0
  have hd1 : Row W0 (some ⟨bk, off + at_, none⟩) (s.l.take hz) := by simpa [Go.WideShapes.add_plain] using hd0
  have HD : Hid (Row W0 (some ⟨bk, off + at_, none⟩) (s.l.take hz)) := hd1
  clear hd1
  clear hd0 hhz hlz hL
  have i1 : (at_ : Int) ≤ (at_ : Int) + (hz : Int) := by omega
  have i2 : (at_ : Int) + (hz : Int) ≤ (c : Int) := by omega
  have i3 : at_ + hz ≤ c := by omega
  have hn0 : ¬ (hz : Int) < 0 := Int.not_lt.2 (Int.natCast_nonneg hz)
  have i4 : (at_ : Int) + (hz : Int) ≤ 140737488355328 := by omega
  clear R
  go_enter Try.func44, Try.ntmps44
  go_wp2_with fail
  refine Calls.mono HZC.out ?_
  rintro e w' ⟨rfl, n, rfl⟩
  have HR : Hid (RT W0 w g s at_ L (some ⟨bk, off, none⟩) c xa xc E (w1.drewN n)) := HRA.out n
  obtain ⟨w2, hw2⟩ : ∃ w2, w1.drewN n = w2 := ⟨_, rfl⟩
  rw [hw2] at HR ⊢
  clear HRA HZC c3 hw2 hbw
  have c0 := HR.out.tw.c0
  have c1 := HR.out.tw.c1
  have c2 := HR.out.tw.c2
  go_wp2
  go_quiet (fail)
  replace HR : Hid (RT W0 w g s at_ L (some ⟨bk, off, none⟩) c xa xc E (w2.drewN nq)) := HR.out.drewN nq
  obtain ⟨w3, hw3⟩ : ∃ w3, w2.drewN nq = w3 := ⟨_, rfl⟩
  rw [hw3] at HR ⊢
  clear c0 c1 c2 hw3
  have c0 := HR.out.tw.c0
  have hr3 : Row w3 (some ⟨bk, off + at_, none⟩) (s.l.take hz) := HD.out.below (hb.trans (HR.out.below.mono hg))
  rw [hx] at c0
  have c4 := HR.out.tw.c4
  have hq : (!s.met && decide (s.ex.length = 0)) = false := by
    rcases hh with h | h
    · simp [h]
    · have : s.ex.length ≠ 0 := by omega
      simp [this]
  rw [hq] at c4
  have HBX := HB.out w3 HR.out.below
  clear hr3 HD
  go_wp2
  exact bodyPost_ret (v := .tuple #[.int .i64 7, .bool true]) (by simp [results, Try.results44, go_sem]) rfl ⟨rfl, HBX⟩
set_option maxRecDepth 100000 in
set_option maxHeartbeats 4000000 in
theorem one_met7 (g : Nat) (s : St) (at_ : Nat) (L : List Int) (a : Option Addr) (c : Nat) (xa : Option Addr) (xc : Nat) (E : Bool) (W0 w w1 : World) (R : RT W0 w g s at_ L a c xa xc E w1) (hg : W0.heap.size ≤ g) (hb : Below W0.heap.size W0 w) (hcut : s.cut = false) (h8 : s.ex.length ≠ 8) (hl : ¬ s.l.length < hsz s.next s.l) (hx : s.next = 44) (hm : s.met = true) :
    Calls Try.prog 44 #[.pointer (some ⟨g, 0, none⟩)] w1 fun e w' => e = .returned (.tuple #[.int .i64 (werr s), .bool (oneOver s)]) ∧ OneTo W0 w g s at_ L a c E w' := by
  have hw : werr s = 7 := by
    unfold werr
    rw [if_neg h8, if_neg hl]
    unfold lerr
    rw [if_neg (by rw [hx]; decide), if_neg (by rw [hx]; decide), if_pos hx, if_pos hm]
  have ho : oneOver s = true := by unfold oneOver; rw [hw, if_neg (by decide)]
  rw [hw, ho]
  have HB : Hid (∀ w', Below g w w' → OneTo W0 w g s at_ L a c E w') := fun w' h => ⟨h, fun h => absurd h (by rw [hw]; decide)⟩
  clear hw ho
  have hlz := R.lis
  have hll : s.l.length = L.length - at_ := by rw [R.lis, List.length_drop]
  have c3 := R.tw.c3
  have h8n : s.ex.length ≤ 7 := by have := R.few; omega
  have h8' : ¬ (8 : Int) ≤ (s.ex.length : Int) := by omega
  have hbw : Below W0.heap.size W0 w1 := hb.trans (R.below.mono hg)
  have HZC : Hid _ := rsize6_any g s at_ a c L _ _ E w1 R.tw (R.row.below hbw) R.lis R.atl
  rw [if_neg hl] at HZC
  have HRA : Hid (∀ n, RT W0 w g s at_ L a c xa xc E (w1.drewN n)) := fun n => R.drewN n
  obtain ⟨hz, hhz⟩ : ∃ hz, hsz s.next s.l = hz := ⟨_, rfl⟩
  have HZ : Hid (hsz s.next s.l = hz) := hhz
  rw [hhz] at HZC hl
  have hp : 8 ≤ hz := by rw [← hhz]; exact hsz_pos _ _
  have sm := R.row.small
  have hroom := R.room
  have hcap := R.cap
  have hatl := R.atl
  have hd0 := (R.row.drop c at_ hroom).take hz
  rw [← R.lis] at hd0
  have hL : (s.l.take hz).length = hz := by rw [List.length_take]; omega
  have HL : Hid ((s.l.take hz).length = hz) := hL
  obtain ⟨bk, off, rfl, hclx⟩ := R.row.cells (by omega)
  clear hclx
  have hcat : ¬ c = at_ := by omega
  rw [if_neg hcat] at hd0
  have hd1 : Row W0 (some ⟨bk, off + at_, none⟩) (s.l.take hz) := by simpa [Go.WideShapes.add_plain] using hd0
  have HD : Hid (Row W0 (some ⟨bk, off + at_, none⟩) (s.l.take hz)) := hd1
  clear hd1
  clear hd0 hhz hlz hL
  have i1 : (at_ : Int) ≤ (at_ : Int) + (hz : Int) := by omega
  have i2 : (at_ : Int) + (hz : Int) ≤ (c : Int) := by omega
  have i3 : at_ + hz ≤ c := by omega
  have hn0 : ¬ (hz : Int) < 0 := Int.not_lt.2 (Int.natCast_nonneg hz)
  have i4 : (at_ : Int) + (hz : Int) ≤ 140737488355328 := by omega
  clear R
  go_enter Try.func44, Try.ntmps44
  go_wp2_with fail
  refine Calls.mono HZC.out ?_
  rintro e w' ⟨rfl, n, rfl⟩
  have HR : Hid (RT W0 w g s at_ L (some ⟨bk, off, none⟩) c xa xc E (w1.drewN n)) := HRA.out n
  obtain ⟨w2, hw2⟩ : ∃ w2, w1.drewN n = w2 := ⟨_, rfl⟩
  rw [hw2] at HR ⊢
  clear HRA HZC c3 hw2 hbw
  have c0 := HR.out.tw.c0
  have c1 := HR.out.tw.c1
  have c2 := HR.out.tw.c2
  go_wp2
  go_quiet (fail)
  replace HR : Hid (RT W0 w g s at_ L (some ⟨bk, off, none⟩) c xa xc E (w2.drewN nq)) := HR.out.drewN nq
  obtain ⟨w3, hw3⟩ : ∃ w3, w2.drewN nq = w3 := ⟨_, rfl⟩
  rw [hw3] at HR ⊢
  clear c0 c1 c2 hw3
  have c0 := HR.out.tw.c0
  have hr3 : Row w3 (some ⟨bk, off + at_, none⟩) (s.l.take hz) := HD.out.below (hb.trans (HR.out.below.mono hg))
  rw [hx] at c0
  have c5 := HR.out.tw.c5
  rw [hm] at c5
  have HBX := HB.out w3 HR.out.below
  clear hr3 HD
  go_wp2
  exact bodyPost_ret (v := .tuple #[.int .i64 7, .bool true]) (by simp [results, Try.results44, go_sem]) rfl ⟨rfl, HBX⟩
end Go.Proofs.Ytmnkdogdligckaa
