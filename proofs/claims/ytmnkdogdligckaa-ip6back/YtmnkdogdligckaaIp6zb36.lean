/- Texts joined: Ip6S -/
import Derived.Test.YtmnkdogdligckaaIp6zb35
import Derived.BigRegion
namespace Go.Proofs.Ytmnkdogdligckaa
open Go.RowKit
set_option linter.unusedVariables false
set_option linter.unusedSimpArgs false
/-- All that is known of the document's walk while it goes on. -/
structure RT (W0 w : World) (g : Nat) (s : St) (at_ : Nat) (L : List Int) (a : Option Addr) (c : Nat) (xa : Option Addr) (xc : Nat) (E : Bool) (wr : World) : Prop where
  tw : TW wr g s at_ (.slice a L.length c) (.slice xa s.ex.length xc) (!s.met && decide (s.ex.length = 0)) E
  row : Row W0 a L
  room : L.length ≤ c
  cap : c ≤ 9223372036854775807
  lis : s.l = L.drop at_
  atl : at_ ≤ L.length
  own : OwnsI wr (g + 1) (.slice xa s.ex.length xc) s.ex
  below : Below g w wr
  few : s.ex.length ≤ 8
  plain : E = false → s.met = true
  zero : s.cut = false → s.off = 0 ∧ s.more = false
theorem RT.drewN {W0 w : World} {g : Nat} {s : St} {at_ : Nat} {L : List Int} {a : Option Addr} {c : Nat} {xa : Option Addr} {xc : Nat} {E : Bool} {wr : World} (h : RT W0 w g s at_ L a c xa xc E wr) (m : Nat) : RT W0 w g s at_ L a c xa xc E (wr.drewN m) :=
  ⟨h.tw.grown (grownBy_drewN wr m none) (by simp), h.row, h.room, h.cap, h.lis, h.atl, h.own, below_drewN h.below m, h.few, h.plain, h.zero⟩
/-- What one step leaves behind it. -/
def OneTo (W0 w : World) (g : Nat) (s : St) (at_ : Nat) (L : List Int) (a : Option Addr) (c : Nat) (E : Bool) (w' : World) : Prop :=
  Below g w w' ∧ (werr s = 0 → ∃ xa xc, RT W0 w g (after s) (at_ + hsz s.next s.l) L a c xa xc E w')
theorem after_cut (s : St) : (after s).cut = (took s).cut := by simp only [after, stepd]
def oneOver (s : St) : Bool := if werr s = 0 then (after s).cut else true
set_option maxRecDepth 100000 in
set_option maxHeartbeats 4000000 in
theorem one_many (g : Nat) (s : St) (at_ : Nat) (L : List Int) (a : Option Addr) (c : Nat) (xa : Option Addr) (xc : Nat) (E : Bool) (W0 w w1 : World) (R : RT W0 w g s at_ L a c xa xc E w1) (hg : W0.heap.size ≤ g) (hb : Below W0.heap.size W0 w) (hcut : s.cut = false) (h8 : s.ex.length = 8) :
    Calls Try.prog 44 #[.pointer (some ⟨g, 0, none⟩)] w1 fun e w' => e = .returned (.tuple #[.int .i64 (werr s), .bool (oneOver s)]) ∧ OneTo W0 w g s at_ L a c E w' := by
  have hw : werr s = 17 := by unfold werr; rw [if_pos h8]
  have ho : oneOver s = true := by unfold oneOver; rw [hw, if_neg (by decide)]
  rw [hw, ho]
  have c3 := R.tw.c3
  rw [h8] at c3
  have HB : Hid (OneTo W0 w g s at_ L a c E w1) := ⟨R.below, fun h => absurd h (by rw [hw]; decide)⟩
  clear R hw ho h8
  go_enter Try.func44, Try.ntmps44
  go_wp2
  exact bodyPost_ret (v := .tuple #[.int .i64 17, .bool true]) (by simp [results, Try.results44, go_sem]) rfl ⟨rfl, HB.out⟩
set_option maxRecDepth 100000 in
set_option maxHeartbeats 4000000 in
theorem one_short (g : Nat) (s : St) (at_ : Nat) (L : List Int) (a : Option Addr) (c : Nat) (xa : Option Addr) (xc : Nat) (E : Bool) (W0 w w1 : World) (R : RT W0 w g s at_ L a c xa xc E w1) (hg : W0.heap.size ≤ g) (hb : Below W0.heap.size W0 w) (hcut : s.cut = false) (h8 : s.ex.length ≠ 8) (hl : s.l.length < hsz s.next s.l) :
    Calls Try.prog 44 #[.pointer (some ⟨g, 0, none⟩)] w1 fun e w' => e = .returned (.tuple #[.int .i64 (werr s), .bool (oneOver s)]) ∧ OneTo W0 w g s at_ L a c E w' := by
  have hw : werr s = 4 := by unfold werr; rw [if_neg h8, if_pos hl]
  have ho : oneOver s = true := by unfold oneOver; rw [hw, if_neg (by decide)]
  rw [hw, ho]
  have c3 := R.tw.c3
  have h8n : s.ex.length ≤ 7 := by have := R.few; omega
  have h8' : ¬ (8 : Int) ≤ (s.ex.length : Int) := by omega
  have hbw : Below W0.heap.size W0 w1 := hb.trans (R.below.mono hg)
  have HZC : Hid _ := rsize6_any g s at_ a c L _ _ E w1 R.tw (R.row.below hbw) R.lis R.atl
  have HB : Hid (∀ n, OneTo W0 w g s at_ L a c E (w1.drewN n)) := fun n => ⟨below_drewN R.below n, fun h => absurd h (by rw [hw]; decide)⟩
  rw [if_pos hl] at HZC
  clear R hw ho h8 hl hbw
  go_enter Try.func44, Try.ntmps44
  go_wp2_with fail
  refine Calls.mono HZC.out ?_
  rintro e w' ⟨rfl, n, rfl⟩
  go_wp2
  exact bodyPost_ret (v := .tuple #[.int .i64 4, .bool true]) (by simp [results, Try.results44, go_sem]) rfl ⟨rfl, HB.out n⟩
end Go.Proofs.Ytmnkdogdligckaa
