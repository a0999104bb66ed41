/- Texts joined: Ip6Bm RByt Ip6Bq -/
import Derived.Test.YtmnkdogdligckaaIp6zb30
import Derived.Test.YtmnkdogdligckaaIp6zb31
import Derived.Deep.DeepCutAuto
import Derived.RegionTactic
import Derived.BigRegion
import Derived.Deep.RegionHeld3
namespace Go.Proofs.Ytmnkdogdligckaa
open Go.RowKit
set_option linter.unusedVariables false
set_option linter.unusedSimpArgs false
/-- May a packet be written? -/
def may6 (f sf df pr ho : Int) (fg : Bool) (X : List Int) (of : Int) (mo : Bool) (n : Nat) : Bool := rn f sf df pr ho && rx fg X && decide (n ≤ 65000) && (!fg || rp of mo n)
/-- The box of an address stands. -/
structure Boxed (w w' : World) (f h l : Int) : Prop where
  a0 : w'.cell? ⟨w.heap.size, 0, none⟩ = some (.int .i64 f)
  a1 : w'.cell? ⟨w.heap.size, 1, none⟩ = some (.int .u64 h)
  a2 : w'.cell? ⟨w.heap.size, 2, none⟩ = some (.int .u64 l)
  bel : Below w.heap.size w w'
  size : w.heap.size < w'.heap.size
theorem Boxed.below {w w' w'' : World} {f h l : Int} (x : Boxed w w' f h l) (hb : Below (w.heap.size + 1) w' w'') : Boxed w w'' f h l :=
  ⟨(hb.cell (p := ⟨w.heap.size, 0, none⟩) (by simp)).trans x.a0, (hb.cell (p := ⟨w.heap.size, 1, none⟩) (by simp)).trans x.a1, (hb.cell (p := ⟨w.heap.size, 2, none⟩) (by simp)).trans x.a2,
   x.bel.trans (hb.mono (by omega)), by have := x.size; have := hb.size; omega⟩
/-- The bytes that are written, or none. -/
def build6 (f : Int) (s d : Ad) (pr ho : Int) (fg : Bool) (id of : Int) (mo : Bool) (X dat : List Int) : List Int :=
  if may6 f s.fam d.fam pr ho fg X of mo dat.length = true then made6 (if fg = true then 44 else pr) ho s.bytes d.bytes (if fg = true then fh pr of mo id else []) dat else []
theorem build6_any (f sf sh sl df dh dl pr ho : Int) (fg : Bool) (id of : Int) (mo : Bool) (xa : Option Addr) (xc : Nat) (X : List Int) (da : Option Addr) (dat : List Int) (dc : Nat) (w : World) (hx : RowI w xa X) (hdr : Row w da dat) (hdn : da = none → dc = 0) (hsrc : Ad.ok ⟨sf, sh, sl⟩) (hdst : Ad.ok ⟨df, dh, dl⟩) (hid : 0 ≤ id ∧ id ≤ 4294967295) (hof : -9223372036854775808 ≤ of ∧ of ≤ 9223372036854775807) :
    Calls Try.prog 18 #[.agg #[.int .i64 f, .int .i64 sf, .int .u64 sh, .int .u64 sl, .int .i64 df, .int .u64 dh, .int .u64 dl, .int .i64 pr, .int .i64 ho, .bool fg, .int .u32 id, .int .i64 of, .bool mo, .slice xa X.length xc, .slice da dat.length dc]] w fun e w' => ∃ a' c', e = .returned (.tuple #[.slice a' (build6 f ⟨sf, sh, sl⟩ ⟨df, dh, dl⟩ pr ho fg id of mo X dat).length c', .int .i64 (if may6 f sf df pr ho fg X of mo dat.length = true then 0 else 1)]) ∧ Fresh w w' a' c' (build6 f ⟨sf, sh, sl⟩ ⟨df, dh, dl⟩ pr ho fg id of mo X dat) := by
  cases hm : may6 f sf df pr ho fg X of mo dat.length with
  | false =>
    have e : build6 f ⟨sf, sh, sl⟩ ⟨df, dh, dl⟩ pr ho fg id of mo X dat = [] := by unfold build6; rw [hm]; rfl
    rw [e]
    cases hn : (rn f sf df pr ho && rx fg X && decide (dat.length ≤ 65000)) with
    | false => exact Calls.mono (build6_na f sf sh sl df dh dl pr ho fg id of mo xa xc X da dat dc w hx hdr hdn hsrc hdst hid hof hn) (by rintro e w' ⟨rfl, hb⟩; exact ⟨none, 0, rfl, fresh_nil hb⟩)
    | true =>
      unfold may6 at hm
      rw [hn] at hm
      cases fg with
      | false => simp at hm
      | true => exact Calls.mono (build6_nb f sf sh sl df dh dl pr ho id of mo xa xc X da dat dc w hx hdr hdn hsrc hdst hid hof hn (by simpa using hm)) (by rintro e w' ⟨rfl, hb⟩; exact ⟨none, 0, rfl, fresh_nil hb⟩)
  | true =>
    cases fg with
    | false =>
      have e : build6 f ⟨sf, sh, sl⟩ ⟨df, dh, dl⟩ pr ho false id of mo X dat = made6 pr ho (Ad.bytes ⟨sf, sh, sl⟩) (Ad.bytes ⟨df, dh, dl⟩) [] dat := by unfold build6; rw [hm]; rfl
      rw [e]
      exact build6_yf f sf sh sl df dh dl pr ho id of mo xa xc X da dat dc w hx hdr hdn hsrc hdst hid hof (by unfold may6 at hm; simp only [Bool.and_eq_true] at hm ⊢; exact hm.1)
    | true =>
      have e : build6 f ⟨sf, sh, sl⟩ ⟨df, dh, dl⟩ pr ho true id of mo X dat = made6 44 ho (Ad.bytes ⟨sf, sh, sl⟩) (Ad.bytes ⟨df, dh, dl⟩) (fh pr of mo id) dat := by unfold build6; rw [hm]; rfl
      rw [e]
      exact build6_yt f sf sh sl df dh dl pr ho id of mo xa xc X da dat dc w hx hdr hdn hsrc hdst hid hof (by unfold may6 at hm; simp only [Bool.and_eq_true] at hm ⊢; exact hm.1) (by unfold may6 at hm; simp only [Bool.and_eq_true] at hm; simpa using hm.2)
end Go.Proofs.Ytmnkdogdligckaa
