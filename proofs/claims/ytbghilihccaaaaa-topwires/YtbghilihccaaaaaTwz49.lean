/- Texts joined: Ip6Bm RByt Ip6Bq Ip6Bv -/
import Derived.Test.YtbghilihccaaaaaTwz47
import Derived.Test.YtbghilihccaaaaaTwz48
import Derived.Deep.DeepCutAuto
import Derived.RegionTactic
import Derived.BigRegion
import Derived.Deep.RegionHeld3
namespace Go.Proofs.Ytbghilihccaaaaa
open Go.RowKit
set_option linter.unusedVariables false
set_option linter.unusedSimpArgs false
/-- May a packet be written? -/
def may6 (f sf df pr ho : Int) (fg : Bool) (X : List Int) (of : Int) (mo : Bool) (n : Nat) : Bool := rn f sf df pr ho && rx fg X && decide (n ≤ 65000) && (!fg || rp of mo n)
/-- The box of an address stands. -/
structure Boxed (w w' : World) (f h l : Int) : Prop where
  a0 : w'.cell? ⟨w.heap.size, 0, none⟩ = some (.int .i64 f)
  a1 : w'.cell? ⟨w.heap.size, 1, none⟩ = some (.int .u64 h)
  a2 : w'.cell? ⟨w.heap.size, 2, none⟩ = some (.int .u64 l)
  bel : Below w.heap.size w w'
  size : w.heap.size < w'.heap.size
theorem Boxed.below {w w' w'' : World} {f h l : Int} (x : Boxed w w' f h l) (hb : Below (w.heap.size + 1) w' w'') : Boxed w w'' f h l :=
  ⟨(hb.cell (p := ⟨w.heap.size, 0, none⟩) (by simp)).trans x.a0, (hb.cell (p := ⟨w.heap.size, 1, none⟩) (by simp)).trans x.a1, (hb.cell (p := ⟨w.heap.size, 2, none⟩) (by simp)).trans x.a2,
   x.bel.trans (hb.mono (by omega)), by have := x.size; have := hb.size; omega⟩
/-- The bytes that are written, or none. -/
def build6 (f : Int) (s d : Ad) (pr ho : Int) (fg : Bool) (id of : Int) (mo : Bool) (X dat : List Int) : List Int :=
  if may6 f s.fam d.fam pr ho fg X of mo dat.length = true then made6 (if fg = true then 44 else pr) ho s.bytes d.bytes (if fg = true then fh pr of mo id else []) dat else []
theorem build6_any (f sf sh sl df dh dl pr ho : Int) (fg : Bool) (id of : Int) (mo : Bool) (xa : Option Addr) (xc : Nat) (X : List Int) (da : Option Addr) (dat : List Int) (dc : Nat) (w : World) (hx : RowI w xa X) (hdr : Row w da dat) (hdn : da = none → dc = 0) (hsrc : Ad.ok ⟨sf, sh, sl⟩) (hdst : Ad.ok ⟨df, dh, dl⟩) (hid : 0 ≤ id ∧ id ≤ 4294967295) (hof : -9223372036854775808 ≤ of ∧ of ≤ 9223372036854775807) :
    Calls Try.prog 41 #[.agg #[.int .i64 f, .int .i64 sf, .int .u64 sh, .int .u64 sl, .int .i64 df, .int .u64 dh, .int .u64 dl, .int .i64 pr, .int .i64 ho, .bool fg, .int .u32 id, .int .i64 of, .bool mo, .slice xa X.length xc, .slice da dat.length dc]] w fun e w' => ∃ a' c', e = .returned (.tuple #[.slice a' (build6 f ⟨sf, sh, sl⟩ ⟨df, dh, dl⟩ pr ho fg id of mo X dat).length c', .int .i64 (if may6 f sf df pr ho fg X of mo dat.length = true then 0 else 1)]) ∧ Fresh w w' a' c' (build6 f ⟨sf, sh, sl⟩ ⟨df, dh, dl⟩ pr ho fg id of mo X dat) := by
  cases hm : may6 f sf df pr ho fg X of mo dat.length with
  | false =>
    have e : build6 f ⟨sf, sh, sl⟩ ⟨df, dh, dl⟩ pr ho fg id of mo X dat = [] := by unfold build6; rw [hm]; rfl
    rw [e]
    cases hn : (rn f sf df pr ho && rx fg X && decide (dat.length ≤ 65000)) with
    | false => exact Calls.mono (build6_na f sf sh sl df dh dl pr ho fg id of mo xa xc X da dat dc w hx hdr hdn hsrc hdst hid hof hn) (by rintro e w' ⟨rfl, hb⟩; exact ⟨none, 0, rfl, fresh_nil hb⟩)
    | true =>
      unfold may6 at hm
      rw [hn] at hm
      cases fg with
      | false => simp at hm
      | true => exact Calls.mono (build6_nb f sf sh sl df dh dl pr ho id of mo xa xc X da dat dc w hx hdr hdn hsrc hdst hid hof hn (by simpa using hm)) (by rintro e w' ⟨rfl, hb⟩; exact ⟨none, 0, rfl, fresh_nil hb⟩)
  | true =>
    cases fg with
    | false =>
      have e : build6 f ⟨sf, sh, sl⟩ ⟨df, dh, dl⟩ pr ho false id of mo X dat = made6 pr ho (Ad.bytes ⟨sf, sh, sl⟩) (Ad.bytes ⟨df, dh, dl⟩) [] dat := by unfold build6; rw [hm]; rfl
      rw [e]
      exact build6_yf f sf sh sl df dh dl pr ho id of mo xa xc X da dat dc w hx hdr hdn hsrc hdst hid hof (by unfold may6 at hm; simp only [Bool.and_eq_true] at hm ⊢; exact hm.1)
    | true =>
      have e : build6 f ⟨sf, sh, sl⟩ ⟨df, dh, dl⟩ pr ho true id of mo X dat = made6 44 ho (Ad.bytes ⟨sf, sh, sl⟩) (Ad.bytes ⟨df, dh, dl⟩) (fh pr of mo id) dat := by unfold build6; rw [hm]; rfl
      rw [e]
      exact build6_yt f sf sh sl df dh dl pr ho id of mo xa xc X da dat dc w hx hdr hdn hsrc hdst hid hof (by unfold may6 at hm; simp only [Bool.and_eq_true] at hm ⊢; exact hm.1) (by unfold may6 at hm; simp only [Bool.and_eq_true] at hm; simpa using hm.2)
theorem made6_eq (nx ho : Int) (SB DB E dat : List Int) : made6 nx ho SB DB E dat = [96, 0, 0, 0, ((E.length : Int) + dat.length) / 256 % 256, ((E.length : Int) + dat.length) % 256, nx, ho] ++ (SB ++ (DB ++ (E ++ dat))) := by
  unfold made6 put16
  simp
theorem made6_len {nx ho : Int} {SB DB E dat : List Int} (h1 : SB.length = 16) (h2 : DB.length = 16) : (made6 nx ho SB DB E dat).length = 40 + (E.length + dat.length) := by
  rw [made6_eq]
  simp only [List.length_append, List.length_cons, List.length_nil, h1, h2]
  omega
theorem made6_get {nx ho : Int} {SB DB E dat : List Int} : (made6 nx ho SB DB E dat).getD 0 0 = 96 ∧ (made6 nx ho SB DB E dat).getD 6 0 = nx ∧ (made6 nx ho SB DB E dat).getD 7 0 = ho := by
  rw [made6_eq]
  exact ⟨rfl, rfl, rfl⟩
theorem made6_u16 {nx ho : Int} {SB DB E dat : List Int} (h : E.length + dat.length ≤ 65535) : u16 (made6 nx ho SB DB E dat) 4 = (E.length : Int) + dat.length := by
  rw [made6_eq]
  show 256 * (((E.length : Int) + dat.length) / 256 % 256) + ((E.length : Int) + dat.length) % 256 = _
  omega
theorem made6_src {nx ho : Int} {SB DB E dat : List Int} (h1 : SB.length = 16) : part (made6 nx ho SB DB E dat) 8 16 = SB := by
  rw [made6_eq]
  unfold part
  show ((SB ++ (DB ++ (E ++ dat))).take 16) = SB
  rw [← h1, List.take_left']
  rfl
theorem made6_dst {nx ho : Int} {SB DB E dat : List Int} (h1 : SB.length = 16) (h2 : DB.length = 16) : part (made6 nx ho SB DB E dat) 24 16 = DB := by
  rw [made6_eq]
  unfold part
  show (((SB ++ (DB ++ (E ++ dat))).drop 16).take 16) = DB
  rw [List.drop_left' h1, List.take_left' h2]
theorem made6_rest {nx ho : Int} {SB DB E dat : List Int} (h1 : SB.length = 16) (h2 : DB.length = 16) : ((made6 nx ho SB DB E dat).drop 40).take ((E.length : Int) + dat.length).toNat = E ++ dat := by
  have e : (made6 nx ho SB DB E dat).drop 40 = E ++ dat := by
    rw [made6_eq]
    show ((SB ++ (DB ++ (E ++ dat))).drop 32) = _
    rw [← List.append_assoc, List.drop_left' (by rw [List.length_append]; omega)]
  rw [e]
  have : ((E.length : Int) + dat.length).toNat = (E ++ dat).length := by rw [List.length_append]; omega
  rw [this, List.take_length]
theorem made6_T {nx ho : Int} {SB DB E dat : List Int} (h1 : SB.length = 16) (h2 : DB.length = 16) (h : E.length + dat.length ≤ 65535) : T6 (made6 nx ho SB DB E dat) = wend (st0 nx (E ++ dat) false) := by
  unfold T6
  rw [made6_get.2.1, made6_u16 h, made6_rest h1 h2]
theorem wend_cut {pr of id : Int} {mo : Bool} {dat : List Int} (h0 : 0 ≤ of) (h8 : of % 8 = 0) (h6 : of ≤ 65528) (hid : 0 ≤ id ∧ id ≤ 4294967295) (hc : mo = true ∨ 0 < of) :
    wend (st0 44 (fh pr of mo id ++ dat) false) = (0, ⟨pr, dat, [44], true, true, id, of, mo⟩) := by
  obtain ⟨P, hP⟩ : ∃ P, (of + if mo = true then 1 else 0 : Int) = P := ⟨_, rfl⟩
  have bP : 0 ≤ P ∧ P ≤ 65529 := by rw [← hP]; split <;> omega
  have e8 : P / 8 * 8 = of := by rw [← hP]; split <;> omega
  have e2 : (P % 2 = 1) ↔ mo = true := by
    rw [← hP]
    cases mo
    · simp; omega
    · simp; omega
  have ef : fh pr of mo id ++ dat = [pr, 0, P / 256 % 256, P % 256, id / 16777216, id / 65536 % 256, id / 256 % 256, id % 256] ++ dat := by
    unfold fh
    rw [hP]
    unfold put16 put32
    rfl
  rw [ef]
  have u2 : u16 ([pr, 0, P / 256 % 256, P % 256, id / 16777216, id / 65536 % 256, id / 256 % 256, id % 256] ++ dat) 2 = P := by
    show 256 * (P / 256 % 256) + P % 256 = P
    omega
  have u4 : u32 ([pr, 0, P / 256 % 256, P % 256, id / 16777216, id / 65536 % 256, id / 256 % 256, id % 256] ++ dat) 4 = id := by
    show 16777216 * (id / 16777216) + 65536 * (id / 65536 % 256) + 256 * (id / 256 % 256) + id % 256 = id
    omega
  obtain ⟨l, hl⟩ : ∃ l, [pr, 0, P / 256 % 256, P % 256, id / 16777216, id / 65536 % 256, id / 256 % 256, id % 256] ++ dat = l := ⟨_, rfl⟩
  have ll : ¬ l.length < 8 := by rw [← hl]; simp
  have l0 : l.getD 0 0 = pr := by rw [← hl]; rfl
  have ld : l.drop 8 = dat := by rw [← hl]; rfl
  rw [hl] at u2 u4 ⊢
  unfold wend
  show wgo (8 + 1) _ = _
  rw [wgo]
  have hov : over (st0 44 l false) = false := by unfold over st0 isExt; rfl
  have hz : hsz 44 l = 8 := by unfold hsz; rw [if_pos (Or.inl rfl)]
  have hwe : werr (st0 44 l false) = 0 := by
    unfold werr
    show (if (0 : Nat) = 8 then (17 : Int) else if l.length < hsz 44 l then 4 else lerr (st0 44 l false)) = 0
    rw [if_neg (by decide), hz, if_neg ll]
    unfold lerr st0
    rfl
  rw [hov, if_neg (by decide), hwe, if_neg (by decide)]
  have ha : after (st0 44 l false) = ⟨pr, dat, [44], true, true, id, of, mo⟩ := by
    unfold after stepd
    show ({ (took (st0 44 l false)) with next := (took (st0 44 l false)).l.getD 0 0, l := (took (st0 44 l false)).l.drop (hsz 44 l), ex := (took (st0 44 l false)).ex ++ [(took (st0 44 l false)).next] } : St) = _
    have ht : took (st0 44 l false) = ⟨44, l, [], true, true, id, of, mo⟩ := by
      unfold took
      rw [if_pos (show (st0 44 l false).next = 44 from rfl)]
      unfold frg
      show (⟨44, l, [], true, decide (u16 l 2 / 8 * 8 ≠ 0) || decide (u16 l 2 % 2 = 1), u32 l 4, u16 l 2 / 8 * 8, decide (u16 l 2 % 2 = 1)⟩ : St) = _
      rw [u2, u4, e8]
      have em : decide (P % 2 = 1) = mo := by
        cases mo
        · exact decide_eq_false (fun h => by have := e2.1 h; cases this)
        · exact decide_eq_true (e2.2 rfl)
      rw [em]
      have ec : (decide (of ≠ 0) || mo) = true := by
        rcases hc with h | h
        · rw [h]; simp
        · rw [decide_eq_true (show of ≠ 0 by omega)]; rfl
      rw [ec]
    rw [ht, hz]
    show (⟨l.getD 0 0, l.drop 8, [] ++ [44], true, true, id, of, mo⟩ : St) = _
    rw [l0, ld]
    rfl
  rw [ha]
  unfold wgo
  rw [if_pos (by unfold over; rfl)]
/-- .. a fragment. -/
theorem back6_t {f : Int} {s d : Ad} {pr ho id of : Int} {mo : Bool} {X dat : List Int} (hs : s.ok) (hd : d.ok) (hid : 0 ≤ id ∧ id ≤ 4294967295) (hm : may6 f s.fam d.fam pr ho true X of mo dat.length = true) (hw : ¬ (of = 0 ∧ whole pr dat = false)) :
    perr6 (build6 f s d pr ho true id of mo X dat) = 0 ∧ parsed6 (build6 f s d pr ho true id of mo X dat) = ⟨f, s, d, pr, ho, true, id, of, mo, dat⟩ ∧ exts6 (build6 f s d pr ho true id of mo X dat) = [44] := by
  have hm' := hm
  unfold may6 rn rp at hm'
  simp only [Bool.and_eq_true, decide_eq_true_eq, Bool.not_true, Bool.false_or, Bool.or_eq_true, Bool.not_eq_true'] at hm'
  obtain ⟨⟨⟨⟨h1, h2, h3, h4, h5, h6, h7⟩, _⟩, h8⟩, p1, p2, p3, p4, p5⟩ := hm'
  have rs : s.right = true := by unfold Ad.right; rw [h2]; rfl
  have rd : d.right = true := by unfold Ad.right; rw [h3]; rfl
  have ls : s.bytes.length = 16 := by unfold Ad.bytes; rw [if_pos rs, bytesGo_length, h2]; rfl
  have ld : d.bytes.length = 16 := by unfold Ad.bytes; rw [if_pos rd, bytesGo_length, h3]; rfl
  have lf : (fh pr of mo id).length = 8 := by simp [fh, put32, put16]
  have e : build6 f s d pr ho true id of mo X dat = made6 44 ho s.bytes d.bytes (fh pr of mo id) dat := by unfold build6; rw [hm]; rfl
  rw [e]
  have hl : (fh pr of mo id).length + dat.length ≤ 65535 := by omega
  have hT := made6_T (nx := 44) (ho := ho) (E := fh pr of mo id) (dat := dat) ls ld hl
  rw [wend_cut p1 p2 (by omega) hid p5] at hT
  have hg := @made6_get 44 ho s.bytes d.bytes (fh pr of mo id) dat
  have hwr : wrongp ⟨pr, dat, [44], true, true, id, of, mo⟩ = 0 := by
    unfold wrongp
    show (if mo = true ∧ dat.length % 8 ≠ 0 then (5 : Int) else if of + (dat.length : Int) > 65535 then 11 else if of = 0 ∧ whole pr dat = false then 4 else 0) = 0
    rw [if_neg (by
      rintro ⟨q1, q2⟩
      rcases p4 with q | q
      · rw [q] at q1; cases q1
      · omega), if_neg (by omega), if_neg hw]
  have hp : perr6 (made6 44 ho s.bytes d.bytes (fh pr of mo id) dat) = 0 := by
    unfold perr6
    rw [hT, made6_len ls ld, hg.1, hg.2.2, made6_u16 hl]
    rw [if_neg (by omega), if_neg (by decide), if_neg (by omega), if_neg (by omega), if_neg (fun h => h rfl), if_pos rfl, hwr]
  refine ⟨hp, ?_, ?_⟩
  · unfold parsed6 pk6
    rw [if_pos hp, hT, made6_src ls, made6_dst ls ld, from_bytes hs rs, from_bytes hd rd, hg.2.2, h1]
    rfl
  · unfold exts6
    rw [if_pos hp, hT]
end Go.Proofs.Ytbghilihccaaaaa
