/- Texts joined: Arg8 -/
import Derived.Test.YtnggdjjmijocfaaFgn11
namespace Go.Proofs.Ytnggdjjmijocfaa
open Go.RowKit Go.ChangeShapes Go.WideShapes Go.ChangeAt
set_option linter.unusedVariables false
set_option linter.unusedSimpArgs false
theorem lst15 {cs : List Value} (h : cs.length = 15) : ∃ v0 v1 v2 v3 v4 v5 v6 v7 v8 v9 v10 v11 v12 v13 v14, cs = [v0, v1, v2, v3, v4, v5, v6, v7, v8, v9, v10, v11, v12, v13, v14] := by
  match cs, h with
  | [v0, v1, v2, v3, v4, v5, v6, v7, v8, v9, v10, v11, v12, v13, v14], _ => exact ⟨v0, v1, v2, v3, v4, v5, v6, v7, v8, v9, v10, v11, v12, v13, v14, rfl⟩
theorem arr17 {cs : Array Value} (h : cs.size = 17) : ∃ a b l, cs = (a :: b :: l).toArray ∧ l.length = 15 := by
  obtain ⟨l⟩ := cs
  match l, h with
  | a :: b :: l, h => exact ⟨a, b, l, rfl, by simpa using h⟩
theorem u8_cells {H : Type} {enc : TypeId × Value → H} {W : World} {fuel : Nat} {cs : List Value} {y : DataW H × List MemPlace} (hf : DataW.trod enc Try.prog W 0 (fun _ => true) true fuel 40 cs = some y) :
    ∃ (a : Option Addr) (n cap : Nat), cs = [.slice a n cap] := by
  rcases open_ints Try.underlying40 Try.underlying5 (by kernel_rfl) hf with ⟨hcs, _⟩ | ⟨x, l, c, zs, hcs, _⟩
  · exact ⟨none, 0, 0, hcs⟩
  · exact ⟨some x, l, c, hcs⟩
theorem ip_shape {H : Type} {enc : TypeId × Value → H} {W : World} {fuel : Nat} {cs : List Value} {y : DataW H × List MemPlace} (hf0 : DataW.trod enc Try.prog W 0 (fun _ => true) true fuel 42 cs = some y) :
    ∃ (f sf sh sl df dh dl pr ho : Int) (fg : Bool) (id of : Int) (mo : Bool) (xa : Option Addr) (xn xc : Nat) (da : Option Addr) (dn dc : Nat), cs = [.int .i64 f, .int .i64 sf, .int .u64 sh, .int .u64 sl, .int .i64 df, .int .u64 dh, .int .u64 dl, .int .i64 pr, .int .i64 ho, .bool fg, .int .u32 id, .int .i64 of, .bool mo, .slice xa xn xc, .slice da dn dc] := by
  have c29 : Try.prog.cellsOf 42 = 15 := by kernel_rfl
  have cA : Try.prog.cellsOf 37 = 3 := by kernel_rfl
  have cI : Try.prog.cellsOf 3 = 1 := by kernel_rfl
  have cB : Try.prog.cellsOf 4 = 1 := by kernel_rfl
  have cU : Try.prog.cellsOf 38 = 1 := by kernel_rfl
  have cX : Try.prog.cellsOf 39 = 1 := by kernel_rfl
  have cY : Try.prog.cellsOf 40 = 1 := by kernel_rfl
  obtain ⟨xs, n, _, hx, hl, hlen, hf⟩ := DataW.trod_struct Try.underlying42 hf0
  obtain ⟨v0, v1, v2, v3, v4, v5, v6, v7, v8, v9, v10, v11, v12, v13, v14, rfl⟩ := lst15 (hl.trans c29)
  obtain ⟨y0, y1, y2, y3, y4, y5, y6, y7, y8, y9, y10, rfl⟩ : ∃ y0 y1 y2 y3 y4 y5 y6 y7 y8 y9 y10, xs = [y0, y1, y2, y3, y4, y5, y6, y7, y8, y9, y10] := by
    match xs, hlen with
    | [y0, y1, y2, y3, y4, y5, y6, y7, y8, y9, y10], _ => exact ⟨y0, y1, y2, y3, y4, y5, y6, y7, y8, y9, y10, rfl⟩
  have h0 : DataW.trod enc Try.prog W 0 (fun _ => true) true n 3 ((([v0, v1, v2, v3, v4, v5, v6, v7, v8, v9, v10, v11, v12, v13, v14] : List Value).drop 0).take (Try.prog.cellsOf 3)) = some y0 := hf 0 _ rfl
  have h1 : DataW.trod enc Try.prog W 0 (fun _ => true) true n 37 ((([v0, v1, v2, v3, v4, v5, v6, v7, v8, v9, v10, v11, v12, v13, v14] : List Value).drop 1).take (Try.prog.cellsOf 37)) = some y1 := hf 1 _ rfl
  have h2 : DataW.trod enc Try.prog W 0 (fun _ => true) true n 37 ((([v0, v1, v2, v3, v4, v5, v6, v7, v8, v9, v10, v11, v12, v13, v14] : List Value).drop 4).take (Try.prog.cellsOf 37)) = some y2 := hf 2 _ rfl
  have h3 : DataW.trod enc Try.prog W 0 (fun _ => true) true n 3 ((([v0, v1, v2, v3, v4, v5, v6, v7, v8, v9, v10, v11, v12, v13, v14] : List Value).drop 7).take (Try.prog.cellsOf 3)) = some y3 := hf 3 _ rfl
  have h4 : DataW.trod enc Try.prog W 0 (fun _ => true) true n 3 ((([v0, v1, v2, v3, v4, v5, v6, v7, v8, v9, v10, v11, v12, v13, v14] : List Value).drop 8).take (Try.prog.cellsOf 3)) = some y4 := hf 4 _ rfl
  have h5 : DataW.trod enc Try.prog W 0 (fun _ => true) true n 4 ((([v0, v1, v2, v3, v4, v5, v6, v7, v8, v9, v10, v11, v12, v13, v14] : List Value).drop 9).take (Try.prog.cellsOf 4)) = some y5 := hf 5 _ rfl
  have h6 : DataW.trod enc Try.prog W 0 (fun _ => true) true n 38 ((([v0, v1, v2, v3, v4, v5, v6, v7, v8, v9, v10, v11, v12, v13, v14] : List Value).drop 10).take (Try.prog.cellsOf 38)) = some y6 := hf 6 _ rfl
  have h7 : DataW.trod enc Try.prog W 0 (fun _ => true) true n 3 ((([v0, v1, v2, v3, v4, v5, v6, v7, v8, v9, v10, v11, v12, v13, v14] : List Value).drop 11).take (Try.prog.cellsOf 3)) = some y7 := hf 7 _ rfl
  have h8 : DataW.trod enc Try.prog W 0 (fun _ => true) true n 4 ((([v0, v1, v2, v3, v4, v5, v6, v7, v8, v9, v10, v11, v12, v13, v14] : List Value).drop 12).take (Try.prog.cellsOf 4)) = some y8 := hf 8 _ rfl
  have h9 : DataW.trod enc Try.prog W 0 (fun _ => true) true n 39 ((([v0, v1, v2, v3, v4, v5, v6, v7, v8, v9, v10, v11, v12, v13, v14] : List Value).drop 13).take (Try.prog.cellsOf 39)) = some y9 := hf 9 _ rfl
  have h10 : DataW.trod enc Try.prog W 0 (fun _ => true) true n 40 ((([v0, v1, v2, v3, v4, v5, v6, v7, v8, v9, v10, v11, v12, v13, v14] : List Value).drop 14).take (Try.prog.cellsOf 40)) = some y10 := hf 10 _ rfl
  simp only [cA, cI, cB, cU, cX, cY, List.drop_zero, List.drop_succ_cons, List.take_succ_cons, List.take_zero] at h0 h1 h2 h3 h4 h5 h6 h7 h8 h9 h10
  obtain ⟨f, e0, _, w0⟩ := DataW.trod_int Try.underlying3 h0
  obtain ⟨sf, sh, sl, e1, ok1⟩ := adr_cells h1
  obtain ⟨df, dh, dl, e2, ok2⟩ := adr_cells h2
  obtain ⟨pr, e3, _, w3⟩ := DataW.trod_int Try.underlying3 h3
  obtain ⟨ho, e4, _, w4⟩ := DataW.trod_int Try.underlying3 h4
  obtain ⟨fg, e5, _⟩ := DataW.trod_bool Try.underlying4 h5
  obtain ⟨id, e6, _, w6⟩ := DataW.trod_int Try.underlying38 h6
  obtain ⟨of, e7, _, w7⟩ := DataW.trod_int Try.underlying3 h7
  obtain ⟨mo, e8, _⟩ := DataW.trod_bool Try.underlying4 h8
  obtain ⟨xa, xn, xc, e9⟩ := ints_cells h9
  obtain ⟨da, dn, dc, e10⟩ := u8_cells h10
  simp only [List.cons.injEq, and_true] at e1
  simp only [List.cons.injEq, and_true] at e2
  obtain ⟨rfl, rfl, rfl⟩ := e1
  obtain ⟨rfl, rfl, rfl⟩ := e2
  have one : ∀ {x y : Value}, [x] = [y] → x = y := fun h => (List.cons.inj h).1
  obtain rfl := one e0
  obtain rfl := one e3
  obtain rfl := one e4
  obtain rfl := one e5
  obtain rfl := one e6
  obtain rfl := one e7
  obtain rfl := one e8
  obtain rfl := one e9
  obtain rfl := one e10
  exact ⟨f, sf, sh, sl, df, dh, dl, pr, ho, fg, id, of, mo, xa, xn, xc, da, dn, dc, rfl⟩
set_option maxRecDepth 100000 in
theorem open_act6 {H : Type} {enc : TypeId × Value → H} {W : World} {base : Nat} {v : Value} {d : DataW H} {p : List MemPlace}
    (hv : Value.okWide Try.prog W .any base 44 v) (h : DataW.Trod enc Try.prog W 0 (fun _ => true) true 44 v d p) :
    ∃ (tk : Bool) (nw : Int) (f sf sh sl df dh dl pr ho : Int) (fg : Bool) (id of : Int) (mo : Bool) (xa : Option Addr) (xn xc : Nat) (da : Option Addr) (dn dc : Nat), v = .agg #[.bool tk, .int .i64 nw, .int .i64 f, .int .i64 sf, .int .u64 sh, .int .u64 sl, .int .i64 df, .int .u64 dh, .int .u64 dl, .int .i64 pr, .int .i64 ho, .bool fg, .int .u32 id, .int .i64 of, .bool mo, .slice xa xn xc, .slice da dn dc] := by
  have cc : Try.prog.cellsOf 44 = 17 := by kernel_rfl
  have c29 : Try.prog.cellsOf 42 = 15 := by kernel_rfl
  have cI : Try.prog.cellsOf 3 = 1 := by kernel_rfl
  have cB : Try.prog.cellsOf 4 = 1 := by kernel_rfl
  obtain ⟨cs, rfl, hs⟩ := okWide_struct Try.underlying44 hv
  obtain ⟨a, b, l, rfl, hl⟩ := arr17 (hs.trans cc)
  obtain ⟨fuel, hf0⟩ := h
  obtain ⟨y0, y1, y2, k, _, _, h0, h1, h2⟩ := Go.Deep.trod_struct3 Try.underlying44 hf0
  have h0 : DataW.trod enc Try.prog W 0 (fun _ => true) true k 4 (((a :: b :: l).drop 0).take (Try.prog.cellsOf 4)) = some y0 := h0
  have h1 : DataW.trod enc Try.prog W 0 (fun _ => true) true k 3 (((a :: b :: l).drop 1).take (Try.prog.cellsOf 3)) = some y1 := h1
  have h2 : DataW.trod enc Try.prog W 0 (fun _ => true) true k 42 (((a :: b :: l).drop 2).take (Try.prog.cellsOf 42)) = some y2 := h2
  simp only [cI, cB, List.drop_zero, List.drop_succ_cons, List.take_succ_cons, List.take_zero] at h0 h1
  rw [c29, List.drop_succ_cons, List.drop_succ_cons, List.drop_zero, List.take_of_length_le (by omega)] at h2
  obtain ⟨tk, e0, _⟩ := DataW.trod_bool Try.underlying4 h0
  obtain ⟨nw, e1, _, _⟩ := DataW.trod_int Try.underlying3 h1
  obtain ⟨f, sf, sh, sl, df, dh, dl, pr, ho, fg, id, of, mo, xa, xn, xc, da, dn, dc, rfl⟩ := ip_shape h2
  have one : ∀ {x y : Value}, [x] = [y] → x = y := fun h => (List.cons.inj h).1
  obtain rfl := one e0
  obtain rfl := one e1
  exact ⟨tk, nw, f, sf, sh, sl, df, dh, dl, pr, ho, fg, id, of, mo, xa, xn, xc, da, dn, dc, rfl⟩
end Go.Proofs.Ytnggdjjmijocfaa
