/- Texts joined: Arg6 -/
import Derived.Test.YtmnkdogdligckaaIp6zb14
namespace Go.Proofs.Ytmnkdogdligckaa
open Go.ChangeShapes Go.WideShapes Go.ChangeAt Go.RowKit
set_option linter.unusedVariables false
set_option linter.unusedSimpArgs false
set_option linter.constructorNameAsVariable false
set_option maxRecDepth 100000
theorem rowI_of_ints {w : World} {x : Addr} {len : Nat} {zs : List Int} (hr : zs.length ≤ 17592186044416)
    (hc : ∀ i, i < zs.length → w.cell? (x.add i) = some (.int .i64 (zs.getD i 0))) : RowI w (some x) (zs.take len) := by
  have hle : (zs.take len).length ≤ zs.length := List.length_take_le' _ _
  refine ⟨by omega, fun hp => ?_⟩
  obtain ⟨b, off, rfl, hc'⟩ := ints_at hc (by omega)
  refine ⟨b, off, rfl, fun i hi => ?_⟩
  rw [hc' i (by omega)]
  have : i < len := by simp at hi; omega
  simp [this]
theorem ints_cells6 {H : Type} {enc : TypeId × Value → H} {W : World} {fuel : Nat} {cs : List Value} {y : DataW H × List MemPlace} (hf : DataW.trod enc Try.prog W 0 (fun _ => true) true fuel 23 cs = some y)
    (hsz : ∀ n ∈ y.1.weights Try.prog 23, n ≤ reachBytes) :
    ∃ (a : Option Addr) (cap : Nat) (l : List Int), cs = [.slice a l.length cap] ∧ l.length ≤ cap ∧ (a = none → cap = 0) ∧ RowI W a l := by
  have hbe : Try.prog.bytesOf 3 = 8 := by kernel_rfl
  rcases open_ints Try.underlying23 Try.underlying3 (by kernel_rfl) hf with ⟨hcs, _⟩ | ⟨x, l, c, zs, hcs, _, hl, hm, hz, hx, hcell, hwz⟩
  · exact ⟨none, 0, [], hcs, Nat.le_refl _, fun _ => rfl, ⟨by simp, fun h => by simp at h⟩⟩
  · simp only [if_true] at hz
    subst hx
    have hn := hsz (((lits .i64 (zs.take l)).length + (lits (H := H) .i64 (zs.drop l)).length) * 8) (by simp only [DataW.weights, Try.underlying23, hbe]; exact List.mem_cons_self ..)
    simp only [lits, List.length_map, List.length_take, List.length_drop, reachBytes] at hn
    have e1 : l = (zs.take l).length := by simp; omega
    exact ⟨some x, c, zs.take l, by rw [← e1]; exact hcs, by omega, fun h => (by cases h), rowI_of_ints (by omega) hcell⟩
theorem open_ip6 {H : Type} {enc : TypeId × Value → H} {W : World} {base : Nat} {v : Value} {d : DataW H} {p : List MemPlace}
    (hv : Value.okWide Try.prog W .any base 38 v) (h : DataW.Trod enc Try.prog W 0 (fun _ => true) true 38 v d p) (hsz : ∀ n ∈ d.weights Try.prog 38, n ≤ reachBytes) :
    ∃ (q : Pk) (xa : Option Addr) (xc : Nat) (X : List Int) (da : Option Addr) (dc : Nat), v = q.v (.slice xa X.length xc) (.slice da q.data.length dc) ∧ X.length ≤ xc ∧ (xa = none → xc = 0) ∧ RowI W xa X ∧ q.ok ∧ q.data.length ≤ dc ∧ dc ≤ 140737488351232 ∧ (da = none → dc = 0) ∧ Row W da q.data := by
  have c29 : Try.prog.cellsOf 38 = 15 := by kernel_rfl
  have cA : Try.prog.cellsOf 35 = 3 := by kernel_rfl
  have cI : Try.prog.cellsOf 3 = 1 := by kernel_rfl
  have cB : Try.prog.cellsOf 4 = 1 := by kernel_rfl
  have cU : Try.prog.cellsOf 36 = 1 := by kernel_rfl
  have cX : Try.prog.cellsOf 23 = 1 := by kernel_rfl
  have cY : Try.prog.cellsOf 22 = 1 := by kernel_rfl
  obtain ⟨cs, rfl, hs⟩ := okWide_struct Try.underlying38 hv
  obtain ⟨v0, v1, v2, v3, v4, v5, v6, v7, v8, v9, v10, v11, v12, v13, v14, rfl⟩ := arr15 (hs.trans c29)
  obtain ⟨fuel, hf0⟩ := h
  obtain ⟨xs, n, _, hx, hl, hlen, hf⟩ := DataW.trod_struct Try.underlying38 hf0
  obtain ⟨y0, y1, y2, y3, y4, y5, y6, y7, y8, y9, y10, rfl⟩ : ∃ y0 y1 y2 y3 y4 y5 y6 y7 y8 y9 y10, xs = [y0, y1, y2, y3, y4, y5, y6, y7, y8, y9, y10] := by
    match xs, hlen with
    | [y0, y1, y2, y3, y4, y5, y6, y7, y8, y9, y10], _ => exact ⟨y0, y1, y2, y3, y4, y5, y6, y7, y8, y9, y10, rfl⟩
  have h0 : DataW.trod enc Try.prog W 0 (fun _ => true) true n 3 ((([v0, v1, v2, v3, v4, v5, v6, v7, v8, v9, v10, v11, v12, v13, v14] : List Value).drop 0).take (Try.prog.cellsOf 3)) = some y0 := hf 0 _ rfl
  have h1 : DataW.trod enc Try.prog W 0 (fun _ => true) true n 35 ((([v0, v1, v2, v3, v4, v5, v6, v7, v8, v9, v10, v11, v12, v13, v14] : List Value).drop 1).take (Try.prog.cellsOf 35)) = some y1 := hf 1 _ rfl
  have h2 : DataW.trod enc Try.prog W 0 (fun _ => true) true n 35 ((([v0, v1, v2, v3, v4, v5, v6, v7, v8, v9, v10, v11, v12, v13, v14] : List Value).drop 4).take (Try.prog.cellsOf 35)) = some y2 := hf 2 _ rfl
  have h3 : DataW.trod enc Try.prog W 0 (fun _ => true) true n 3 ((([v0, v1, v2, v3, v4, v5, v6, v7, v8, v9, v10, v11, v12, v13, v14] : List Value).drop 7).take (Try.prog.cellsOf 3)) = some y3 := hf 3 _ rfl
  have h4 : DataW.trod enc Try.prog W 0 (fun _ => true) true n 3 ((([v0, v1, v2, v3, v4, v5, v6, v7, v8, v9, v10, v11, v12, v13, v14] : List Value).drop 8).take (Try.prog.cellsOf 3)) = some y4 := hf 4 _ rfl
  have h5 : DataW.trod enc Try.prog W 0 (fun _ => true) true n 4 ((([v0, v1, v2, v3, v4, v5, v6, v7, v8, v9, v10, v11, v12, v13, v14] : List Value).drop 9).take (Try.prog.cellsOf 4)) = some y5 := hf 5 _ rfl
  have h6 : DataW.trod enc Try.prog W 0 (fun _ => true) true n 36 ((([v0, v1, v2, v3, v4, v5, v6, v7, v8, v9, v10, v11, v12, v13, v14] : List Value).drop 10).take (Try.prog.cellsOf 36)) = some y6 := hf 6 _ rfl
  have h7 : DataW.trod enc Try.prog W 0 (fun _ => true) true n 3 ((([v0, v1, v2, v3, v4, v5, v6, v7, v8, v9, v10, v11, v12, v13, v14] : List Value).drop 11).take (Try.prog.cellsOf 3)) = some y7 := hf 7 _ rfl
  have h8 : DataW.trod enc Try.prog W 0 (fun _ => true) true n 4 ((([v0, v1, v2, v3, v4, v5, v6, v7, v8, v9, v10, v11, v12, v13, v14] : List Value).drop 12).take (Try.prog.cellsOf 4)) = some y8 := hf 8 _ rfl
  have h9 : DataW.trod enc Try.prog W 0 (fun _ => true) true n 23 ((([v0, v1, v2, v3, v4, v5, v6, v7, v8, v9, v10, v11, v12, v13, v14] : List Value).drop 13).take (Try.prog.cellsOf 23)) = some y9 := hf 9 _ rfl
  have h10 : DataW.trod enc Try.prog W 0 (fun _ => true) true n 22 ((([v0, v1, v2, v3, v4, v5, v6, v7, v8, v9, v10, v11, v12, v13, v14] : List Value).drop 14).take (Try.prog.cellsOf 22)) = some y10 := hf 10 _ rfl
  simp only [cA, cI, cB, cU, cX, cY, List.drop_zero, List.drop_succ_cons, List.take_succ_cons, List.take_zero] at h0 h1 h2 h3 h4 h5 h6 h7 h8 h9 h10
  obtain ⟨f, e0, _, w0⟩ := DataW.trod_int Try.underlying3 h0
  obtain ⟨sf, sh, sl, e1, ok1⟩ := adr_cells h1
  obtain ⟨df, dh, dl, e2, ok2⟩ := adr_cells h2
  obtain ⟨pr, e3, _, w3⟩ := DataW.trod_int Try.underlying3 h3
  obtain ⟨ho, e4, _, w4⟩ := DataW.trod_int Try.underlying3 h4
  obtain ⟨fg, e5, _⟩ := DataW.trod_bool Try.underlying4 h5
  obtain ⟨id, e6, _, w6⟩ := DataW.trod_int Try.underlying36 h6
  obtain ⟨of, e7, _, w7⟩ := DataW.trod_int Try.underlying3 h7
  obtain ⟨mo, e8, _⟩ := DataW.trod_bool Try.underlying4 h8
  have hd : d = .agg [y0.1, y1.1, y2.1, y3.1, y4.1, y5.1, y6.1, y7.1, y8.1, y9.1, y10.1] := by simpa using congrArg Prod.fst hx
  obtain ⟨xa, xc, X, e9, x1, x2, x3⟩ := ints_cells6 h9 (fun m hm => hsz m (by
    rw [hd]
    simp only [DataW.weights, Try.underlying38]
    exact DataW.weights_mem_each (j := 9) (t := 23) rfl rfl m hm))
  obtain ⟨da, dc, dat, e10, g1, g2, g3, g4⟩ := bytes_cells h10 (fun m hm => hsz m (by
    rw [hd]
    simp only [DataW.weights, Try.underlying38]
    exact DataW.weights_mem_each (j := 10) (t := 22) rfl rfl m hm))
  simp only [List.cons.injEq, and_true] at e1
  simp only [List.cons.injEq, and_true] at e2
  obtain ⟨rfl, rfl, rfl⟩ := e1
  obtain ⟨rfl, rfl, rfl⟩ := e2
  have one : ∀ {x y : Value}, [x] = [y] → x = y := fun h => (List.cons.inj h).1
  obtain rfl := one e0
  obtain rfl := one e3
  obtain rfl := one e4
  obtain rfl := one e5
  obtain rfl := one e6
  obtain rfl := one e7
  obtain rfl := one e8
  obtain rfl := one e9
  obtain rfl := one e10
  exact ⟨⟨f, ⟨sf, sh, sl⟩, ⟨df, dh, dl⟩, pr, ho, fg, id, of, mo, dat⟩, xa, xc, X, da, dc, rfl, x1, x2, x3, ⟨wf_i64 w0, ok1, ok2, wf_i64 w3, wf_i64 w4, wf_u32 w6, wf_i64 w7, g4.bytes, by show dat.length ≤ _; omega⟩, g1, g2, g3, g4⟩
end Go.Proofs.Ytmnkdogdligckaa
