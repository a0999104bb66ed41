/- How an argument that is a packet is read. -/
import Derived.Test.YtgdpcomcndidcaaIp4Q
import Derived.Test.YtgdpcomcndidcaaArgs
import Derived.ProofKit
import Derived.OpenShut
import Derived.Deep.Strs
import Derived.ChangeSame
import Derived.ChangeArms
namespace Go.Proofs.Ytgdpcomcndidcaa
open Go.ChangeShapes Go.WideShapes Go.ChangeAt Go.RowKit
set_option linter.unusedVariables false
set_option linter.unusedSimpArgs false
set_option linter.constructorNameAsVariable false
set_option maxRecDepth 100000

theorem wf_i64 {x : Int} (h : (Lit.int .i64 x).wf = true) : -9223372036854775808 ≤ x ∧ x ≤ 9223372036854775807 := by
  simpa [Lit.wf, IntKind.min, IntKind.max, IntKind.signed, IntKind.bits] using h
theorem wf_u64 {x : Int} (h : (Lit.int .u64 x).wf = true) : 0 ≤ x ∧ x ≤ 18446744073709551615 := by
  simpa [Lit.wf, IntKind.min, IntKind.max, IntKind.signed, IntKind.bits] using h
theorem wf_u32 {x : Int} (h : (Lit.int .u32 x).wf = true) : 0 ≤ x ∧ x ≤ 4294967295 := by
  simpa [Lit.wf, IntKind.min, IntKind.max, IntKind.signed, IntKind.bits] using h

theorem lst3 {cs : List Value} (h : cs.length = 3) : ∃ a b c, cs = [a, b, c] := by
  match cs, h with
  | [a, b, c], _ => exact ⟨a, b, c, rfl⟩
theorem adr_cells {H : Type} {enc : TypeId × Value → H} {W : World} {n : Nat} {cs : List Value} {y : DataW H × List MemPlace}
    (h : DataW.trod enc Try.prog W 0 (fun _ => true) true n 24 cs = some y) : ∃ f h l, cs = [.int .i64 f, .int .u64 h, .int .u64 l] ∧ Ad.ok ⟨f, h, l⟩ := by
  obtain ⟨y0, y1, y2, k, _, hl, h0, h1, h2⟩ := Go.Deep.trod_struct3 Try.underlying24 h
  have c24 : Try.prog.cellsOf 24 = 3 := by kernel_rfl
  have c3 : Try.prog.cellsOf 3 = 1 := by kernel_rfl
  have c22 : Try.prog.cellsOf 22 = 1 := by kernel_rfl
  rw [c24] at hl
  obtain ⟨v0, v1, v2, rfl⟩ := lst3 hl
  simp only [c3, c22] at h0 h1 h2
  obtain ⟨f, e0, _, w0⟩ := DataW.trod_int Try.underlying3 h0
  obtain ⟨h, e1, _, w1⟩ := DataW.trod_int Try.underlying22 h1
  obtain ⟨l, e2, _, w2⟩ := DataW.trod_int Try.underlying22 h2
  simp only [List.drop_zero, List.drop_succ_cons, List.take_succ_cons, List.take_zero, List.cons.injEq, and_true] at e0 e1 e2
  subst e0 e1 e2
  exact ⟨_, _, _, rfl, wf_i64 w0, wf_u64 w1, wf_u64 w2⟩

theorem bytes_cells {H : Type} {enc : TypeId × Value → H} {W : World} {fuel : Nat} {cs : List Value} {y : DataW H × List MemPlace} (hf : DataW.trod enc Try.prog W 0 (fun _ => true) true fuel 28 cs = some y)
    (hsz : ∀ n ∈ y.1.weights Try.prog 28, n ≤ reachBytes) :
    ∃ (a : Option Addr) (cap : Nat) (l : List Int), cs = [.slice a l.length cap] ∧ l.length ≤ cap ∧ cap ≤ 140737488351232 ∧ (a = none → cap = 0) ∧ Row W a l := by
  have hbe : Try.prog.bytesOf 5 = 1 := by kernel_rfl
  rcases open_ints Try.underlying28 Try.underlying5 (by kernel_rfl) hf with ⟨hcs, _⟩ | ⟨x, l, c, zs, hcs, _, hl, hm, hz, hx, hcell, hwz⟩
  · exact ⟨none, 0, [], hcs, Nat.le_refl _, by omega, fun _ => rfl, row_nil _ _⟩
  · simp only [if_true] at hz
    subst hx
    have hn := hsz ((lits .u8 (zs.take l)).length + (lits (H := H) .u8 (zs.drop l)).length) (by simp only [DataW.weights, Try.underlying28, hbe, Nat.mul_one]; exact List.mem_cons_self ..)
    simp only [lits, List.length_map, List.length_take, List.length_drop, reachBytes] at hn
    have e1 : l = (zs.take l).length := by simp; omega
    exact ⟨some x, c, zs.take l, by rw [← e1]; exact hcs, by omega, by omega, fun h => (by cases h), row_of_ints (by omega) hcell hwz⟩

theorem ints_cells {H : Type} {enc : TypeId × Value → H} {W : World} {fuel : Nat} {cs : List Value} {y : DataW H × List MemPlace} (hf : DataW.trod enc Try.prog W 0 (fun _ => true) true fuel 34 cs = some y) :
    ∃ (a : Option Addr) (n cap : Nat), cs = [.slice a n cap] := by
  rcases open_ints Try.underlying34 Try.underlying3 (by kernel_rfl) hf with ⟨hcs, _⟩ | ⟨x, l, c, zs, hcs, _⟩
  · exact ⟨none, 0, 0, hcs⟩
  · exact ⟨some x, l, c, hcs⟩

theorem arr15 {cs : Array Value} (h : cs.size = 15) : ∃ v0 v1 v2 v3 v4 v5 v6 v7 v8 v9 v10 v11 v12 v13 v14, cs = #[v0, v1, v2, v3, v4, v5, v6, v7, v8, v9, v10, v11, v12, v13, v14] := by
  obtain ⟨l⟩ := cs
  match l, h with
  | [v0, v1, v2, v3, v4, v5, v6, v7, v8, v9, v10, v11, v12, v13, v14], _ => exact ⟨v0, v1, v2, v3, v4, v5, v6, v7, v8, v9, v10, v11, v12, v13, v14, rfl⟩

theorem open_ip {H : Type} {enc : TypeId × Value → H} {W : World} {base : Nat} {v : Value} {d : DataW H} {p : List MemPlace}
    (hv : Value.okWide Try.prog W .any base 36 v) (h : DataW.Trod enc Try.prog W 0 (fun _ => true) true 36 v d p) (hsz : ∀ n ∈ d.weights Try.prog 36, n ≤ reachBytes) :
    ∃ (q : Pk) (xa : Option Addr) (xn xc : Nat) (da : Option Addr) (dc : Nat), v = q.v (.slice xa xn xc) (.slice da q.data.length dc) ∧ q.ok ∧ q.data.length ≤ dc ∧ dc ≤ 140737488351232 ∧ (da = none → dc = 0) ∧ Row W da q.data := by
  have c29 : Try.prog.cellsOf 36 = 15 := by kernel_rfl
  have cA : Try.prog.cellsOf 24 = 3 := by kernel_rfl
  have cI : Try.prog.cellsOf 3 = 1 := by kernel_rfl
  have cB : Try.prog.cellsOf 4 = 1 := by kernel_rfl
  have cU : Try.prog.cellsOf 33 = 1 := by kernel_rfl
  have cX : Try.prog.cellsOf 34 = 1 := by kernel_rfl
  have cY : Try.prog.cellsOf 28 = 1 := by kernel_rfl
  obtain ⟨cs, rfl, hs⟩ := okWide_struct Try.underlying36 hv
  obtain ⟨v0, v1, v2, v3, v4, v5, v6, v7, v8, v9, v10, v11, v12, v13, v14, rfl⟩ := arr15 (hs.trans c29)
  obtain ⟨fuel, hf0⟩ := h
  obtain ⟨xs, n, _, hx, hl, hlen, hf⟩ := DataW.trod_struct Try.underlying36 hf0
  obtain ⟨y0, y1, y2, y3, y4, y5, y6, y7, y8, y9, y10, rfl⟩ : ∃ y0 y1 y2 y3 y4 y5 y6 y7 y8 y9 y10, xs = [y0, y1, y2, y3, y4, y5, y6, y7, y8, y9, y10] := by
    match xs, hlen with
    | [y0, y1, y2, y3, y4, y5, y6, y7, y8, y9, y10], _ => exact ⟨y0, y1, y2, y3, y4, y5, y6, y7, y8, y9, y10, rfl⟩
  have h0 : DataW.trod enc Try.prog W 0 (fun _ => true) true n 3 ((([v0, v1, v2, v3, v4, v5, v6, v7, v8, v9, v10, v11, v12, v13, v14] : List Value).drop 0).take (Try.prog.cellsOf 3)) = some y0 := hf 0 _ rfl
  have h1 : DataW.trod enc Try.prog W 0 (fun _ => true) true n 24 ((([v0, v1, v2, v3, v4, v5, v6, v7, v8, v9, v10, v11, v12, v13, v14] : List Value).drop 1).take (Try.prog.cellsOf 24)) = some y1 := hf 1 _ rfl
  have h2 : DataW.trod enc Try.prog W 0 (fun _ => true) true n 24 ((([v0, v1, v2, v3, v4, v5, v6, v7, v8, v9, v10, v11, v12, v13, v14] : List Value).drop 4).take (Try.prog.cellsOf 24)) = some y2 := hf 2 _ rfl
  have h3 : DataW.trod enc Try.prog W 0 (fun _ => true) true n 3 ((([v0, v1, v2, v3, v4, v5, v6, v7, v8, v9, v10, v11, v12, v13, v14] : List Value).drop 7).take (Try.prog.cellsOf 3)) = some y3 := hf 3 _ rfl
  have h4 : DataW.trod enc Try.prog W 0 (fun _ => true) true n 3 ((([v0, v1, v2, v3, v4, v5, v6, v7, v8, v9, v10, v11, v12, v13, v14] : List Value).drop 8).take (Try.prog.cellsOf 3)) = some y4 := hf 4 _ rfl
  have h5 : DataW.trod enc Try.prog W 0 (fun _ => true) true n 4 ((([v0, v1, v2, v3, v4, v5, v6, v7, v8, v9, v10, v11, v12, v13, v14] : List Value).drop 9).take (Try.prog.cellsOf 4)) = some y5 := hf 5 _ rfl
  have h6 : DataW.trod enc Try.prog W 0 (fun _ => true) true n 33 ((([v0, v1, v2, v3, v4, v5, v6, v7, v8, v9, v10, v11, v12, v13, v14] : List Value).drop 10).take (Try.prog.cellsOf 33)) = some y6 := hf 6 _ rfl
  have h7 : DataW.trod enc Try.prog W 0 (fun _ => true) true n 3 ((([v0, v1, v2, v3, v4, v5, v6, v7, v8, v9, v10, v11, v12, v13, v14] : List Value).drop 11).take (Try.prog.cellsOf 3)) = some y7 := hf 7 _ rfl
  have h8 : DataW.trod enc Try.prog W 0 (fun _ => true) true n 4 ((([v0, v1, v2, v3, v4, v5, v6, v7, v8, v9, v10, v11, v12, v13, v14] : List Value).drop 12).take (Try.prog.cellsOf 4)) = some y8 := hf 8 _ rfl
  have h9 : DataW.trod enc Try.prog W 0 (fun _ => true) true n 34 ((([v0, v1, v2, v3, v4, v5, v6, v7, v8, v9, v10, v11, v12, v13, v14] : List Value).drop 13).take (Try.prog.cellsOf 34)) = some y9 := hf 9 _ rfl
  have h10 : DataW.trod enc Try.prog W 0 (fun _ => true) true n 28 ((([v0, v1, v2, v3, v4, v5, v6, v7, v8, v9, v10, v11, v12, v13, v14] : List Value).drop 14).take (Try.prog.cellsOf 28)) = some y10 := hf 10 _ rfl
  simp only [cA, cI, cB, cU, cX, cY, List.drop_zero, List.drop_succ_cons, List.take_succ_cons, List.take_zero] at h0 h1 h2 h3 h4 h5 h6 h7 h8 h9 h10
  obtain ⟨f, e0, _, w0⟩ := DataW.trod_int Try.underlying3 h0
  obtain ⟨sf, sh, sl, e1, ok1⟩ := adr_cells h1
  obtain ⟨df, dh, dl, e2, ok2⟩ := adr_cells h2
  obtain ⟨pr, e3, _, w3⟩ := DataW.trod_int Try.underlying3 h3
  obtain ⟨ho, e4, _, w4⟩ := DataW.trod_int Try.underlying3 h4
  obtain ⟨fg, e5, _⟩ := DataW.trod_bool Try.underlying4 h5
  obtain ⟨id, e6, _, w6⟩ := DataW.trod_int Try.underlying33 h6
  obtain ⟨of, e7, _, w7⟩ := DataW.trod_int Try.underlying3 h7
  obtain ⟨mo, e8, _⟩ := DataW.trod_bool Try.underlying4 h8
  obtain ⟨xa, xn, xc, e9⟩ := ints_cells h9
  have hd : d = .agg [y0.1, y1.1, y2.1, y3.1, y4.1, y5.1, y6.1, y7.1, y8.1, y9.1, y10.1] := by simpa using congrArg Prod.fst hx
  obtain ⟨da, dc, dat, e10, g1, g2, g3, g4⟩ := bytes_cells h10 (fun m hm => hsz m (by
    rw [hd]
    simp only [DataW.weights, Try.underlying36]
    exact DataW.weights_mem_each (j := 10) (t := 28) rfl rfl m hm))
  simp only [List.cons.injEq, and_true] at e1
  simp only [List.cons.injEq, and_true] at e2
  obtain ⟨rfl, rfl, rfl⟩ := e1
  obtain ⟨rfl, rfl, rfl⟩ := e2
  have one : ∀ {x y : Value}, [x] = [y] → x = y := fun h => (List.cons.inj h).1
  obtain rfl := one e0
  obtain rfl := one e3
  obtain rfl := one e4
  obtain rfl := one e5
  obtain rfl := one e6
  obtain rfl := one e7
  obtain rfl := one e8
  obtain rfl := one e9
  obtain rfl := one e10
  exact ⟨⟨f, ⟨sf, sh, sl⟩, ⟨df, dh, dl⟩, pr, ho, fg, id, of, mo, dat⟩, xa, xn, xc, da, dc, rfl, ⟨wf_i64 w0, ok1, ok2, wf_i64 w3, wf_i64 w4, wf_u32 w6, wf_i64 w7, g4.bytes, by show dat.length ≤ _; omega⟩, g1, g2, g3, g4⟩
end Go.Proofs.Ytgdpcomcndidcaa
