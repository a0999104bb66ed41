/- Texts joined: FpX -/
import Derived.Test.YtkeeidfpgfdldaaFpz33
import Derived.Test.YtkeeidfpgfdldaaFpz34
import Derived.Test.YtkeeidfpgfdldaaFpz37
import Derived.Test.YtkeeidfpgfdldaaFpz38
import Derived.Test.YtkeeidfpgfdldaaFpz39
import Derived.Test.YtkeeidfpgfdldaaFpz40
namespace Go.Proofs.Ytkeeidfpgfdldaa
open Go.RowKit
set_option linter.unusedVariables false
set_option linter.unusedSimpArgs false
theorem pack_dat (C : List Pkt) : (packD C).dat = C.flatMap (·.dat) := by
 cases C with
 | nil => rfl
 | cons p r => rfl
theorem keyK (p : Pkt) : WideAt.IsKeyLit (nameK p) := keyLit_name p
theorem docD_gs (ms ro li cl : Int) (L : List DgIn) : (docD ms ro li cl L).gs = L.map DgIn.dg := rfl
theorem put_take_eq {t : Dt} {p : Pkt} (hf : p.fg = true) (hw : wrongP p = 0) : putD t p = takeD t p := by
 unfold putD
 rw [if_neg (by rw [hf]; simp), if_neg (by rw [hw]; simp)]
theorem InD.nilG (P : Nat → Prop) {g : DgIn} (h1 : g.pa = none) (h2 : g.ps = []) : InD P g := ⟨fun x hx => (by rw [h1] at hx; cases hx), fun q hq => (by rw [h2] at hq; cases hq)⟩
theorem wrong_fam {f sf sh sl df dh dl of : Int} {mo : Bool} {n : Nat} (hw : wrongF f ⟨sf, sh, sl⟩ ⟨df, dh, dl⟩ of mo n = 0) : f = 4 ∨ f = 6 := by
 unfold wrongF at hw
 split at hw
 ·cases hw
 ·next h1 =>
  cases h2 : (Ad.right ⟨sf, sh, sl⟩ && (sf == f)) with
  | false => exact absurd (.inl h2) h1
  | true =>
   rw [Bool.and_eq_true, beq_iff_eq] at h2
   obtain ⟨h3, rfl⟩ := h2
   unfold Ad.right at h3
   split at h3
   ·next h4 => exact .inl h4
   ·exact .inr (by simpa using h3)
theorem dg_more {g : DgIn} {q : PkIn} {pp : Pkt} {K : Lit} {pa2 : Option Addr} {pc2 : Nat} (hk : nameK g.nmP = K) (hq : q.p = pp) (hd : g.dead = false) : DgIn.dg ⟨g.ns, g.nd, g.np, g.ni, g.ps ++ [q], pa2, pc2, g.ends, g.dead⟩ = ⟨K, g.ps.map (·.p) ++ [pp], g.ends, false⟩ := by
 show (⟨nameK g.nmP, (g.ps ++ [q]).map (·.p), g.ends, g.dead⟩ : Dg) = _
 rw [hk, hd, List.map_append, List.map_cons, List.map_nil, hq]
set_option maxRecDepth 100000 in
set_option maxHeartbeats 16000000 in
theorem rput_take (tb : Nat) (ms ro li cl : Int) (ga : Option Addr) (gc : Nat) (L : List DgIn) (f sf sh sl df dh dl pr ho : Int) (id of : Int) (mo : Bool) (xa : Option Addr) (xc : Nat) (da : Option Addr) (dc : Nat) (X D : List Int) (w : World) (h : DocU w tb ms ro li cl ga gc L) (hp : PkIn.ok w ⟨⟨f, ⟨sf, sh, sl⟩, ⟨df, dh, dl⟩, pr, ho, true, id, of, mo, X, D⟩, xa, xc, da, dc⟩) (hdn : D.length ≤ 140737488355328) (hsl : 0 ≤ sl) (hdl : 0 ≤ dl) (hw : wrongP ⟨f, ⟨sf, sh, sl⟩, ⟨df, dh, dl⟩, pr, ho, true, id, of, mo, X, D⟩ = 0) (he0 : -9223372036854775808 ≤ cl + li) (he1 : cl + li ≤ 9223372036854775807) (hlen : lenG L ≤ 1099511627776) (hms : ms ≤ 65536) (hdg : ∀ g ∈ L, DgOk g.dg) (hkeys : (L.map DgIn.dg).Pairwise fun a b => a.key ≠ b.key) :
  Calls Try.prog 18 #[.pointer (some ⟨tb, 0, none⟩), .agg #[.int .i64 f, .int .i64 sf, .int .u64 sh, .int .u64 sl, .int .i64 df, .int .u64 dh, .int .u64 dl, .int .i64 pr, .int .i64 ho, .bool true, .int .u32 id, .int .i64 of, .bool mo, .slice xa X.length xc, .slice da D.length dc]] w (PutGot w tb ms ro li cl ga L ⟨f, ⟨sf, sh, sl⟩, ⟨df, dh, dl⟩, pr, ho, true, id, of, mo, X, D⟩) := by
 have hwF : wrongF f ⟨sf, sh, sl⟩ ⟨df, dh, dl⟩ of mo D.length = 0 := hw
 obtain ⟨w1, w2, w3, w4⟩ := wrong_nums hw
 simp only at w1 w2 w3 w4
 have hf46 : f = 4 ∨ f = 6 := wrong_fam hwF
 have hput : putD (docD ms ro li cl L) ⟨f, ⟨sf, sh, sl⟩, ⟨df, dh, dl⟩, pr, ho, true, id, of, mo, X, D⟩ = takeD (docD ms ro li cl L) ⟨f, ⟨sf, sh, sl⟩, ⟨df, dh, dl⟩, pr, ho, true, id, of, mo, X, D⟩ := put_take_eq rfl hw
 have hkL := keyK ⟨f, ⟨sf, sh, sl⟩, ⟨df, dh, dl⟩, pr, ho, true, id, of, mo, X, D⟩
 have hpk := hp.p
 simp only at hpk
 have htb := h.t.blk.lt
 go_enter Try.func18, Try.ntmps18
 refine put_A1 _ _ tb f sf sh sl df dh dl pr ho id of mo xa X.length xc da D.length dc w hsl hdl hdn hwF ?_
 intros
 rename_i W1 ob b1 hbx1 hob1 hbo
 refine put_A2 _ _ tb f sf sh sl df dh dl pr ho id of mo xa X.length xc da D.length dc W1 w.heap.size ob hbx1 (if f = 4 then pr else 0) rfl ?_
 intros
 rename_i W2 nb c2 hnb2 hnbe
 have b2 : Below w.heap.size w W2 := bel_tr b1 c2
 have hbx2 := hbx1.kept c2
 have hob2 := hob1.kept c2
 have hon : ob < nb := by rw [hnbe]; exact hob1.lt
 have nz : ∀ {W : World}, Below w.heap.size w W → DocU W tb ms ro li cl ga gc L := fun {W} hb => h.but (But.of_bel hb) (fun b hd => by have := h.lows b hd; omega)
 refine put_A3 _ _ tb ms ro li cl ga gc L f sf sh sl df dh dl pr ho id of mo xa X.length xc da D.length dc W2 w.heap.size ob nb (nz b2).t (if f = 4 then pr else 0) hnb2 ?_
 intros
 rename_i v W3 HA c3
 have b3 : Below w.heap.size w W3 := bel_tr b2 c3
 have hbx3 := hbx2.kept c3
 have hob3 := hob2.kept c3
 have hnb3 := hnb2.kept c3
 obtain ⟨_, _, t2, t3, _⟩ := tab_cells (nz b3).t.blk
 refine put_B0 _ _ tb w.heap.size ob nb v cl li (cl + li) (if f = 4 then pr else 0) f sf sh sl df dh dl pr ho id of mo xa X.length xc da D.length dc W3 t2 t3 hnb3 rfl he0 he1 ?_
 intros
 rename_i W4 gb c4 hgb4 hgbl
 have b4 : Below w.heap.size w W4 := bel_tr b3 c4
 have hbx4 := hbx3.kept c4
 have hob4 := hob3.kept c4
 have hl3 := hnb3.lt
 have hog : ob < gb := by have := hnb3.lt; omega
 clear t2 t3 hbx1 hob1 hnb2 hbx2 hob2 hnbe c2 c3 c4 hbx3 hob3 hnb3
 rcases HA.out with ⟨hv, hno⟩ | ⟨j, g, hv, hj, hg, hnm⟩
 ·subst hv
  have hnone := at_none h.nm hpk hf46 hno
  have hlook : lookD (nameK ⟨f, ⟨sf, sh, sl⟩, ⟨df, dh, dl⟩, pr, ho, true, id, of, mo, X, D⟩) (docD ms ro li cl L).gs = none := lookD_no hnone
  have hkey : ∀ (i : Nat) x, L[i]? = some x → (x.dg.key.sameKey (nameK ⟨f, ⟨sf, sh, sl⟩, ⟨df, dh, dl⟩, pr, ho, true, id, of, mo, X, D⟩) = true ↔ (i : Int) = -1) := fun i x hx => by
   have := hnone x.dg (List.mem_map.2 ⟨x, List.mem_of_getElem? hx, rfl⟩)
   rw [this]
   constructor
   ·intro e; cases e
   ·intro e; omega
  refine put_B1n _ _ tb w.heap.size ob nb gb f sf sh sl df dh dl pr ho id of mo xa X.length xc da D.length dc W4 ?_
  intros
  refine put_Cn _ (PutGot w tb ms ro li cl ga L ⟨f, ⟨sf, sh, sl⟩, ⟨df, dh, dl⟩, pr, ho, true, id, of, mo, X, D⟩) tb w.heap.size ob nb gb w.heap.size ms ro li cl ga gc L f sf sh sl df dh dl pr ho id of mo xa X.length xc da D.length dc W4 (nz b4).t hlen (by omega) hbx4 hob4 b4.size (by omega) ?_ ?_
  ·intro hc
   intros
   rename_i W5 c5
   have b5 : Below w.heap.size w W5 := bel_tr b4 c5
   have hpk0 : PktOk (DgIn.nmP ⟨⟨sf, sh, sl⟩, ⟨df, dh, dl⟩, (if f = 4 then pr else 0), id, [], none, 0, cl + li, false⟩) := ⟨hpk.k1, hpk.k2, hpk.k3, hpk.k4, hpk.k5, hpk.k6, by show (Lit.int .i64 (if f = 4 then pr else 0)).wf = true; split; exact hpk.k7; rfl, hpk.k8⟩
   have hG0k : DgIn.dg ⟨⟨sf, sh, sl⟩, ⟨df, dh, dl⟩, (if f = 4 then pr else 0), id, [], none, 0, cl + li, false⟩ = ⟨nameK ⟨f, ⟨sf, sh, sl⟩, ⟨df, dh, dl⟩, pr, ho, true, id, of, mo, X, D⟩, [], cl + li, false⟩ := by
    have := (nm_key (g := ⟨⟨sf, sh, sl⟩, ⟨df, dh, dl⟩, (if f = 4 then pr else 0), id, [], none, 0, cl + li, false⟩) (p := ⟨f, ⟨sf, sh, sl⟩, ⟨df, dh, dl⟩, pr, ho, true, id, of, mo, X, D⟩) hpk0 hpk hf46).1 (by unfold nmEq; simp)
    show (⟨_, _, _, _⟩ : Dg) = _
    rw [show nameK (DgIn.nmP ⟨⟨sf, sh, sl⟩, ⟨df, dh, dl⟩, (if f = 4 then pr else 0), id, [], none, 0, cl + li, false⟩) = nameK ⟨f, ⟨sf, sh, sl⟩, ⟨df, dh, dl⟩, pr, ho, true, id, of, mo, X, D⟩ from this]
    rfl
   have hk0 : nameK (DgIn.nmP ⟨⟨sf, sh, sl⟩, ⟨df, dh, dl⟩, (if f = 4 then pr else 0), id, [], none, 0, cl + li, false⟩) = nameK ⟨f, ⟨sf, sh, sl⟩, ⟨df, dh, dl⟩, pr, ho, true, id, of, mo, X, D⟩ := congrArg Dg.key hG0k
   have hps := PsOk.more (ps := []) (t := cl + li) (p := ⟨f, ⟨sf, sh, sl⟩, ⟨df, dh, dl⟩, pr, ho, true, id, of, mo, X, D⟩) (.inl rfl) hw (clash_0 hw)
   rw [List.nil_append] at hps
   refine put_DF (PutGot w tb ms ro li cl ga L ⟨f, ⟨sf, sh, sl⟩, ⟨df, dh, dl⟩, pr, ho, true, id, of, mo, X, D⟩) tb w.heap.size ob nb gb w.heap.size (-1) ⟨⟨sf, sh, sl⟩, ⟨df, dh, dl⟩, (if f = 4 then pr else 0), id, [], none, 0, cl + li, false⟩ ms ro li cl ga gc L f sf sh sl df dh dl pr ho id of mo xa X.length xc da D.length dc X D W5 (nz b5) (fun b hd => h.lows b hd) (hbx4.kept c5) (hob4.kept c5) (hgb4.kept c5) (hp.exts.below b5) rfl hp.xnil (hp.data.below b5) rfl hp.dnil (by omega) ⟨by omega, by omega⟩ (fun W _ => ⟨⟨fun q hq => (by cases hq), fun i q hq => (by simp at hq)⟩, fun q hq => (by cases hq), Nat.zero_le _⟩) (InD.nilG _ rfl rfl) (fun _ => ⟨rfl, rfl⟩) hpk b5.size (Nat.le_refl _) hbo hog _ hps ?_ ?_
   ·intro hf W q pa2 pc2 gg c2 hqp bW hown gok fp fqx fqd hgl hgb' dU
    have bw : Below w.heap.size w W := b5.trans bW
    have hL' : ∀ x ∈ skipL L (-1) L.length ++ [(⟨DgIn.ns ⟨⟨sf, sh, sl⟩, ⟨df, dh, dl⟩, (if f = 4 then pr else 0), id, [], none, 0, cl + li, false⟩, DgIn.nd ⟨⟨sf, sh, sl⟩, ⟨df, dh, dl⟩, (if f = 4 then pr else 0), id, [], none, 0, cl + li, false⟩, DgIn.np ⟨⟨sf, sh, sl⟩, ⟨df, dh, dl⟩, (if f = 4 then pr else 0), id, [], none, 0, cl + li, false⟩, DgIn.ni ⟨⟨sf, sh, sl⟩, ⟨df, dh, dl⟩, (if f = 4 then pr else 0), id, [], none, 0, cl + li, false⟩, DgIn.ps ⟨⟨sf, sh, sl⟩, ⟨df, dh, dl⟩, (if f = 4 then pr else 0), id, [], none, 0, cl + li, false⟩ ++ [q], pa2, pc2, DgIn.ends ⟨⟨sf, sh, sl⟩, ⟨df, dh, dl⟩, (if f = 4 then pr else 0), id, [], none, 0, cl + li, false⟩, DgIn.dead ⟨⟨sf, sh, sl⟩, ⟨df, dh, dl⟩, (if f = 4 then pr else 0), id, [], none, 0, cl + li, false⟩⟩ : DgIn)], x ∈ L ∨ x = (⟨DgIn.ns ⟨⟨sf, sh, sl⟩, ⟨df, dh, dl⟩, (if f = 4 then pr else 0), id, [], none, 0, cl + li, false⟩, DgIn.nd ⟨⟨sf, sh, sl⟩, ⟨df, dh, dl⟩, (if f = 4 then pr else 0), id, [], none, 0, cl + li, false⟩, DgIn.np ⟨⟨sf, sh, sl⟩, ⟨df, dh, dl⟩, (if f = 4 then pr else 0), id, [], none, 0, cl + li, false⟩, DgIn.ni ⟨⟨sf, sh, sl⟩, ⟨df, dh, dl⟩, (if f = 4 then pr else 0), id, [], none, 0, cl + li, false⟩, DgIn.ps ⟨⟨sf, sh, sl⟩, ⟨df, dh, dl⟩, (if f = 4 then pr else 0), id, [], none, 0, cl + li, false⟩ ++ [q], pa2, pc2, DgIn.ends ⟨⟨sf, sh, sl⟩, ⟨df, dh, dl⟩, (if f = 4 then pr else 0), id, [], none, 0, cl + li, false⟩, DgIn.dead ⟨⟨sf, sh, sl⟩, ⟨df, dh, dl⟩, (if f = 4 then pr else 0), id, [], none, 0, cl + li, false⟩⟩ : DgIn) := fun x hx => by
     rcases List.mem_append.1 hx with hx | hx
     ·exact .inl (skipL_mem hx)
     ·exact .inr (List.mem_singleton.1 hx)
    have hwl := b5.size
    have hobl : ob < W5.heap.size := by have := (hgb4.kept c5).lt; omega
    obtain ⟨f1, f2, f3⟩ := fin_new (w := w) (W := W) (tb := tb) (ob := ob) (B := W5.heap.size) (L := L) (L' := skipL L (-1) L.length ++ [(⟨DgIn.ns ⟨⟨sf, sh, sl⟩, ⟨df, dh, dl⟩, (if f = 4 then pr else 0), id, [], none, 0, cl + li, false⟩, DgIn.nd ⟨⟨sf, sh, sl⟩, ⟨df, dh, dl⟩, (if f = 4 then pr else 0), id, [], none, 0, cl + li, false⟩, DgIn.np ⟨⟨sf, sh, sl⟩, ⟨df, dh, dl⟩, (if f = 4 then pr else 0), id, [], none, 0, cl + li, false⟩, DgIn.ni ⟨⟨sf, sh, sl⟩, ⟨df, dh, dl⟩, (if f = 4 then pr else 0), id, [], none, 0, cl + li, false⟩, DgIn.ps ⟨⟨sf, sh, sl⟩, ⟨df, dh, dl⟩, (if f = 4 then pr else 0), id, [], none, 0, cl + li, false⟩ ++ [q], pa2, pc2, DgIn.ends ⟨⟨sf, sh, sl⟩, ⟨df, dh, dl⟩, (if f = 4 then pr else 0), id, [], none, 0, cl + li, false⟩, DgIn.dead ⟨⟨sf, sh, sl⟩, ⟨df, dh, dl⟩, (if f = 4 then pr else 0), id, [], none, 0, cl + li, false⟩⟩ : DgIn)]) (sa := some ⟨gg, 0, none⟩) (sc := c2) (PA := z15) dU bw bW.size hwl (by omega) hobl htb hown (fun x hx => by
     rcases hL' x hx with hx | rfl
     ·exact dU.t.row.each x hx
     ·exact gok) (fun x hx => by
     rcases hL' x hx with hx' | rfl
     ·have hin0 := h.low x hx'
      refine ⟨fun y hy => ?_, fun z hz => ⟨fun y hy => ?_, fun y hy => ?_⟩⟩
      ·have := hin0.pa y hy
       exact ⟨Nat.lt_of_lt_of_le this.1 bw.size, this.2.1, by omega, fun x' hx' => by cases hx'; simp only; omega, .inl ⟨x, hx', fun hh => hh.pa y hy rfl⟩⟩
      ·have := (hin0.ps z hz).1 y hy
       exact ⟨Nat.lt_of_lt_of_le this.1 bw.size, this.2.1, by omega, fun x' hx' => by cases hx'; simp only; omega, .inl ⟨x, hx', fun hh => (hh.ps z hz).1 y hy rfl⟩⟩
      ·have := (hin0.ps z hz).2 y hy
       exact ⟨Nat.lt_of_lt_of_le this.1 bw.size, this.2.1, by omega, fun x' hx' => by cases hx'; simp only; omega, .inl ⟨x, hx', fun hh => (hh.ps z hz).2 y hy rfl⟩⟩
     ·refine ⟨fun y hy => ⟨by have := fp y hy; have := bW.size; omega, by have := fp y hy; omega, by have := fp y hy; omega, fun x' hx' => by cases hx'; have := fp y hy; simp only; omega, .inr (by have := fp y hy; omega)⟩, fun z hz => ?_⟩
      rcases List.mem_append.1 hz with hz | hz
      ·cases hz
      ·rw [List.mem_singleton.1 hz]
       exact ⟨fun y hy => ⟨by have := fqx y hy; have := bW.size; omega, by have := fqx y hy; omega, by have := fqx y hy; omega, fun x' hx' => by cases hx'; have := fqx y hy; simp only; omega, .inr (by have := fqx y hy; omega)⟩, fun y hy => ⟨by have := fqd y hy; have := bW.size; omega, by have := fqd y hy; omega, by have := fqd y hy; omega, fun x' hx' => by cases hx'; have := fqd y hy; simp only; omega, .inr (by have := fqd y hy; omega)⟩⟩) (fun x hx => by
     rcases hL' x hx with hx | rfl
     ·exact h.nm x hx
     ·exact hpk0) (by
    rw [List.length_append]
    have := skipL_len L (-1) L.length
    have hfw := h.t.few
    have hn : ¬ ms ≤ (L.length : Int) := fun hh => hc (.inl hh)
    simp only [List.length_cons, List.length_nil]
    omega) rfl
    have el : (skipL L (-1) L.length ++ [(⟨DgIn.ns ⟨⟨sf, sh, sl⟩, ⟨df, dh, dl⟩, (if f = 4 then pr else 0), id, [], none, 0, cl + li, false⟩, DgIn.nd ⟨⟨sf, sh, sl⟩, ⟨df, dh, dl⟩, (if f = 4 then pr else 0), id, [], none, 0, cl + li, false⟩, DgIn.np ⟨⟨sf, sh, sl⟩, ⟨df, dh, dl⟩, (if f = 4 then pr else 0), id, [], none, 0, cl + li, false⟩, DgIn.ni ⟨⟨sf, sh, sl⟩, ⟨df, dh, dl⟩, (if f = 4 then pr else 0), id, [], none, 0, cl + li, false⟩, DgIn.ps ⟨⟨sf, sh, sl⟩, ⟨df, dh, dl⟩, (if f = 4 then pr else 0), id, [], none, 0, cl + li, false⟩ ++ [q], pa2, pc2, DgIn.ends ⟨⟨sf, sh, sl⟩, ⟨df, dh, dl⟩, (if f = 4 then pr else 0), id, [], none, 0, cl + li, false⟩, DgIn.dead ⟨⟨sf, sh, sl⟩, ⟨df, dh, dl⟩, (if f = 4 then pr else 0), id, [], none, 0, cl + li, false⟩⟩ : DgIn)]).length = (skipL L (-1) L.length).length + 1 := by rw [List.length_append]; rfl
    rw [el] at f1 f2
    refine ⟨_, c2, _, pk0, none, 0, none, 0, 19, rfl, f1, ?_, rowI_nil _ _, fun _ => rfl, row_nil _ _, fun _ => rfl, f2, f3⟩
    rw [hput]
    unfold takeD
    rw [hlook, if_neg (by simp [clashO]), if_neg (by
     show ¬ ((none : Option Dg).isSome = false ∧ ms ≤ ((L.map DgIn.dg).length : Int) ∨ ro < bytesD (L.map DgIn.dg) + _)
     rw [← lenG_dg, List.length_map]
     rintro (⟨_, hh⟩ | hh)
     ·exact hc (.inl hh)
     ·exact hc (.inr hh))]
    show doneD _ _ _ _ (follow 65536 ((([] : List PkIn).map (·.p)) ++ [_]) 0) = _
    rw [hf]
    have em : (skipL L (-1) L.length ++ [(⟨DgIn.ns ⟨⟨sf, sh, sl⟩, ⟨df, dh, dl⟩, (if f = 4 then pr else 0), id, [], none, 0, cl + li, false⟩, DgIn.nd ⟨⟨sf, sh, sl⟩, ⟨df, dh, dl⟩, (if f = 4 then pr else 0), id, [], none, 0, cl + li, false⟩, DgIn.np ⟨⟨sf, sh, sl⟩, ⟨df, dh, dl⟩, (if f = 4 then pr else 0), id, [], none, 0, cl + li, false⟩, DgIn.ni ⟨⟨sf, sh, sl⟩, ⟨df, dh, dl⟩, (if f = 4 then pr else 0), id, [], none, 0, cl + li, false⟩, DgIn.ps ⟨⟨sf, sh, sl⟩, ⟨df, dh, dl⟩, (if f = 4 then pr else 0), id, [], none, 0, cl + li, false⟩ ++ [q], pa2, pc2, DgIn.ends ⟨⟨sf, sh, sl⟩, ⟨df, dh, dl⟩, (if f = 4 then pr else 0), id, [], none, 0, cl + li, false⟩, DgIn.dead ⟨⟨sf, sh, sl⟩, ⟨df, dh, dl⟩, (if f = 4 then pr else 0), id, [], none, 0, cl + li, false⟩⟩ : DgIn)]).map DgIn.dg = lessD (nameK ⟨f, ⟨sf, sh, sl⟩, ⟨df, dh, dl⟩, pr, ho, true, id, of, mo, X, D⟩) (L.map DgIn.dg) ++ [⟨nameK ⟨f, ⟨sf, sh, sl⟩, ⟨df, dh, dl⟩, pr, ho, true, id, of, mo, X, D⟩, (([] : List PkIn).map (·.p)) ++ [⟨f, ⟨sf, sh, sl⟩, ⟨df, dh, dl⟩, pr, ho, true, id, of, mo, X, D⟩], (cl + li), false⟩] := by
     rw [List.map_append, skip_less L (-1) _ hkey L.length (Nat.le_refl _), List.take_length, List.map_cons, List.map_nil]
     rw [show DgIn.dg (⟨DgIn.ns ⟨⟨sf, sh, sl⟩, ⟨df, dh, dl⟩, (if f = 4 then pr else 0), id, [], none, 0, cl + li, false⟩, DgIn.nd ⟨⟨sf, sh, sl⟩, ⟨df, dh, dl⟩, (if f = 4 then pr else 0), id, [], none, 0, cl + li, false⟩, DgIn.np ⟨⟨sf, sh, sl⟩, ⟨df, dh, dl⟩, (if f = 4 then pr else 0), id, [], none, 0, cl + li, false⟩, DgIn.ni ⟨⟨sf, sh, sl⟩, ⟨df, dh, dl⟩, (if f = 4 then pr else 0), id, [], none, 0, cl + li, false⟩, DgIn.ps ⟨⟨sf, sh, sl⟩, ⟨df, dh, dl⟩, (if f = 4 then pr else 0), id, [], none, 0, cl + li, false⟩ ++ [q], pa2, pc2, DgIn.ends ⟨⟨sf, sh, sl⟩, ⟨df, dh, dl⟩, (if f = 4 then pr else 0), id, [], none, 0, cl + li, false⟩, DgIn.dead ⟨⟨sf, sh, sl⟩, ⟨df, dh, dl⟩, (if f = 4 then pr else 0), id, [], none, 0, cl + li, false⟩⟩ : DgIn) = _ from dg_more (g := ⟨⟨sf, sh, sl⟩, ⟨df, dh, dl⟩, (if f = 4 then pr else 0), id, [], none, 0, cl + li, false⟩) hk0 hqp rfl]
    show ((⟨ms, ro, li, cl, lessD _ (L.map DgIn.dg) ++ [_]⟩ : Dt), pk0, (19 : Int)) = (⟨ms, ro, li, cl, (skipL L (-1) L.length ++ [(⟨DgIn.ns ⟨⟨sf, sh, sl⟩, ⟨df, dh, dl⟩, (if f = 4 then pr else 0), id, [], none, 0, cl + li, false⟩, DgIn.nd ⟨⟨sf, sh, sl⟩, ⟨df, dh, dl⟩, (if f = 4 then pr else 0), id, [], none, 0, cl + li, false⟩, DgIn.np ⟨⟨sf, sh, sl⟩, ⟨df, dh, dl⟩, (if f = 4 then pr else 0), id, [], none, 0, cl + li, false⟩, DgIn.ni ⟨⟨sf, sh, sl⟩, ⟨df, dh, dl⟩, (if f = 4 then pr else 0), id, [], none, 0, cl + li, false⟩, DgIn.ps ⟨⟨sf, sh, sl⟩, ⟨df, dh, dl⟩, (if f = 4 then pr else 0), id, [], none, 0, cl + li, false⟩ ++ [q], pa2, pc2, DgIn.ends ⟨⟨sf, sh, sl⟩, ⟨df, dh, dl⟩, (if f = 4 then pr else 0), id, [], none, 0, cl + li, false⟩, DgIn.dead ⟨⟨sf, sh, sl⟩, ⟨df, dh, dl⟩, (if f = 4 then pr else 0), id, [], none, 0, cl + li, false⟩⟩ : DgIn)]).map DgIn.dg⟩, pk0, 19)
    rw [em]
    rfl
   ·intro C hf W sa sc xa2 xc2 da2 dc2 bW hown rx nx rd nd fx fd dU
    have bw : Below w.heap.size w W := b5.trans bW
    have hwl := b5.size
    have hobl : ob < W5.heap.size := by have := (hgb4.kept c5).lt; omega
    obtain ⟨f1, f2, f3⟩ := fin_new (w := w) (W := W) (tb := tb) (ob := ob) (B := W5.heap.size) (L := L) (L' := skipL L (-1) L.length) (sa := sa) (sc := sc) (PA := pkV (packD C) xa2 xc2 da2 dc2) dU bw bW.size hwl (by omega) hobl htb hown (fun x hx => dU.t.row.each x (skipL_mem hx)) (fun x hx => by
     have hx' := skipL_mem hx
     have hin0 := h.low x hx'
     refine ⟨fun y hy => ?_, fun z hz => ⟨fun y hy => ?_, fun y hy => ?_⟩⟩
     ·have := hin0.pa y hy
      exact ⟨Nat.lt_of_lt_of_le this.1 bw.size, this.2.1, by omega, fun x' hx' => by have := hown.lt x' hx'; omega, .inl ⟨x, hx', fun hh => hh.pa y hy rfl⟩⟩
     ·have := (hin0.ps z hz).1 y hy
      exact ⟨Nat.lt_of_lt_of_le this.1 bw.size, this.2.1, by omega, fun x' hx' => by have := hown.lt x' hx'; omega, .inl ⟨x, hx', fun hh => (hh.ps z hz).1 y hy rfl⟩⟩
     ·have := (hin0.ps z hz).2 y hy
      exact ⟨Nat.lt_of_lt_of_le this.1 bw.size, this.2.1, by omega, fun x' hx' => by have := hown.lt x' hx'; omega, .inl ⟨x, hx', fun hh => (hh.ps z hz).2 y hy rfl⟩⟩) (fun x hx => h.nm x (skipL_mem hx)) (by
     have := skipL_len L (-1) L.length
     have hfw := h.t.few
     omega) rfl
    have bt : But (fun b => b = tb ∨ b = ob) W ((W.setCell ⟨tb, 4, none⟩ (.slice sa (skipL L (-1) L.length).length sc)).setRow ob (pkV (packD C) xa2 xc2 da2 dc2)) := ((But.refl _ W).setCell tb 4 (.inl (.inl rfl)) _).setRow ob (.inl (.inr rfl)) _
    have ed : (packD C).dat = C.flatMap (·.dat) := pack_dat C
    refine ⟨sa, sc, _, packD C, xa2, xc2, da2, dc2, 0, rfl, f1, ?_, rx.but bt (fun x hx e => by have := fx x hx; omega), nx, by rw [ed]; exact rd.but bt (fun x hx e => by have := fd x hx; omega), nd, f2, f3⟩
    rw [hput]
    unfold takeD
    rw [hlook, if_neg (by simp [clashO]), if_neg (by
     show ¬ ((none : Option Dg).isSome = false ∧ ms ≤ ((L.map DgIn.dg).length : Int) ∨ ro < bytesD (L.map DgIn.dg) + _)
     rw [← lenG_dg, List.length_map]
     rintro (⟨_, hh⟩ | hh)
     ·exact hc (.inl hh)
     ·exact hc (.inr hh))]
    show doneD _ _ _ _ (follow 65536 ((([] : List PkIn).map (·.p)) ++ [_]) 0) = _
    rw [hf]
    have em : (skipL L (-1) L.length).map DgIn.dg = lessD (nameK ⟨f, ⟨sf, sh, sl⟩, ⟨df, dh, dl⟩, pr, ho, true, id, of, mo, X, D⟩) (L.map DgIn.dg) := by
     rw [skip_less L (-1) _ hkey L.length (Nat.le_refl _), List.take_length]
    show ((⟨ms, ro, li, cl, lessD _ (L.map DgIn.dg)⟩ : Dt), packD C, (0 : Int)) = (⟨ms, ro, li, cl, (skipL L (-1) L.length).map DgIn.dg⟩, packD C, 0)
    rw [em]
  ·intro hc W bW
   refine fin_keep h (b4.trans (bW.mono (Nat.le_refl _))) ?_
   rw [hput]
   unfold takeD
   rw [hlook]
   rw [if_neg (by simp [clashO]), if_pos (by
    rcases hc with hc | hc
    ·exact .inl ⟨rfl, by rw [docD_gs, List.length_map]; exact hc⟩
    ·refine .inr ?_
     show ro < bytesD (L.map DgIn.dg) + _
     rw [← lenG_dg]
     exact hc)]
 ·subst hv
  have hgm := List.mem_of_getElem? hg
  have hke : g.dg.key = nameK ⟨f, ⟨sf, sh, sl⟩, ⟨df, dh, dl⟩, pr, ho, true, id, of, mo, X, D⟩ := (nm_key (h.nm g hgm) hpk hf46).1 hnm
  have hlook : lookD (nameK ⟨f, ⟨sf, sh, sl⟩, ⟨df, dh, dl⟩, pr, ho, true, id, of, mo, X, D⟩) (docD ms ro li cl L).gs = some g.dg := lookD_at hkeys hg hke
  have hkey : ∀ (i : Nat) x, L[i]? = some x → (x.dg.key.sameKey (nameK ⟨f, ⟨sf, sh, sl⟩, ⟨df, dh, dl⟩, pr, ho, true, id, of, mo, X, D⟩) = true ↔ (i : Int) = (j : Int)) := fun i x hx => by
   rw [sameKey_iff hkL]
   constructor
   ·intro e
    have := keys_at hkeys hx hg (by rw [e, hke])
    omega
   ·intro e
    have : i = j := by omega
    subst this
    rw [hg] at hx
    cases hx
    exact hke
  obtain ⟨bb, off, hga, hc4⟩ := (nz b4).t.row.cells j g hg
  obtain ⟨hbbl, hbfz⟩ := h.frz _ hga
  simp only at hbbl hbfz
  have hbt : bb ≠ tb := h.t.far _ hga
  have hfz4 : ∀ i, W4.frozen? ⟨bb, i, none⟩ = false := fun i => (b4.frozen (p := ⟨bb, i, none⟩) hbbl).trans (hbfz i)
  obtain ⟨_, _, _, _, t4⟩ := tab_cells (nz b4).t.blk
  have hgr : ∀ W, Below w.heap.size W4 W → g.ok W := fun W hb => ((nz (b4.trans hb)).t.row.each g hgm)
  have hpi : PkIn.in_ ⟨⟨f, ⟨sf, sh, sl⟩, ⟨df, dh, dl⟩, pr, ho, true, id, of, mo, X, D⟩, xa, xc, da, dc⟩ := ⟨by show 0 ≤ of; omega, by show of ≤ 65535; omega, by show D.length ≤ 65535; omega⟩
  have hdok := hdg g hgm
  have hover : g.dead = true ∨ clashD g.dg.ps ⟨f, ⟨sf, sh, sl⟩, ⟨df, dh, dl⟩, pr, ho, true, id, of, mo, X, D⟩ = true → putD (docD ms ro li cl L) ⟨f, ⟨sf, sh, sl⟩, ⟨df, dh, dl⟩, pr, ho, true, id, of, mo, X, D⟩ = (docD ms ro li cl (L.set j g.die), pk0, 11) := fun hc => by
   rw [hput]
   unfold takeD
   rw [hlook, if_pos (by
    show (g.dead || clashD g.dg.ps _) = true
    rcases hc with hc | hc <;> rw [hc] <;> simp)]
   have e := set_dead hg hkey
   show ((⟨ms, ro, li, cl, deadD _ (L.map DgIn.dg)⟩ : Dt), _, _) = _
   rw [← e]
   rfl
  have hOv : (g.dead = true ∨ clashD g.dg.ps ⟨f, ⟨sf, sh, sl⟩, ⟨df, dh, dl⟩, pr, ho, true, id, of, mo, X, D⟩ = true) → ∀ W : World, Below w.heap.size W4 W → Blk W ob 42 z15 → (PutGot w tb ms ro li cl ga L ⟨f, ⟨sf, sh, sl⟩, ⟨df, dh, dl⟩, pr, ho, true, id, of, mo, X, D⟩) (.returned (.tuple #[.agg z15, .int .i64 11])) (((W.setCell ⟨bb, off + j * 11 + 10, none⟩ (.bool true)).setCell ⟨bb, off + j * 11 + 8, none⟩ (.slice none 0 0)).setRow ob z15) := fun hc W hb _ => by
   have hh := h
   rw [hga] at hh
   obtain ⟨f1, f2, f3⟩ := fin_over (ob := ob) hh (b4.trans hb) (by omega) hg
   unfold PutGot
   rw [hga]
   exact ⟨_, gc, L.set j g.die, pk0, none, 0, none, 0, 11, rfl, f1, hover hc, rowI_nil _ _, fun _ => rfl, row_nil _ _, fun _ => rfl, f2, f3⟩
  cases hd : g.dead with
  | true =>
   exact put_B1d _ (PutGot w tb ms ro li cl ga L ⟨f, ⟨sf, sh, sl⟩, ⟨df, dh, dl⟩, pr, ho, true, id, of, mo, X, D⟩) tb w.heap.size ob nb gb w.heap.size ga gc L.length j g ⟨⟨f, ⟨sf, sh, sl⟩, ⟨df, dh, dl⟩, pr, ho, true, id, of, mo, X, D⟩, xa, xc, da, dc⟩ _ f sf sh sl df dh dl pr ho id of mo xa X.length xc da D.length dc W4 t4 bb off hga hc4 hfz4 hj h.t.few hbx4 hob4 hgb4 rfl hpi rfl hd b4.size (by omega) (by omega) hbbl htb hbt (by omega) (by omega) hgr (hOv (.inl hd))
  | false =>
  cases hcl : (g.ps.any fun q => clash1 ⟨f, ⟨sf, sh, sl⟩, ⟨df, dh, dl⟩, pr, ho, true, id, of, mo, X, D⟩ q.p) with
  | true =>
   exact put_B1c _ (PutGot w tb ms ro li cl ga L ⟨f, ⟨sf, sh, sl⟩, ⟨df, dh, dl⟩, pr, ho, true, id, of, mo, X, D⟩) tb w.heap.size ob nb gb w.heap.size ga gc L.length j g ⟨⟨f, ⟨sf, sh, sl⟩, ⟨df, dh, dl⟩, pr, ho, true, id, of, mo, X, D⟩, xa, xc, da, dc⟩ _ f sf sh sl df dh dl pr ho id of mo xa X.length xc da D.length dc W4 t4 bb off hga hc4 hfz4 hj h.t.few hbx4 hob4 hgb4 rfl hpi rfl hd hcl b4.size (by omega) (by omega) hbbl htb hbt (by omega) (by omega) hgr (hOv (.inr (by rw [← clash_dg]; exact hcl)))
  | false =>
  have hcD : clashD g.dg.ps ⟨f, ⟨sf, sh, sl⟩, ⟨df, dh, dl⟩, pr, ho, true, id, of, mo, X, D⟩ = false := by rw [← clash_dg]; exact hcl
  have hlive := hdok.live hd
  refine put_B1y _ _ tb w.heap.size ob nb gb w.heap.size ga gc L.length j g ⟨⟨f, ⟨sf, sh, sl⟩, ⟨df, dh, dl⟩, pr, ho, true, id, of, mo, X, D⟩, xa, xc, da, dc⟩ _ f sf sh sl df dh dl pr ho id of mo xa X.length xc da D.length dc W4 t4 bb off hga hc4 hj h.t.few hbx4 hob4 hgb4 rfl (hgr W4 (Below.refl _ _)) hpi rfl hd hcl b4.size (by omega) (by omega) (by omega) (by omega) hgr ?_
  intros
  rename_i W5 c5 hbx5 hob5 hgb5
  have b5 : Below w.heap.size w W5 := b4.trans c5
  refine put_Cy _ (PutGot w tb ms ro li cl ga L ⟨f, ⟨sf, sh, sl⟩, ⟨df, dh, dl⟩, pr, ho, true, id, of, mo, X, D⟩) tb w.heap.size ob nb gb w.heap.size ms ro li cl ga gc L j f sf sh sl df dh dl pr ho id of mo xa X.length xc da D.length dc W5 (nz b5).t hlen (by omega) hbx5 hob5 b5.size (by omega) ?_ ?_
  ·intro hc
   intros
   rename_i W6 c6
   have b6 : Below w.heap.size w W6 := bel_tr b5 c6
   have hps := PsOk.more (ps := g.dg.ps) (t := g.dg.ends) (p := ⟨f, ⟨sf, sh, sl⟩, ⟨df, dh, dl⟩, pr, ho, true, id, of, mo, X, D⟩) (.inr hlive.2) hw (by rw [clash_same hlive.2 hlive.1]; exact hcD)
   have hne : g.ps ≠ [] := fun e => hlive.1 (by show g.ps.map _ = []; rw [e]; rfl)
   refine put_DF (PutGot w tb ms ro li cl ga L ⟨f, ⟨sf, sh, sl⟩, ⟨df, dh, dl⟩, pr, ho, true, id, of, mo, X, D⟩) tb w.heap.size ob nb gb w.heap.size (j : Int) g ms ro li cl ga gc L f sf sh sl df dh dl pr ho id of mo xa X.length xc da D.length dc X D W6 (nz b6) (fun b hd => h.lows b hd) (hbx5.kept c6) (hob5.kept c6) (hgb5.kept c6) (hp.exts.below b6) rfl hp.xnil (hp.data.below b6) rfl hp.dnil (by omega) ⟨by omega, by omega⟩ (fun W hb => (nz (b6.trans hb)).t.row.each g hgm) ((h.low g hgm).mono fun b hb => Nat.lt_of_lt_of_le hb.1 b6.size) (fun e => absurd e hne) hpk b6.size (Nat.le_refl _) hbo hog _ hps ?_ ?_
   ·intro hf W q pa2 pc2 gg c2 hqp bW hown gok fp fqx fqd hgl hgb' dU
    have bw : Below w.heap.size w W := b6.trans bW
    have hL' : ∀ x ∈ skipL L (j : Int) L.length ++ [(⟨g.ns, g.nd, g.np, g.ni, g.ps ++ [q], pa2, pc2, g.ends, g.dead⟩ : DgIn)], x ∈ L ∨ x = (⟨g.ns, g.nd, g.np, g.ni, g.ps ++ [q], pa2, pc2, g.ends, g.dead⟩ : DgIn) := fun x hx => by
     rcases List.mem_append.1 hx with hx | hx
     ·exact .inl (skipL_mem hx)
     ·exact .inr (List.mem_singleton.1 hx)
    have hwl := b6.size
    have hobl : ob < W6.heap.size := by have := (hgb5.kept c6).lt; omega
    obtain ⟨f1, f2, f3⟩ := fin_new (w := w) (W := W) (tb := tb) (ob := ob) (B := W6.heap.size) (L := L) (L' := skipL L (j : Int) L.length ++ [(⟨g.ns, g.nd, g.np, g.ni, g.ps ++ [q], pa2, pc2, g.ends, g.dead⟩ : DgIn)]) (sa := some ⟨gg, 0, none⟩) (sc := c2) (PA := z15) dU bw bW.size hwl (by omega) hobl htb hown (fun x hx => by
     rcases hL' x hx with hx | rfl
     ·exact dU.t.row.each x hx
     ·exact gok) (fun x hx => by
     rcases hL' x hx with hx' | rfl
     ·have hin0 := h.low x hx'
      refine ⟨fun y hy => ?_, fun z hz => ⟨fun y hy => ?_, fun y hy => ?_⟩⟩
      ·have := hin0.pa y hy
       exact ⟨Nat.lt_of_lt_of_le this.1 bw.size, this.2.1, by omega, fun x' hx' => by cases hx'; simp only; omega, .inl ⟨x, hx', fun hh => hh.pa y hy rfl⟩⟩
      ·have := (hin0.ps z hz).1 y hy
       exact ⟨Nat.lt_of_lt_of_le this.1 bw.size, this.2.1, by omega, fun x' hx' => by cases hx'; simp only; omega, .inl ⟨x, hx', fun hh => (hh.ps z hz).1 y hy rfl⟩⟩
      ·have := (hin0.ps z hz).2 y hy
       exact ⟨Nat.lt_of_lt_of_le this.1 bw.size, this.2.1, by omega, fun x' hx' => by cases hx'; simp only; omega, .inl ⟨x, hx', fun hh => (hh.ps z hz).2 y hy rfl⟩⟩
     ·refine ⟨fun y hy => ⟨by have := fp y hy; have := bW.size; omega, by have := fp y hy; omega, by have := fp y hy; omega, fun x' hx' => by cases hx'; have := fp y hy; simp only; omega, .inr (by have := fp y hy; omega)⟩, fun z hz => ?_⟩
      rcases List.mem_append.1 hz with hz | hz
      ·have hin0 := h.low g hgm
       exact ⟨fun y hy => by
        have := (hin0.ps z hz).1 y hy
        exact ⟨Nat.lt_of_lt_of_le this.1 bw.size, this.2.1, by omega, fun x' hx' => by cases hx'; simp only; omega, .inl ⟨g, hgm, fun hh => (hh.ps z hz).1 y hy rfl⟩⟩, fun y hy => by
        have := (hin0.ps z hz).2 y hy
        exact ⟨Nat.lt_of_lt_of_le this.1 bw.size, this.2.1, by omega, fun x' hx' => by cases hx'; simp only; omega, .inl ⟨g, hgm, fun hh => (hh.ps z hz).2 y hy rfl⟩⟩⟩
      ·rw [List.mem_singleton.1 hz]
       exact ⟨fun y hy => ⟨by have := fqx y hy; have := bW.size; omega, by have := fqx y hy; omega, by have := fqx y hy; omega, fun x' hx' => by cases hx'; have := fqx y hy; simp only; omega, .inr (by have := fqx y hy; omega)⟩, fun y hy => ⟨by have := fqd y hy; have := bW.size; omega, by have := fqd y hy; omega, by have := fqd y hy; omega, fun x' hx' => by cases hx'; have := fqd y hy; simp only; omega, .inr (by have := fqd y hy; omega)⟩⟩) (fun x hx => by
     rcases hL' x hx with hx | rfl
     ·exact h.nm x hx
     ·exact (h.nm g hgm)) (by
    rw [List.length_append]
    have := skipL_len L (j : Int) L.length
    have hfw := h.t.few
    have := skipL_lt L j L.length hj
    simp only [List.length_cons, List.length_nil]
    omega) rfl
    have el : (skipL L (j : Int) L.length ++ [(⟨g.ns, g.nd, g.np, g.ni, g.ps ++ [q], pa2, pc2, g.ends, g.dead⟩ : DgIn)]).length = (skipL L (j : Int) L.length).length + 1 := by rw [List.length_append]; rfl
    rw [el] at f1 f2
    refine ⟨_, c2, _, pk0, none, 0, none, 0, 19, rfl, f1, ?_, rowI_nil _ _, fun _ => rfl, row_nil _ _, fun _ => rfl, f2, f3⟩
    rw [hput]
    unfold takeD
    rw [hlook, if_neg (by show ¬ (g.dead || clashD g.dg.ps _) = true; rw [hd, hcD]; simp), if_neg (by
     show ¬ ((some g.dg : Option Dg).isSome = false ∧ ms ≤ ((L.map DgIn.dg).length : Int) ∨ ro < bytesD (L.map DgIn.dg) + _)
     rw [← lenG_dg]
     rintro (⟨hh, _⟩ | hh)
     ·cases hh
     ·exact hc hh)]
    show doneD _ _ _ _ (follow 65536 ((g.ps.map (·.p)) ++ [_]) 0) = _
    rw [hf]
    have em : (skipL L (j : Int) L.length ++ [(⟨g.ns, g.nd, g.np, g.ni, g.ps ++ [q], pa2, pc2, g.ends, g.dead⟩ : DgIn)]).map DgIn.dg = lessD (nameK ⟨f, ⟨sf, sh, sl⟩, ⟨df, dh, dl⟩, pr, ho, true, id, of, mo, X, D⟩) (L.map DgIn.dg) ++ [⟨nameK ⟨f, ⟨sf, sh, sl⟩, ⟨df, dh, dl⟩, pr, ho, true, id, of, mo, X, D⟩, (g.ps.map (·.p)) ++ [⟨f, ⟨sf, sh, sl⟩, ⟨df, dh, dl⟩, pr, ho, true, id, of, mo, X, D⟩], g.ends, false⟩] := by
     rw [List.map_append, skip_less L (j : Int) _ hkey L.length (Nat.le_refl _), List.take_length, List.map_cons, List.map_nil]
     rw [show DgIn.dg (⟨g.ns, g.nd, g.np, g.ni, g.ps ++ [q], pa2, pc2, g.ends, g.dead⟩ : DgIn) = _ from dg_more (g := g) hke hqp hd]
    show ((⟨ms, ro, li, cl, lessD _ (L.map DgIn.dg) ++ [_]⟩ : Dt), pk0, (19 : Int)) = (⟨ms, ro, li, cl, (skipL L (j : Int) L.length ++ [(⟨g.ns, g.nd, g.np, g.ni, g.ps ++ [q], pa2, pc2, g.ends, g.dead⟩ : DgIn)]).map DgIn.dg⟩, pk0, 19)
    rw [em]
    rfl
   ·intro C hf W sa sc xa2 xc2 da2 dc2 bW hown rx nx rd nd fx fd dU
    have bw : Below w.heap.size w W := b6.trans bW
    have hwl := b6.size
    have hobl : ob < W6.heap.size := by have := (hgb5.kept c6).lt; omega
    obtain ⟨f1, f2, f3⟩ := fin_new (w := w) (W := W) (tb := tb) (ob := ob) (B := W6.heap.size) (L := L) (L' := skipL L (j : Int) L.length) (sa := sa) (sc := sc) (PA := pkV (packD C) xa2 xc2 da2 dc2) dU bw bW.size hwl (by omega) hobl htb hown (fun x hx => dU.t.row.each x (skipL_mem hx)) (fun x hx => by
     have hx' := skipL_mem hx
     have hin0 := h.low x hx'
     refine ⟨fun y hy => ?_, fun z hz => ⟨fun y hy => ?_, fun y hy => ?_⟩⟩
     ·have := hin0.pa y hy
      exact ⟨Nat.lt_of_lt_of_le this.1 bw.size, this.2.1, by omega, fun x' hx' => by have := hown.lt x' hx'; omega, .inl ⟨x, hx', fun hh => hh.pa y hy rfl⟩⟩
     ·have := (hin0.ps z hz).1 y hy
      exact ⟨Nat.lt_of_lt_of_le this.1 bw.size, this.2.1, by omega, fun x' hx' => by have := hown.lt x' hx'; omega, .inl ⟨x, hx', fun hh => (hh.ps z hz).1 y hy rfl⟩⟩
     ·have := (hin0.ps z hz).2 y hy
      exact ⟨Nat.lt_of_lt_of_le this.1 bw.size, this.2.1, by omega, fun x' hx' => by have := hown.lt x' hx'; omega, .inl ⟨x, hx', fun hh => (hh.ps z hz).2 y hy rfl⟩⟩) (fun x hx => h.nm x (skipL_mem hx)) (by
     have := skipL_len L (j : Int) L.length
     have hfw := h.t.few
     omega) rfl
    have bt : But (fun b => b = tb ∨ b = ob) W ((W.setCell ⟨tb, 4, none⟩ (.slice sa (skipL L (j : Int) L.length).length sc)).setRow ob (pkV (packD C) xa2 xc2 da2 dc2)) := ((But.refl _ W).setCell tb 4 (.inl (.inl rfl)) _).setRow ob (.inl (.inr rfl)) _
    have ed : (packD C).dat = C.flatMap (·.dat) := pack_dat C
    refine ⟨sa, sc, _, packD C, xa2, xc2, da2, dc2, 0, rfl, f1, ?_, rx.but bt (fun x hx e => by have := fx x hx; omega), nx, by rw [ed]; exact rd.but bt (fun x hx e => by have := fd x hx; omega), nd, f2, f3⟩
    rw [hput]
    unfold takeD
    rw [hlook, if_neg (by show ¬ (g.dead || clashD g.dg.ps _) = true; rw [hd, hcD]; simp), if_neg (by
     show ¬ ((some g.dg : Option Dg).isSome = false ∧ ms ≤ ((L.map DgIn.dg).length : Int) ∨ ro < bytesD (L.map DgIn.dg) + _)
     rw [← lenG_dg]
     rintro (⟨hh, _⟩ | hh)
     ·cases hh
     ·exact hc hh)]
    show doneD _ _ _ _ (follow 65536 ((g.ps.map (·.p)) ++ [_]) 0) = _
    rw [hf]
    have em : (skipL L (j : Int) L.length).map DgIn.dg = lessD (nameK ⟨f, ⟨sf, sh, sl⟩, ⟨df, dh, dl⟩, pr, ho, true, id, of, mo, X, D⟩) (L.map DgIn.dg) := by
     rw [skip_less L (j : Int) _ hkey L.length (Nat.le_refl _), List.take_length]
    show ((⟨ms, ro, li, cl, lessD _ (L.map DgIn.dg)⟩ : Dt), packD C, (0 : Int)) = (⟨ms, ro, li, cl, (skipL L (j : Int) L.length).map DgIn.dg⟩, packD C, 0)
    rw [em]
  ·intro hc W bW
   refine fin_keep h (b5.trans (bW.mono (Nat.le_refl _))) ?_
   rw [hput]
   unfold takeD
   rw [hlook]
   rw [if_neg (by show ¬ (g.dead || clashD g.dg.ps _) = true; rw [hd, hcD]; simp), if_pos (by
    refine .inr ?_
    show ro < bytesD (L.map DgIn.dg) + _
    rw [← lenG_dg]
    exact hc)]
end Go.Proofs.Ytkeeidfpgfdldaa
