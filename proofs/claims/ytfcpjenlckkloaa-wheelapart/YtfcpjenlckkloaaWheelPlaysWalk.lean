/- A wheel answers every call, in every order, as the document says. -/
import Derived.Test.YtfcpjenlckkloaaWrF
namespace Go.Proofs.Ytfcpjenlckkloaa
open Go.RowKit
set_option linter.unusedVariables false
set_option linter.unusedSimpArgs false

theorem load_blk {W : World} {g : Nat} {t : TypeId} {cs : Array Value} (h : Blk W g t cs) {fs : _} (hu : Try.prog.underlying t = some (.struct fs)) (hi : (Try.prog.info? t).map (·.size) = some cs.size) :
    (loadVar t ⟨g, 0, none⟩).run Try.prog W = .ok (.agg cs) W := run_loadVar_row W g t t cs (0, 0) (.struct fs) h hu rfl hi
theorem ret_cell_tmp {R : Ending → World → Prop} {a : Act} {w : World} {g k j : Nat} {t : TypeId} {cs : Array Value} {v : Value} (fn : Func) (hf : fn.results = #[.cell k t, .tmp j]) (h : Blk w g t cs) {fs : _} (hu : Try.prog.underlying t = some (.struct fs)) (hi : (Try.prog.info? t).map (·.size) = some cs.size)
    (h2 : a.tmps[k]?.getD undef = .pointer (some ⟨g, 0, none⟩)) (h3 : a.tmps[j]?.getD undef = v) (hdf : a.defers = []) (hR : R (.returned (.tuple #[.agg cs, v])) w) : bodyPost Try.prog fn R .ret a w := by
  refine bodyPost_ret (v := .tuple #[.agg cs, v]) ?_ hdf hR
  have hl := load_blk h hu hi
  simp [results, hf, h2, h3, asAddr, hl, Array.mapM_eq_mapM_toList]
/-- What the document's New answers. -/
def rnN (now : Int) : Int := if rtB now = true then now else 0
def rnR (now : Int) : Int := if rtB now = true then 0 else 25
set_option maxRecDepth 100000 in
set_option maxHeartbeats 2000000 in
theorem rnew_any (now : Int) (w : World) : Calls Try.prog 10 #[.int .i64 now] w fun e w' => e = .returned (.tuple #[.agg #[.int .i64 (rnN now), .slice none 0 0], .int .i64 (rnR now)]) ∧ Below w.heap.size w w' := by
  have hz : w.heap.size = w.heap.size := rfl
  obtain ⟨W1, hW1⟩ : ∃ W, w.alloc (.cells #[.int .i64 0, .slice none 0 0] 29) = W := ⟨_, rfl⟩
  have b1 : Blk W1 w.heap.size 29 #[.int .i64 0, .slice none 0 0] := hW1 ▸ blk_new w _ _
  have k1 : Below w.heap.size w W1 := hW1 ▸ (Below.refl _ _).alloc (Nat.le_refl _) _
  have e0 := b1.cell 0 _ rfl
  have e1 := b1.cell 1 _ rfl
  have f0 := b1.frozen 0
  have f1 := b1.frozen 1
  unfold rnN rnR
  by_cases hr : rtB now = true
  · rw [if_pos hr, if_pos hr]
    have hb : ¬ now < 0 ∧ ¬ 4611686018427387904 < now := by simp [rtB] at hr; omega
    obtain ⟨y1, y2⟩ := hb
    clear hr
    go_enter Try.func10, Try.ntmps10
    go_wp2
    refine ret_cell_tmp Try.f10 rfl ((b1.put 0 (.int .i64 now)).put 1 (.slice none 0 0)) Try.underlying29 (by kernel_rfl) rfl rfl rfl ⟨rfl, ?_⟩
    exact (((But.refl (fun k => k = w.heap.size) W1).setCell w.heap.size 0 (.inl rfl) _).setCell w.heap.size 1 (.inl rfl) _).to_below k1.size (fun k hk e => by omega) |> k1.trans
  · rw [if_neg hr, if_neg hr]
    have hb : now < 0 ∨ 4611686018427387904 < now := by simp [rtB] at hr; omega
    clear hr
    rcases Int.lt_or_le now 0 with y | y
    · clear hb
      go_enter Try.func10, Try.ntmps10
      go_wp2
      refine ret_cell_tmp Try.f10 rfl ((b1.put 0 (.int .i64 0)).put 1 (.slice none 0 0)) Try.underlying29 (by kernel_rfl) rfl rfl rfl ⟨rfl, ?_⟩
      exact (((But.refl (fun k => k = w.heap.size) W1).setCell w.heap.size 0 (.inl rfl) _).setCell w.heap.size 1 (.inl rfl) _).to_below k1.size (fun k hk e => by omega) |> k1.trans
    · have y2 : 4611686018427387904 < now := by omega
      have y3 : ¬ now < 0 := by omega
      clear hb
      go_enter Try.func10, Try.ntmps10
      go_wp2
      refine ret_cell_tmp Try.f10 rfl ((b1.put 0 (.int .i64 0)).put 1 (.slice none 0 0)) Try.underlying29 (by kernel_rfl) rfl rfl rfl ⟨rfl, ?_⟩
      exact (((But.refl (fun k => k = w.heap.size) W1).setCell w.heap.size 0 (.inl rfl) _).setCell w.heap.size 1 (.inl rfl) _).to_below k1.size (fun k hk e => by omega) |> k1.trans
/-- The document's wheel laid. -/
structure Laid (w Wz W3 : World) (now : Int) : Prop where
  rf : Rf W3 w.heap.size (fun k => k = w.heap.size) now []
  bel : Below w.heap.size w W3
  e0 : Wz.cell? ⟨w.heap.size, 0, none⟩ = some (.int .i64 0)
  e1 : Wz.cell? ⟨w.heap.size, 1, none⟩ = some (.slice none 0 0)
  f0 : Wz.frozen? ⟨w.heap.size, 0, none⟩ = false
  f1 : Wz.frozen? ⟨w.heap.size, 1, none⟩ = false
  s0 : (Wz.setCell ⟨w.heap.size, 0, none⟩ (.int .i64 now)).cell? ⟨w.heap.size, 1, none⟩ = some (.slice none 0 0)
theorem rf_new {w Wz W3 : World} {now : Int} (hz : w.alloc (.cells #[.int .i64 0, .slice none 0 0] 29) = Wz) (h3 : (Wz.setCell ⟨w.heap.size, 0, none⟩ (.int .i64 now)).setCell ⟨w.heap.size, 1, none⟩ (.slice none 0 0) = W3) : Laid w Wz W3 now := by
  have b1 : Blk Wz w.heap.size 29 #[.int .i64 0, .slice none 0 0] := hz ▸ blk_new w _ _
  have b2 := b1.put 0 (.int .i64 now)
  have b3 := b2.put 1 (.slice none 0 0)
  rw [h3] at b3
  have bu : But (fun _ => False) w W3 := by
    rw [← h3, ← hz]
    exact (((But.refl (fun _ => False) w).alloc _).setCell _ 0 (.inr (Nat.le_refl _)) _).setCell _ 1 (.inr (Nat.le_refl _)) _
  have nb : ∀ k, ¬ AtB none k := fun k ⟨x, hx, _⟩ => by cases hx
  have hlt := b3.lt
  exact ⟨⟨⟨none, 0, ⟨b3, fun h => by simp at h, by simp, by simp, fun _ => rfl, nb _, fun k hk => absurd hk (nb k), fun x hx => by cases hx⟩, rfl, fun k hk => absurd hk (nb k)⟩, fun k hk => by rw [hk]; exact hlt⟩, bu.to_below (Nat.le_refl _) (fun _ _ x => x), b1.cell 0 _ rfl, b1.cell 1 _ rfl, b1.frozen 0, b1.frozen 1, b2.cell 1 _ rfl⟩
set_option maxRecDepth 100000 in
set_option maxHeartbeats 4000000 in
theorem wheelPlays_walk (now : Int) (sa : Option Addr) (sc : Nat) (S : List Ac) (w : World) (hw : (Lit.int .i64 now).wf = true) (slc : S.length ≤ sc) (scm : sc ≤ 17592186044416) (hS : RowA w sa S) :
    Calls Try.prog 3 #[.int .i64 now, .slice sa S.length sc] w fun e w' => e = .returned (.bool true) ∧ Below w.heap.size w w' := by
  have HS := hidW hS
  clear hS hw
  by_cases hr : rtB now = true
  · have k0 := hidW (new_w now w hr)
    have hN : rnN now = now := by unfold rnN; rw [if_pos hr]
    have hR : rnR now = 0 := by unfold rnR; rw [if_pos hr]
    go_enter Try.func3, Try.ntmps3
    go_wp2_with fail
    refine Calls.mono k0.out ?_
    rintro e w1 ⟨F, g, rfl, n1⟩
    have k1 := hidW (rnew_any now w1)
    rw [hN, hR] at k1
    clear k0 hN hR
    go_wp2_with fail
    refine Calls.mono k1.out ?_
    rintro e w2 ⟨rfl, b2⟩
    have n2 := n1.below b2
    obtain ⟨Wz, hWz⟩ : ∃ W, w2.alloc (.cells #[.int .i64 0, .slice none 0 0] 29) = W := ⟨_, rfl⟩
    obtain ⟨W3, hW3⟩ : ∃ W, (Wz.setCell ⟨w2.heap.size, 0, none⟩ (.int .i64 now)).setCell ⟨w2.heap.size, 1, none⟩ (.slice none 0 0) = W := ⟨_, rfl⟩
    obtain ⟨rf3, b3, e0, e1, f0, f1, s0⟩ := rf_new hWz hW3
    have pl3 : Pl w W3 g w2.heap.size F (fun k => k = w2.heap.size) now [] now [] := ⟨n2.below b3, rf3, fun k hk => by rw [hk]; exact n2.bel.size, fun k x e => by have := n2.whl.lt k x; omega⟩
    have ka := hidW (alive_any W3)
    have P3 := hidW pl3
    clear k1 n1 n2 b2 b3 pl3 rf3
    go_wp2_with fail
    refine Calls.mono ka.out ?_
    rintro e w4 ⟨rfl, b4⟩
    have P4 := hidW (P3.out.below b4)
    clear ka P3 b4 e0 e1 f0 f1 s0 hWz hW3
    obtain ⟨gr, hgr⟩ : ∃ gr, w2.heap.size = gr := ⟨_, rfl⟩
    rw [hgr] at P4
    go_wp2_with fail
    clear hgr
    go_loopw [39] (fun i wr => ∃ (k : Nat) (F G : Nat → Prop) (now : Int) (E : List M.Ent), k ≤ S.length ∧ i = .int .i64 k ∧ Hid (Pl w wr g gr F G now E now E)) (fun i _ => S.length - (intOf i).toNat)
    case atStart => exact ⟨0, F, _, now, [], by omega, rfl, P4⟩
    case round =>
      clear P4
      obtain ⟨k, F, G, now, E, hk, rfl, pl⟩ := hrel
      by_cases hlt : k < S.length
      · obtain ⟨q, hq⟩ : ∃ q, S[k]? = some q := ⟨_, List.getElem?_eq_getElem hlt⟩
        obtain ⟨b, off, rfl, hbl, c0, c1, c2⟩ := (HS.out.below pl.out.wh.bel).cells k q hq
        obtain ⟨o0, o1, o2⟩ := HS.out.ok q (List.mem_of_getElem? hq)
        have i1 : (↑k : Int) < ↑S.length := by omega
        have i0 : (0 : Int) ≤ ↑k := by omega
        obtain ⟨W1, hW1⟩ : ∃ W1, wr.alloc (.cells #[.int .i64 q.kind, .int .i64 q.id, .int .i64 q.at_] 34) = W1 := ⟨_, rfl⟩
        have bB : Blk W1 wr.heap.size 34 #[.int .i64 q.kind, .int .i64 q.id, .int .i64 q.at_] := hW1 ▸ blk_new wr _ _
        have p1 := pl.out.below (hW1 ▸ (Below.refl _ _).alloc (Nat.le_refl _) _ : Below wr.heap.size wr W1)
        have e0 := bB.cell 0 _ rfl
        have e1 := bB.cell 1 _ rfl
        have e2 := bB.cell 2 _ rfl
        have kd := hidW (does_any w W1 g gr F G now E p1 q o1)
        clear p1 bB pl
        go_wp2_with fail
        refine Calls.mono kd.out ?_
        rintro e w5 ⟨rfl, F', G', now', E', dn⟩
        have ks := hidW (stands_any w w5 g gr F' G' now' E' dn.pl)
        have p5 := hidW (dn.pl.below (Below.refl w5.heap.size w5).drew)
        clear kd dn
        go_wp2_with fail
        refine Calls.mono ks.out ?_
        rintro e W' ⟨rfl, hW'⟩
        rw [hW']
        clear hW' W' ks
        go_wp2
        exact ⟨⟨k + 1, F', G', now', E', by omega, int_eq (by omega), p5⟩, by simp [intOf] <;> omega⟩
      · have i1 : ¬ (↑k : Int) < ↑S.length := by omega
        have b8 := pl.out.wh.bel
        go_wp2
        go_ret
        exact ⟨rfl, b8⟩
  · have hr' : rtB now = false := by simpa using hr
    have k0 := hidW (new_n now w hr')
    have hR : rnR now = 25 := by unfold rnR; rw [if_neg hr]
    have k1 := hidW (rnew_any now w)
    rw [hR] at k1
    generalize rnN now = NN at *
    clear hr hr' hR
    go_enter Try.func3, Try.ntmps3
    go_wp2_with fail
    refine Calls.mono k0.out ?_
    rintro e W' ⟨rfl, hW'⟩
    rw [hW']
    clear hW' W' k0
    go_wp2_with fail
    refine Calls.mono k1.out ?_
    rintro e w2 ⟨rfl, b2⟩
    obtain ⟨Wz, hWz⟩ : ∃ W, w2.alloc (.cells #[.int .i64 0, .slice none 0 0] 29) = W := ⟨_, rfl⟩
    obtain ⟨W3, hW3⟩ : ∃ W, (Wz.setCell ⟨w2.heap.size, 0, none⟩ (.int .i64 NN)).setCell ⟨w2.heap.size, 1, none⟩ (.slice none 0 0) = W := ⟨_, rfl⟩
    obtain ⟨-, b3, e0, e1, f0, f1, s0⟩ := rf_new hWz hW3
    have ka := hidW (alive_any W3)
    clear k1
    go_wp2_with fail
    refine Calls.mono ka.out ?_
    rintro e w4 ⟨rfl, b4⟩
    have bb : Below w.heap.size w w4 := b2.trans ((b3.trans (b4.mono b3.size)).mono b2.size)
    clear ka
    go_wp2
    go_ret
    exact ⟨rfl, bb⟩
end Go.Proofs.Ytfcpjenlckkloaa
