/- Texts joined: FrI -/
import Derived.Test.YtmfgjicfdjjihaaGreatDoorLxa7
namespace Go.Proofs.YtmfgjicfdjjihaaGreatDoor
open Go.RowKit
set_option linter.unusedVariables false
set_option linter.unusedSimpArgs false
set_option maxRecDepth 100000 in
set_option maxHeartbeats 4000000 in
theorem rfind_any (a : Option Addr) (c : Nat) (l : List Rl) (k : Ky) (w : World) (hl : l.length ≤ 17592186044416) (hrow : RowR w a l) (ko : k.ok) :
  Calls Tryz.prog 16 #[.slice a l.length c, .agg k.v] w fun e w' => e = .returned (.tuple #[.int .i64 (fIdx (findL l k)), .bool (findL l k).isSome]) ∧ Below w.heap.size w w' := by
 have hs2 := info_ky k
 have hsr : Hid (∀ r : Rl, (Tryz.prog.info? 82).map (·.size) = some r.v.size) := info_rl
 have K1 : Hid (∀ r : Rl, r.ok → ∀ W, Calls Tryz.prog 42 #[.agg r.v, .agg k.v] W fun e w' => e = .returned (.bool (r.takes k)) ∧ Below W.heap.size W w') := fun r h W => rtakes_any r k W h ko
 obtain ⟨F, hF⟩ : ∃ F, findL l k = F := ⟨_, rfl⟩
 have HF : Hid (findL l k = F) := hF
 rw [hF]
 obtain ⟨N, hN⟩ : ∃ N, l.length = N := ⟨_, rfl⟩
 have HN : Hid (l.length = N) := hN
 rw [hN] at hl ⊢
 have HRow : Hid (RowR w a l) := hrow
 clear hF hN hrow ko
 generalize hKA : k.v = KA at *
 clear hKA
 obtain ⟨W1, hW1⟩ : ∃ W1, w.alloc (.cells KA 33) = W1 := ⟨_, rfl⟩
 have hk : CellsAt W1 w.heap.size 0 KA := (blk_nw hW1).at_
 have bel : Below w.heap.size w W1 := bel_nw hW1
 go_enter Tryz.func16, Tryz.ntmps16
 go_wp2_with fail
 go_loopw [6] (fun i wr => ∃ (n : Nat), n ≤ N ∧ i = .int .i64 n ∧ Below W1.heap.size W1 wr ∧ Hid (∀ (j : Nat) (r : Rl), j < n → l[j]? = some r → r.takes k = false)) (fun i _ => N - (intOf i).toNat)
 case atStart => exact ⟨0, Nat.zero_le _, rfl, Below.refl _ _, fun j p hj => by omega⟩
 case round =>
  obtain ⟨n, hn, rfl, bw, qe⟩ := hrel
  by_cases hlt : n < N
  ·have ik : (n : Int) < (N : Int) := by omega
   have in0 : (0 : Int) ≤ (n : Int) := by omega
   obtain ⟨r, hr⟩ : ∃ r, l[n]? = some r := ⟨_, List.getElem?_eq_getElem (by rw [HN.out]; exact hlt)⟩
   have HR : Hid (l[n]? = some r) := hr
   have ho := HRow.out.each r (List.mem_of_getElem? hr)
   obtain ⟨b, off, ha, hc⟩ := ((HRow.out.low bel).low bw).cells n r hr
   subst ha
   have KY : Hid _ := K1.out r ho
   have hs1 := hsr.out r
   have hkw := hk.below bw
   clear hr ho
   generalize r.v = RA at hs1 hc KY
   obtain ⟨A, hA⟩ : ∃ A, r.takes k = A := ⟨_, rfl⟩
   rw [hA] at KY
   have HAA : Hid (r.takes k = A) := hA
   clear hA
   go_wp2_with fail
   refine wp_region_noPanic ?_
   refine wp_region_held_drew (S := fun w'' => CellsAt w'' b (off + n * 17) RA ∧ CellsAt w'' w.heap.size 0 KA) (by kernel_rfl) (by exact ⟨hc.below (below_drew _), hkw.below (below_drew _)⟩) (fun hHeld => ?_)
   refine qtk (i := 0) (oi := { dst := some 13, op := Op.move (.tmp 0), type := 40, pos := "ref.go:42", after := #[], guard := none }) (v := (.slice (some ⟨b, off, none⟩) N c)) hHeld ?_ ?_
   ·intro w9 hSw
    try dsimp only at hSw
    go_simp
   try simp only [qpu]
   refine qtk (i := 1) (oi := { dst := some 14, op := Op.move (.tmp 6), type := 3, pos := "ref.go:42", after := #[], guard := none }) (v := (.int .i64 n)) hHeld ?_ ?_
   ·intro w9 hSw
    try dsimp only at hSw
    go_simp
   try simp only [qpu]
   refine qtk (i := 2) (oi := { dst := some 15, op := Op.indexAddr 40 (.tmp 13) (.tmp 14), type := 0, pos := "ref.go:42", after := #[{ on := 0, ground := Ground.data }, { on := 1, ground := Ground.data }], guard := none }) (v := (.pointer (some ⟨b, off + n * 17, none⟩))) hHeld ?_ ?_
   ·intro w9 hSw
    try dsimp only at hSw
    go_simp
   try simp only [qpu]
   refine qty (i := 3) (oi := { dst := some 16, op := Op.load 82 (.tmp 15), type := 82, pos := "ref.go:42", after := #[{ on := 2, ground := Ground.data }], guard := none }) (v := (.agg RA)) (yieldsIf_at (by rfl) _ _ rfl b (off + n * 17) (by rfl) _ (fun _ h => h.1) Tryz.underlying82 hs1) hHeld ?_
   try simp only [qpu]
   refine qty (i := 4) (oi := { dst := some 17, op := Op.load 33 (.tmp 3), type := 33, pos := "ref.go:42", after := #[], guard := none }) (v := (.agg KA)) (yieldsIf_at (by rfl) _ _ rfl w.heap.size 0 (by rfl) _ (fun _ h => h.2) Tryz.underlying33 hs2) hHeld ?_
   try simp only [qpu]
   refine wpAnyH_ready (rs := [5]) (by kernel_rfl) (by simp) ?_
   refine AllReadyH.cons (o := { dst := some 18, op := Op.call { callee := Callee.value (.func 42), args := #[.tmp 16, .tmp 17], argTypes := #[82, 33] }, type := 4, pos := "ref.go:42", after := #[{ on := 3, ground := Ground.data }, { on := 4, ground := Ground.data }], guard := none }) rfl (fun K hK => ?_) AllReadyH.nil
   go_simp
   refine Calls.mono (KY.out _) ?_
   rintro e W3 ⟨rfl, bb⟩
   have bw3 := bel_tr (bel_tr bw (below_drew _)) bb
   refine hK.out _ _ ?_ (fun hHeld => ?_)
   ·exact ⟨(hc.below (below_drew _)).below bb, (hkw.below (below_drew _)).below bb⟩
   clear hK K
   try simp only [qpu]
   refine wpAnyH_done (by kernel_rfl) ?_ _
   refine NoPanic.normal ?_

   clear KY bb bw hc hkw hHeld
   cases A
   ·have HN' : Hid (∀ (j : Nat) (r : Rl), j < n + 1 → l[j]? = some r → r.takes k = false) := fun j q hj hp => by
     by_cases e : j = n
     ·subst e
      rw [HR.out] at hp
      cases hp
      exact HAA.out
     ·exact qe.out j q (by omega) hp
    clear qe
    go_wp2_with fail
    exact ⟨⟨n + 1, by omega, by go_num, bw3, HN'⟩, by simp [intOf]; omega⟩
   ·have e : F = some n := by
     rw [← HF.out]
     exact findL_some qe.out HR.out HAA.out
    subst e
    clear qe
    go_wp2_with fail
    exact bodyPost_ret (v := .tuple #[.int .i64 n, .bool true]) (by simp [results, Tryz.results16, go_sem]) rfl ⟨rfl, bel_tr bel bw3⟩
  ·have ik : ¬ (n : Int) < (N : Int) := by omega
   have e : F = none := by
    rw [← HF.out]
    refine findL_none fun j r hj => qe.out j r ?_ hj
    have := (List.getElem?_eq_some_iff.1 hj).1
    have := HN.out
    omega
   subst e
   clear qe
   go_wp2_with fail
   exact bodyPost_ret (v := .tuple #[.int .i64 (-1), .bool false]) (by simp [results, Tryz.results16, go_sem]) rfl ⟨rfl, bel_tr bel bw⟩
end Go.Proofs.YtmfgjicfdjjihaaGreatDoor
