/- Tick: what is due is sorted. -/
import Derived.Test.YtfcpjenlckkloaaWhN
import Derived.Shelf.SlSortCmp.Whole1
import Derived.Sort.OwnSortedInts
namespace Go.Proofs.Ytfcpjenlckkloaa
open Go.RowKit
set_option linter.unusedVariables false
set_option linter.unusedSimpArgs false

/-! ### sorting nothing -/
theorem insertion_nil (a : Option Addr) (c : Nat) (f : Value) (w : World) : Calls Try.prog 47 #[.slice a 0 c, .int .i64 0, .int .i64 0, f] w fun e w' => e = .returned (.tuple #[]) ∧ w' = w := by
  go_enter Try.func47, Try.ntmps47
  go_wp2
  go_loopw [8] (fun i wr => i = .int .i64 1 ∧ wr = w) (fun _ _ => 0)
  case atStart => exact ⟨rfl, rfl⟩
  case round =>
    obtain ⟨rfl, rfl⟩ := hrel
    go_wp2
    go_end0
    exact ⟨rfl, rfl⟩
set_option maxHeartbeats 2000000 in
theorem pdq_nil (a : Option Addr) (c : Nat) (l : Int) (f : Value) (w : World) : Calls Try.prog 42 #[.slice a 0 c, .int .i64 0, .int .i64 0, .int .i64 l, f] w fun e w' => e = .returned (.tuple #[]) ∧ w' = w := by
  have K := insertion_nil a c f w
  go_enter Try.func42, Try.ntmps42
  go_wp2
  refine wp_loop_rounds 1 ?_
  rw [rounds_succ]
  go_wp2_with fail
  refine Calls.mono K ?_
  rintro e w' ⟨rfl, rfl⟩
  go_wp2
  refine bodyPost_ret (results_none rfl _ _ _) rfl ?_
  exact ⟨rfl, rfl⟩
set_option maxHeartbeats 2000000 in
theorem sort_nil (a : Option Addr) (c : Nat) (f : Value) (w : World) : Calls Try.prog 32 #[.slice a 0 c, f] w fun e w' => e = .returned (.tuple #[]) ∧ w' = w := by
  have K0 := Try.bits_Len64 0 w (by omega) (by omega)
  have K : Calls Try.prog 43 #[.int .u64 0] w fun e w' => e = .returned (.int .i64 (Lib.bitLen 0 : Nat)) ∧ w' = w := by
    go_enter Try.func43, Try.ntmps43
    go_wp2_with fail
    refine Calls.mono K0 ?_
    rintro e w' ⟨rfl, rfl⟩
    go_wp2
    go_ret
    exact ⟨rfl, rfl⟩
  have K2 := pdq_nil a c ((Lib.bitLen 0 : Nat) : Int) f w
  generalize ((Lib.bitLen 0 : Nat) : Int) = L at K K2
  clear K0
  go_enter Try.func32, Try.ntmps32
  go_wp2_with fail
  refine Calls.mono K ?_
  rintro e w' ⟨rfl, rfl⟩
  go_wp2_with fail
  refine Calls.mono K2 ?_
  rintro e w' ⟨rfl, rfl⟩
  go_wp2
  go_end0
  exact ⟨rfl, rfl⟩
/-- A number, as an element of what is sorted. -/
abbrev Id64 : Type := BitVec 64
def idv (x : Id64) : Int := x.toInt
theorem idv_ok (x : Id64) : In64 (idv x) := by
  have h1 := BitVec.le_toInt x
  have h2 := BitVec.toInt_lt (x := x)
  unfold idv In64
  constructor <;> omega
theorem idv_of {x : Int} (h : In64 x) : idv (BitVec.ofInt 64 x) = x := by
  obtain ⟨h1, h2⟩ := h
  unfold idv
  rw [BitVec.toInt_ofInt]
  simp only [Int.bmod]
  split <;> omega
def encD (x : Id64) : Value := .int .i64 (idv x)
theorem mem_get! {d : Array Id64} {j : Nat} (hj : j < d.size) : (d.map idv)[j]! = idv (d[j]!) := by
  rw [getElem!_pos _ j (by simpa using hj), getElem!_pos _ j hj]
  simp
theorem putCells_D (off : Nat) (d : Array Id64) (c : Array Value) : Sort.putCells encD off d c = Sort.putCells (Value.int .i64) off (d.map idv) c := by
  unfold Sort.putCells
  apply Array.ext
  · simp
  · intro i h1 h2
    simp only [Array.getElem_mapIdx, Array.size_map]
    by_cases h : off ≤ i ∧ i < off + d.size
    · rw [if_pos h, if_pos h, mem_get! (by omega)]
      rfl
    · rw [if_neg h, if_neg h]
theorem sortWorld_D (w : World) (blk off n : Nat) (d : Array Id64) (os : Array Obj) : sortWorld encD w blk off n d os = Sort.grow (Sort.putRow (Value.int .i64) (Sort.ahead w n) blk off (d.map idv)) os := by
  unfold sortWorld Sort.putRow
  congr 2
  funext c
  exact putCells_D off d c
theorem but_sort (w : World) (g n : Nat) (d : Array Id64) (os : Array Obj) : But (fun k => k = g) w (sortWorld encD w g 0 n d os) := by
  rw [sortWorld_D]
  exact (But.refl (fun k => k = g) w).grown (grownBy_sortedI _) (fun n hn => by cases hn; exact .inl rfl)
theorem swo (E : List M.Ent) : Sort.SWO (ltOf (fun x y : Id64 => cfE E (idv x) (idv y))) where
  irrefl x := by
    unfold ltOf
    rw [decide_eq_false_iff_not, cfE_lt]
    unfold M.ltE
    omega
  trans x y z h1 h2 := by
    unfold ltOf at *
    rw [decide_eq_true_eq, cfE_lt] at *
    unfold M.ltE at *
    omega
  ntrans x y z h1 h2 := by
    unfold ltOf at *
    rw [decide_eq_false_iff_not, cfE_lt] at *
    unfold M.ltE at *
    omega
theorem ex_D : ∀ (l : List Int), (∀ x ∈ l, In64 x) → ∃ d : Array Id64, d.toList.map idv = l
  | [], _ => ⟨#[], rfl⟩
  | x :: l, h => by
    obtain ⟨d, hd⟩ := ex_D l (fun y hy => h y (by simp [hy]))
    exact ⟨((BitVec.ofInt 64 x : Id64) :: d.toList).toArray, by simp [hd, idv_of (h x (by simp))]⟩
theorem sort_due (W : World) (g m bx : Nat) (to : Int) (E : List M.Ent) (D : Sl) (hE : M.Ok E) (hd : D.own W) (hn : D.ids.Nodup) (hmem : ∀ x, x ∈ D.ids ↔ ∃ t, (x, t) ∈ E ∧ t ≤ to) (hl : D.ids.length ≤ 1024)
    (h0 : W.cell? ⟨bx, 0, none⟩ = some (.pointer (some ⟨g, 0, none⟩))) (h1 : W.cell? ⟨g, 2, none⟩ = some (.map (some m))) (hm : MapT W m E) (nb : ¬ D.at_ bx) (ng : ¬ D.at_ g) (nm : ¬ D.at_ m) :
    Calls Try.prog 32 #[D.v, .func (.func 33) #[] #[.pointer (some ⟨bx, 0, none⟩)]] W fun e w' => e = .returned (.tuple #[]) ∧ Sl.own w' ⟨D.a, D.c, (M.dueE E to).map (·.1)⟩ ∧ (M.dueE E to).length = D.ids.length ∧ But (fun k => D.at_ k) W w' := by
  have hbd : ∀ x ∈ D.ids, In64 x := fun x hx => by
    obtain ⟨t, h2, _⟩ := (hmem x).1 hx
    have := hE.bnd _ h2
    exact ⟨this.2.2.1, this.2.2.2⟩
  rcases hd.cases with ⟨n1, n2, n3⟩ | ⟨gd, cur, n1, n2, n3, n4, n5, n6⟩
  · have hnil : (M.dueE E to).map (·.1) = [] := by
      rw [← hE.due_uniq to hn hmem (by rw [n3]; exact .nil), n3]
    have hv : D.v = .slice D.a 0 D.c := by simp [Sl.v, n3]
    rw [hv]
    refine (sort_nil D.a D.c _ W).mono ?_
    rintro e w' ⟨rfl, rfl⟩
    rw [hnil]
    refine ⟨rfl, ?_, ?_, But.refl _ _⟩
    · have := hd
      unfold Sl.own at this ⊢
      rw [n3] at this
      simpa [Sl.v, n3] using this
    · rw [n3]
      simpa using congrArg List.length hnil
  · obtain ⟨d, hdl⟩ := ex_D D.ids hbd
    have hdm : d.map idv = D.ids.toArray := by
      apply Array.ext'
      rw [Array.toList_map, hdl]
    have hds : d.size = D.ids.length := by rw [← hdl]; simp
    have hH : Sort.Holds encD W gd 0 d := fun j hj => by
      have := holds_of_blockI n2 n6 j (by rw [← hdm]; simpa using hj)
      rw [← hdm, mem_get! hj] at this
      exact this
    have hv : D.v = .slice (some ⟨gd, 0, none⟩) d.size D.c := by simp only [Sl.v, n1, hds]
    have hat : ∀ k, k = gd → D.at_ k := fun k e => ⟨_, n1, e.symm⟩
    rw [hv]
    refine (Try.slices_SortFunc encD (fun _ => rfl) (fun x y => cfE E (idv x) (idv y)) (swo E) 33 #[.pointer (some ⟨bx, 0, none⟩)] gd 0 D.c d W Try.call33 ?_ hH (Array.getElem?_eq_some_iff.1 n2).1 (by omega)).mono ?_
    · intro n os dk hk x y
      have b := but_sort W gd n dk os
      refine (less_any bx g m E (idv x) (idv y) (idv_ok x) (idv_ok y) _ (b.cell (fun e => nb (hat _ e)) h0) (b.cell (fun e => ng (hat _ e)) h1) (hm.but b (fun e => nm (hat _ e)))).mono ?_
      rintro e w' ⟨rfl, X, rfl⟩
      exact ⟨rfl, 1, #[X], rfl⟩
    · rintro e w' ⟨rfl, d', n, os, hp, hs, rfl⟩
      have hsz : d'.size = D.ids.length := hp.1.trans hds
      have hl1 : (d'.map idv).toList.Perm D.ids := by
        have h2 := hp.2.2
        rw [hds] at h2
        have e1 : d'.extract 0 D.ids.length = d' := by rw [← hsz]; simp
        have e2 : d.extract 0 D.ids.length = d := by rw [← hds]; simp
        rw [e1, e2] at h2
        have h3 := h2.map idv
        rw [hdl] at h3
        simpa using h3
      have huniq : (d'.map idv).toList = (M.dueE E to).map (·.1) := by
        refine hE.due_uniq to (hl1.nodup_iff.2 hn) (fun x => (hl1.mem_iff).trans (hmem x)) ?_
        rw [List.pairwise_iff_getElem]
        intro i j hi hj hij
        have hi' : i < d'.size := by simpa using hi
        have hj' : j < d'.size := by simpa using hj
        have := hs i j (Nat.zero_le _) hij (by omega)
        unfold ltOf at this
        rw [decide_eq_false_iff_not, cfE_lt, getElem!_pos d' i hi', getElem!_pos d' j hj'] at this
        simpa using this
      refine ⟨rfl, ?_, ?_, (but_sort W gd n d' os).mono (fun k _ e => hat k e)⟩
      · rw [sortWorld_D, ← huniq]
        have o := ownsRow_sortedI (base := 0) (n := n) (os := os) (ss := D.ids) (ts := (d'.map idv).toList) (by simpa using hsz) (Nat.zero_le _) n2 n3 n4 (by omega)
        unfold Sl.own
        have hlen : (d'.map idv).toList.length = D.ids.length := by simpa using hsz
        show World.ownsRow _ 0 _ 1 (.slice D.a (d'.map idv).toList.length D.c) _ _
        rw [hlen, n1]
        rw [Array.toArray_toList] at o
        exact o
      · have := congrArg List.length huniq
        simp at this
        omega
end Go.Proofs.Ytfcpjenlckkloaa
