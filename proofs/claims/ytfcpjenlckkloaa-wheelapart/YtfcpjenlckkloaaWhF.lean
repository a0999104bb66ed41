/- putIn and takeOut. -/
import Derived.Test.YtfcpjenlckkloaaWhE
import Derived.Sort.OwnSortedInts
namespace Go.Proofs.Ytfcpjenlckkloaa
open Go.RowKit
set_option linter.unusedVariables false
set_option linter.unusedSimpArgs false

theorem info_i64 : (Try.prog.info? 3).map (fun i => (i.zero, i.size, i.bytes)) = some (some (.int .i64 0), 1, 8) := by kernel_rfl
theorem infoParts {P : Program} {e : TypeId} {z : Value} {size bytes : Nat} (h : (P.info? e).map (fun i => (i.zero, i.size, i.bytes)) = some (some z, size, bytes)) : ∃ i, P.info? e = some i ∧ i.zero = some z ∧ i.size = size ∧ i.bytes = bytes := by
  cases hi : P.info? e with
  | none => rw [hi] at h; cases h
  | some i =>
    rw [hi] at h
    simp only [Option.map_some, Option.some.injEq, Prod.mk.injEq] at h
    exact ⟨i, rfl, h.1, h.2.1, h.2.2⟩
theorem ownBlock_sl {w : World} {s : Sl} (h : s.own w) : s.v.ownBlock = s.a.map (·.block) := by
  show (Value.slice s.a s.ids.length s.c).ownBlock = _
  cases s.a <;> rfl
theorem hidW {p : Prop} (h : p) : Hid p := h
/-- What putIn leaves. -/
structure Put (w w' : World) (g m : Nat) (now : Int) (E : List M.Ent) (sl : List Sl) (k : Nat) (s s' : Sl) : Prop where
  wm : Wm w' g m now E (sl.set k s')
  but : But (fun j => j = g ∨ s.at_ j) w w'
  at_ : ∀ j, s'.at_ j → s.at_ j ∨ w.heap.size ≤ j
set_option maxHeartbeats 4000000 in
theorem putIn_any (w : World) (g m : Nat) (now : Int) (E : List M.Ent) (sl : List Sl) (h : Wm w g m now E sl) (id t : Int) (hi : In64 id) (ht : M.tm E id = some t) (s : Sl) (hs : sl[M.slot now t]? = some s) (hl : s.ids.length ≤ 1048576) :
    Calls Try.prog 30 #[.pointer (some ⟨g, 0, none⟩), .int .i64 id] w fun e w' => e = .returned (.tuple #[]) ∧ ∃ a c, Put w w' g m now E sl (M.slot now t) s ⟨a, c, s.ids ++ [id]⟩ := by
  have hb := h.ok.bnd _ ((h.ok.tm_iff id t).1 ht)
  have c1 := h.blk.cell 1 _ (wc_1 ..)
  have c2 := h.blk.cell 2 _ (wc_2 ..)
  have L := h.map.look1 hi
  rw [ht] at L
  simp only [Option.getD_some] at L
  have K := slot_any g now t w c1 h.now0 h.now1 hb.2.1
  have hd := h.drew
  obtain ⟨B, hB⟩ : ∃ B, M.slot now t = B := ⟨_, rfl⟩
  rw [hB] at hs K ⊢
  have c3 := hd.blk.cell (3 + B) _ (wc_3 now m sl hs)
  have o1 := (hd.alloc (.cells #[.int .i64 id] 3)).own B s hs
  have b1 : But (fun j => s.at_ j) w (w.drew.alloc (.cells #[.int .i64 id] 3)) := ((But.refl _ w).drew).alloc _
  have hgc := ((hd.alloc (.cells #[.int .i64 id] 3)).blk).cell (3 + B) _ (wc_3 now m sl hs)
  have hob := ownBlock_sl o1
  obtain ⟨i0, hi0, hz0, hz1, hz2⟩ := infoParts info_i64
  have hlt := h.blk.lt
  have hsl := h.slotNe hs
  have hnews : ∀ (j : Nat) (u : Value), [Value.int .i64 id][j]? = some u → (w.drew.alloc (.cells #[.int .i64 id] 3)).cell? ((⟨w.drew.heap.size, 0, none⟩ : Addr).add j) = some u := World.news_of_block (blk_new w.drew #[.int .i64 id] 3)
  have fin : Hid (∀ W1, Wm w g m now E sl → But (fun j => s.at_ j) w W1 → ∀ a c, Sl.own W1 ⟨a, c, s.ids ++ [id]⟩ → (∀ j, Sl.at_ ⟨a, c, s.ids ++ [id]⟩ j → s.at_ j ∨ w.heap.size ≤ j) → Put w (W1.setCell ⟨g, 3 + B, none⟩ (Sl.v ⟨a, c, s.ids ++ [id]⟩)) g m now E sl B s ⟨a, c, s.ids ++ [id]⟩) := fun W1 hw hbut a c ho hat =>
    let r := hw.slotted hs hbut ho hat
    ⟨r.1, r.2, hat⟩
  have hw : Hid (Wm w g m now E sl) := h
  have HB : Hid (M.slot now t = B) := hB
  clear hB hd h hb ht
  go_enter Try.func30, Try.ntmps30
  go_wp2_with fail
  refine Calls.mono K ?_
  rintro e w' ⟨rfl, rfl⟩
  go_wp2_with (at_builtin; refine wpList_append_lies _ rfl _ _ 39 rfl 0 3 i0 (.int .i64 0) 1 8 Try.underlying39 hi0 hz0 hz1 hz2 rfl (by decide) _ s.ids.length (s.ids.map (Value.int .i64)) rfl o1 ⟨w.drew.heap.size, 0, none⟩ 1 1 [.int .i64 id] rfl (by simp) hnews (by simp [Value.oneCell']) (by decide) (by unfold maxLen; omega) (by omega) (by omega) _ rfl ?_)
  intro gx cx W2 o2 g2 at2 lt2
  have bb : But (fun j => s.at_ j) (w.drew.alloc (.cells #[.int .i64 id] 3)) W2 := (But.refl _ _).grown g2 (fun n hn => by
    try rw [hob] at hn
    try simp at hn
    obtain ⟨x, h1, h2⟩ := hn
    exact .inl ⟨x, h1, h2⟩)
  have b2 : But (fun j => s.at_ j) w W2 := b1.trans bb (fun _ _ x => x)
  have c4 := bb.cell hsl.1 hgc
  have f4 : W2.frozen? ⟨g, 3 + B, none⟩ = false := ((hw.out.blk).but b2 hsl.1).frozen (3 + B)
  have o3 : Sl.own W2 ⟨some ⟨gx, 0, none⟩, cx, s.ids ++ [id]⟩ := by
    unfold Sl.own
    simpa [Sl.v] using o2
  have at3 : ∀ j, Sl.at_ ⟨some ⟨gx, 0, none⟩, cx, s.ids ++ [id]⟩ j → s.at_ j ∨ w.heap.size ≤ j := by
    rintro j ⟨x, hx, rfl⟩
    cases hx
    rcases at2 with h | h
    · try rw [hob] at h
      try simp at h
      obtain ⟨x, h1, h2⟩ := h
      exact .inl ⟨x, h1, h2⟩
    · right
      try simp at h
      show w.heap.size ≤ gx
      omega
  have F := fin.out W2 hw.out b2 _ _ o3 at3
  have hlen : (s.ids ++ [id]).length = s.ids.length + 1 := by simp
  unfold Sl.v at F
  simp only [hlen] at F
  have F' := hidW F
  clear F o2 g2 at2 lt2 o3 at3 b2 bb fin hnews hlen b1 o1 hgc hob
  go_wp2
  go_end0
  exact ⟨rfl, _, _, F'.out⟩
end Go.Proofs.Ytfcpjenlckkloaa
