/- Texts joined: AtE -/
import Derived.Test.YtnadfacbfcdkgaaDoorFsa20
namespace Go.Proofs.YtnadfacbfcdkgaaDoor
open Go.RowKit
set_option linter.unusedVariables false
set_option linter.unusedSimpArgs false
/-- What a reader of bytes answers: none, or bytes of its own. -/
def GotR (w : World) (T : Option (List Int)) (e : Ending) (w' : World) : Prop := match T with
  | none => e = .returned (.tuple #[.slice none 0 0, .bool false]) ∧ Below w.heap.size w w'
  | some l => ∃ a c, e = .returned (.tuple #[.slice a l.length c, .bool true]) ∧ Fresh w w' a c l
set_option maxRecDepth 100000 in
set_option maxHeartbeats 2000000 in
theorem rgroups_any (s : ByteArray) (w : World) (hs : s.size < 4294967281) :
    Calls Tryd.prog 54 #[.string s] w (GotR w (rgs s.data.toList)) := by
  have e1 : s.data.toList.length = s.size := Array.length_toList
  by_cases h0 : s.size = 0
  · have := empty_of_size h0
    subst this
    have e0 : rgs ByteArray.empty.data.toList = some [] := rfl
    rw [e0]
    clear h0 e1
    go_enter Tryd.func54, Tryd.ntmps54
    go_wp2
    go_ret2
    exact ⟨none, 0, rfl, ⟨Owns.nil _ _, Nat.le_refl _, fun _ => rfl, ⟨by simp, M.Bytes.nil, fun h => by simp at h⟩, Below.refl _ _⟩⟩
  · have he := nonempty_list h0
    have hne : ¬ s.data.toList = [] := fun e => by rw [e] at e1; simp at e1; omega
    obtain ⟨T, hT⟩ : ∃ T, rgs s.data.toList = T := ⟨_, rfl⟩
    rw [hT]
    rw [rgs, if_neg hne] at hT
    have HT : Hid (gsGo (spl 58 s.data.toList) [] = T) := hT
    have hsz : Hid (∀ x ∈ spl 58 s.data.toList, x.length ≤ s.size) := fun x hx => by rw [← e1]; exact spl_sub 58 _ x hx
    have hln : Hid ((spl 58 s.data.toList).length ≤ s.size + 1) := by rw [← e1]; exact spl_len 58 _
    have hsp := rsplit_any s 58 58 rfl w hs
    generalize spl 58 s.data.toList = P at *
    clear hT hne e1 h0
    go_enter Tryd.func54, Tryd.ntmps54
    go_wp2_with fail
    refine hsp.mono ?_
    rintro e w1 ⟨a0, k0, ws, rfl, G⟩
    have own0 := G.owns
    have b1 := G.below
    have z1 := b1.size
    have hP : Hid (ws.map (·.data.toList) = P) := G.parts
    have hlen : ws.length ≤ s.size + 1 := by have := hln.out; rw [← hP.out, List.length_map] at this; exact this
    have hwz : ∀ x ∈ ws, x.size ≤ 9223372036854775807 := fun x hx => by
      have := hsz.out x.data.toList (by rw [← hP.out]; exact List.mem_map_of_mem hx)
      have e : x.data.toList.length = x.size := Array.length_toList
      omega
    have HT' : Hid (gsGo ((ws.drop 0).map (·.data.toList)) [] = T) := by show _ = _; rw [List.drop_zero, hP.out]; exact HT.out
    have hrow : Hid (RowS w1 a0 ws) := own0.row
    clear hsp G hP HT hsz hln own0
    go_wp2
    go_loopw [4, 6] (fun b i w' => ∃ (k : Nat) (l : List Int) (a : Option Addr) (c : Nat), k ≤ ws.length ∧ i = .int .i64 k ∧ b = .slice a l.length c ∧ l.length ≤ 2 * k ∧ M.Bytes l ∧ Owns w' w1.heap.size (.slice a l.length c) l ∧ Below w1.heap.size w1 w' ∧ Hid (gsGo ((ws.drop k).map (·.data.toList)) l = T)) (fun _ i _ => ws.length - (intOf i).toNat)
    case atStart => exact ⟨0, [], none, 0, Nat.zero_le _, rfl, rfl, Nat.le_refl _, M.Bytes.nil, Owns.nil _ _, Below.refl _ _, HT'⟩
    case round =>
      obtain ⟨k, l, a, c, hk, rfl, rfl, hl, hby, own, bel, hr⟩ := hrel
      clear HT'
      have zr := bel.size
      by_cases hlt : k < ws.length
      · obtain ⟨bk, off, ha0, hcc⟩ := (hrow.out.below bel) (by omega)
        subst ha0
        obtain ⟨x, hx⟩ : ∃ x, ws[k]? = some x := ⟨_, List.getElem?_eq_getElem hlt⟩
        have hc := hcc k x hx
        have hxs := hwz x (List.mem_of_getElem? hx)
        have hr1 := hr.out
        rw [List.drop_eq_getElem_cons hlt, List.map_cons, show ws[k] = x from by have := List.getElem?_eq_getElem hlt; rw [this] at hx; exact Option.some.inj hx] at hr1
        have hbd := rnum_bd 16 65535 (by omega) (by omega) x.data.toList
        have hg := fun w => rnum16_any x 65535 w hxs (by omega) (by omega)
        have hx1 : x.data.toList.length = x.size := Array.length_toList
        have hlong : ¬ x.size ≤ 4 → (grp x.data.toList).2 = false := fun h => grp_long _ (by omega)
        have hshort : x.size ≤ 4 → grp x.data.toList = rnum 16 65535 x.data.toList := fun h => (rnum16 _ (by omega)).symm
        unfold gsGo at hr1
        generalize grp x.data.toList = G at *
        generalize rnum 16 65535 x.data.toList = N at *
        obtain ⟨gn, gok⟩ := G
        obtain ⟨n, ok⟩ := N
        simp only at hr1 hbd hg hlong hshort
        have HQ : Hid ((if gok = true then gsGo ((ws.drop (k + 1)).map (·.data.toList)) (l ++ [gn / 256, gn % 256]) else none) = T) := hr1
        have ilt : (k : Int) < (ws.length : Int) := by omega
        have rn : Row wr a l := own.row (by omega) hby
        clear hr hr1 hx hcc hx1
        by_cases h4 : x.size ≤ 4
        · have e3 := hshort h4
          simp only [Prod.mk.injEq] at e3
          obtain ⟨rfl, rfl⟩ := e3
          clear hlong hshort
          have i4 : ¬ (4 : Int) < (x.size : Int) := by omega
          cases gok with
          | false =>
            obtain rfl : T = none := by have := HQ.out; simpa using this.symm
            clear HQ
            go_wp2_with (go_at_call 35; refine (hg _).mono ?_; rintro e w' ⟨rfl, rfl⟩)
            go_ret2
            exact ⟨rfl, b1.trans (bel.mono z1)⟩
          | true =>
            obtain ⟨r, hr⟩ : ∃ r, l ++ [gn / 256, gn % 256] = r := ⟨_, rfl⟩
            have hrl : r.length ≤ 2 * (k + 1) := by rw [← hr]; simp; omega
            have hq : Hid (gsGo ((ws.drop (k + 1)).map (·.data.toList)) r = T) := by have := HQ.out; rw [if_pos rfl, hr] at this; exact this
            have HR : Hid (l ++ [gn / 256, gn % 256] = r) := hr
            have hrb : M.Bytes r := by rw [← hr]; exact hby.app (fun z hz => by simp at hz; omega)
            clear hr HQ
            go_wp2_with (first
              | (go_at_call 35; refine (hg _).mono ?_; rintro e w' ⟨rfl, rfl⟩)
              | (at_builtin; refine wpList_app2 _ rfl _ _ rfl w1.heap.size _ l rfl (own.alloc _) hby _ 2 [gn / 256, gn % 256] rfl ?row (fun hh => by cases hh) r HR.out ?c1 ?c2 ?_))
            case row =>
              refine row_at _ 5 [gn / 256, gn % 256] _ (by first | rfl | simp) (by simp) ?_
              intro z hz
              simp at hz
              omega
            case c1 => omega
            case c2 => simp; omega
            intro a3 c3 w3 o3 hc3 hn3 r3 b3 _
            go_wp2
            exact ⟨⟨k + 1, r, a3, c3, by omega, int_eq (by omega), rfl, hrl, hrb, o3, (bel.alloc zr _).trans b3, hq⟩, by simp [intOf]; omega⟩
        · have e3 := hlong h4
          subst e3
          clear hlong hshort
          obtain rfl : T = none := by have := HQ.out; simpa using this.symm
          clear HQ
          have i4 : (4 : Int) < (x.size : Int) := by omega
          cases ok with
          | false =>
            go_wp2_with (go_at_call 35; refine (hg _).mono ?_; rintro e w' ⟨rfl, rfl⟩)
            go_ret2
            exact ⟨rfl, b1.trans (bel.mono z1)⟩
          | true =>
            go_wp2_with (go_at_call 35; refine (hg _).mono ?_; rintro e w' ⟨rfl, rfl⟩)
            go_ret2
            exact ⟨rfl, b1.trans (bel.mono z1)⟩
      · have ek : k = ws.length := by omega
        have ilt : ¬ (k : Int) < (ws.length : Int) := by omega
        obtain rfl : T = some l := by
          have := hr.out
          rw [ek, List.drop_length] at this
          exact this.symm
        clear ek hr
        have rm := owns_room' own
        go_wp2
        go_ret2
        exact ⟨a, c, rfl, ⟨owns_down z1 own, rm.1, rm.2, own.row (by omega) hby, b1.trans (bel.mono z1)⟩⟩
end Go.Proofs.YtnadfacbfcdkgaaDoor
