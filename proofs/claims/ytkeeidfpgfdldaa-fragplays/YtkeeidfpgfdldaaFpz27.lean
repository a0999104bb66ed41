/- Texts joined: FpQs FpQh FpT -/
import Derived.Test.YtkeeidfpgfdldaaFpz26
namespace Go.Proofs.Ytkeeidfpgfdldaa
open Go.RowKit
set_option linter.unusedVariables false
set_option linter.unusedSimpArgs false
theorem Blk.set_far {W : World} {g b i : Nat} {t : TypeId} {cs : Array Value} {v : Value} (h : Blk W g t cs) (hn : g ≠ b) : Blk (W.setCell ⟨b, i, none⟩ v) g t cs := (Below.heap_setCell _ _ _ _ hn).trans h
theorem D_lt {w : World} {B : Nat} {a : Option Addr} {c : Nat} {l : List Int} (h : Owns w B (.slice a l.length c) l) : ∀ y, a = some y → B ≤ y.block := fun y hy => (World.ownsRow.lt h y.block (by rw [hy]; rfl)).1
theorem I_lt {w : World} {B : Nat} {a : Option Addr} {c : Nat} {l : List Int} (h : OwnsI w B (.slice a l.length c) l) : ∀ y, a = some y → B ≤ y.block := fun y hy => (World.ownsRow.lt h y.block (by rw [hy]; rfl)).1
/-- The datagrams without that at one place. -/
def skipL (L : List DgIn) (v : Int) : Nat → List DgIn
 | 0 => []
 | k + 1 => if (k : Int) = v then skipL L v k else skipL L v k ++ (L[k]?).toList
theorem skipL_len (L : List DgIn) (v : Int) : ∀ k, (skipL L v k).length ≤ k
 | 0 => Nat.le_refl _
 | k + 1 => by
  have := skipL_len L v k
  unfold skipL
  split
  ·omega
  ·rw [List.length_append]
   have : (L[k]?).toList.length ≤ 1 := by cases L[k]? <;> simp
   omega
theorem skipL_mem {L : List DgIn} {v : Int} {g : DgIn} : ∀ {k : Nat}, g ∈ skipL L v k → g ∈ L
 | 0, h => by cases h
 | k + 1, h => by
  unfold skipL at h
  split at h
  ·exact skipL_mem h
  ·rcases List.mem_append.1 h with h | h
   ·exact skipL_mem h
   ·cases e : L[k]? with
    | none => rw [e] at h; cases h
    | some x =>
     rw [e] at h
     simp at h
     rw [h]
     exact List.mem_of_getElem? e
set_option maxRecDepth 100000 in
set_option maxHeartbeats 16000000 in
theorem put_E (T : Code) (Q : Exit → Act → World → Prop) (tb bx ob gb o2 : Nat) (v : Int) (ok : Bool) (ms ro li cl : Int) (ga : Option Addr) (gc : Nat) (L : List DgIn) (f sf sh sl df dh dl pr ho : Int) (id of : Int) (mo : Bool) (xa : Option Addr) (xn xc : Nat) (da : Option Addr) (dn dc : Nat) (w : World) (h : DocT w tb ms ro li cl ga gc L) {u2 u6 u8 u10 u13 u14 u15 u16 u17 u18 u19 u20 u21 u22 u23 u24 u25 u26 u27 u28 u29 u30 u31 u32 u33 u34 u35 u36 u37 u38 u39 u40 u41 u42 u43 u44 u45 u46 u47 u48 u49 u50 u51 u52 u53 u54 u55 u56 u57 u58 u59 u60 u61 u62 u63 u64 u65 u66 u67 u68 u69 u70 u71 u72 u73 u74 u75 u76 u77 u78 u79 u80 u81 u82 u83 u84 u85 u86 u87 u88 u89 u90 u91 u92 u93 u94 u95 u96 u97 u98 u99 u100 u101 u102 u103 u104 u105 u106 u107 u108 u109 u110 u111 u112 u113 u114 u115 u116 u117 u118 u119 u120 u121 u122 u123 u124 u125 u126 u127 u128 u129 u130 u131 u132 u133 u134 u135 u136 u137 u138 u139 u140 u141 u142 u143 u144 u145 u146 u147 u148 u149 u150 u151 u152 u153 u154 u155 u156 u157 u158 u159 u160 u161 u162 u163 u164 u165 u166 u167 u168 u169 u170 u171 u172 u173 u174 u175 u176 u177 u178 u179 u180 u181 u182 u183 u184 u185 u186 u187 u188 u189 u190 u191 u192 u193 u194 u195 u196 u197 u198 u199 u200 u201 u202 u203 u204 u205 u206 u207 u208 u209 u210 u211 u212 u213 u214 u215 u216 u217 u218 u219 u220 u221 u222 u223 u224 u225 u226 u227 u228 : Value} (HT : ∀ {u2 u6 u8 u10 u14 u15 u16 u17 u18 u19 u20 u21 u22 u23 u24 u25 u26 u27 u28 u29 u30 u31 u32 u33 u34 u35 u36 u37 u38 u39 u40 u41 u42 u43 u44 u45 u46 u47 u48 u49 u50 u51 u52 u53 u54 u55 u56 u57 u58 u59 u60 u61 u62 u63 u64 u65 u66 u67 u68 u69 u70 u71 u72 u73 u74 u75 u76 u77 u78 u79 u80 u81 u82 u83 u84 u85 u86 u87 u88 u89 u90 u91 u92 u93 u94 u95 u96 u97 u98 u99 u100 u101 u102 u103 u104 u105 u106 u107 u108 u109 u110 u111 u112 u113 u114 u115 u116 u117 u118 u119 u120 u121 u122 u123 u124 u125 u126 u127 u128 u129 u130 u131 u132 u133 u134 u135 u136 u137 u138 u139 u140 u141 u142 u143 u144 u145 u146 u147 u148 u149 u150 u151 u152 u153 u154 u155 u156 u157 u158 u159 u160 u161 u162 u163 u164 u165 u166 u167 u168 u169 u170 u171 u172 u173 u174 u175 u176 u177 u178 u179 u180 u181 u182 u183 u184 u185 u186 u187 u188 u189 u190 u191 u192 u193 u194 u195 u196 u197 u198 u199 u200 u201 u202 u203 u204 u205 u206 u207 u208 u209 u210 u211 u212 u213 u214 u215 u216 u217 u218 u219 u220 u221 u222 u223 u224 u225 u226 u227 u228 : Value} (W : World) (sa : Option Addr) (sc : Nat), Below w.heap.size w W → Hid (OwnG W w.heap.size sa sc (skipL L v L.length)) → Code.wp Try.prog T Q ⟨(List.toArray ((.pointer (some ⟨tb, 0, none⟩)) :: (.agg #[.int .i64 f, .int .i64 sf, .int .u64 sh, .int .u64 sl, .int .i64 df, .int .u64 dh, .int .u64 dl, .int .i64 pr, .int .i64 ho, .bool true, .int .u32 id, .int .i64 of, .bool mo, .slice xa xn xc, .slice da dn dc]) :: (u2) :: (.pointer (some ⟨bx, 0, none⟩)) :: (.pointer (some ⟨ob, 0, none⟩)) :: (.int .i64 0) :: (u6) :: (.int .i64 v) :: (u8) :: (.pointer (some ⟨gb, 0, none⟩)) :: (u10) :: (.pointer (some ⟨o2, 0, none⟩)) :: (.bool ok) :: (.slice sa (skipL L v L.length).length sc) :: (u14) :: (u15) :: (u16) :: (u17) :: (u18) :: (u19) :: (u20) :: (u21) :: (u22) :: (u23) :: (u24) :: (u25) :: (u26) :: (u27) :: (u28) :: (u29) :: (u30) :: (u31) :: (u32) :: (u33) :: (u34) :: (u35) :: (u36) :: (u37) :: (u38) :: (u39) :: (u40) :: (u41) :: (u42) :: (u43) :: (u44) :: (u45) :: (u46) :: (u47) :: (u48) :: (u49) :: (u50) :: (u51) :: (u52) :: (u53) :: (u54) :: (u55) :: (u56) :: (u57) :: (u58) :: (u59) :: (u60) :: (u61) :: (u62) :: (u63) :: (u64) :: (u65) :: (u66) :: (u67) :: (u68) :: (u69) :: (u70) :: (u71) :: (u72) :: (u73) :: (u74) :: (u75) :: (u76) :: (u77) :: (u78) :: (u79) :: (u80) :: (u81) :: (u82) :: (u83) :: (u84) :: (u85) :: (u86) :: (u87) :: (u88) :: (u89) :: (u90) :: (u91) :: (u92) :: (u93) :: (u94) :: (u95) :: (u96) :: (u97) :: (u98) :: (u99) :: (u100) :: (u101) :: (u102) :: (u103) :: (u104) :: (u105) :: (u106) :: (u107) :: (u108) :: (u109) :: (u110) :: (u111) :: (u112) :: (u113) :: (u114) :: (u115) :: (u116) :: (u117) :: (u118) :: (u119) :: (u120) :: (u121) :: (u122) :: (u123) :: (u124) :: (u125) :: (u126) :: (u127) :: (u128) :: (u129) :: (u130) :: (u131) :: (u132) :: (u133) :: (u134) :: (u135) :: (u136) :: (u137) :: (u138) :: (u139) :: (u140) :: (u141) :: (u142) :: (u143) :: (u144) :: (u145) :: (u146) :: (u147) :: (u148) :: (u149) :: (u150) :: (u151) :: (u152) :: (u153) :: (u154) :: (u155) :: (u156) :: (u157) :: (u158) :: (u159) :: (u160) :: (u161) :: (u162) :: (u163) :: (u164) :: (u165) :: (u166) :: (u167) :: (u168) :: (u169) :: (u170) :: (u171) :: (u172) :: (u173) :: (u174) :: (u175) :: (u176) :: (u177) :: (u178) :: (u179) :: (u180) :: (u181) :: (u182) :: (u183) :: (u184) :: (u185) :: (u186) :: (u187) :: (u188) :: (u189) :: (u190) :: (u191) :: (u192) :: (u193) :: (u194) :: (u195) :: (u196) :: (u197) :: (u198) :: (u199) :: (u200) :: (u201) :: (u202) :: (u203) :: (u204) :: (u205) :: (u206) :: (u207) :: (u208) :: (u209) :: (u210) :: (u211) :: (u212) :: (u213) :: (u214) :: (u215) :: (u216) :: (u217) :: (u218) :: (u219) :: (u220) :: (u221) :: (u222) :: (u223) :: (u224) :: (u225) :: (u226) :: (u227) :: (u228) :: List.nil)), []⟩ W) :
  Code.wp Try.prog (Code.seq (Code.region 30 #[{ dst := some 13, op := Op.assign (Operand.const (Value.slice none 0 0)), type := 29, pos := "ref.go:158", after := #[], guard := none }] false) (Code.seq ((Code.region 31 #[{ dst := some 14, op := Op.assign (Operand.const (Value.int IntKind.i64 0)), type := 3, pos := "ref.go:159", after := #[], guard := none }] false).seq (Code.block 2 (((Code.region 32 #[{ dst := some 193, op := Op.move (Operand.tmp 14), type := 3, pos := "ref.go:159", after := #[], guard := none }, { dst := some 194, op := Op.move (Operand.tmp 0), type := 77, pos := "ref.go:159", after := #[], guard := none }, { dst := some 195, op := Op.nilCheck (Operand.tmp 194), type := 0, pos := "ref.go:159", after := #[{ on := 1, ground := Ground.data }], guard := none }, { dst := some 196, op := Op.fieldAddr 31 (Operand.tmp 195) 4, type := 0, pos := "ref.go:159", after := #[{ on := 2, ground := Ground.data }], guard := none }, { dst := some 197, op := Op.load 29 (Operand.tmp 196), type := 29, pos := "ref.go:159", after := #[{ on := 3, ground := Ground.data }], guard := none }, { dst := some 198, op := Op.call { callee := Callee.builtin Builtin.len, args := #[Operand.tmp 197], argTypes := #[29] }, type := 3, pos := "ref.go:159", after := #[{ on := 4, ground := Ground.data }], guard := none }, { dst := some 199, op := Op.binOp BinOp.lss 3 (Operand.tmp 193) (Operand.tmp 198) 3, type := 4, pos := "ref.go:159", after := #[{ on := 0, ground := Ground.data }, { on := 5, ground := Ground.data }], guard := none }] false).seq (Code.cond (Operand.tmp 199) Code.skip (Code.exit 2))).seq ((Code.block 3 ((Code.region 34 #[{ dst := some 202, op := Op.move (Operand.tmp 14), type := 3, pos := "ref.go:160", after := #[], guard := none }, { dst := some 203, op := Op.move (Operand.tmp 7), type := 3, pos := "ref.go:160", after := #[], guard := none }, { dst := some 204, op := Op.binOp BinOp.neq 3 (Operand.tmp 202) (Operand.tmp 203) 3, type := 4, pos := "ref.go:160", after := #[{ on := 0, ground := Ground.data }, { on := 1, ground := Ground.data }], guard := none }] false).seq (Code.cond (Operand.tmp 204) (Code.region 35 #[{ dst := some 205, op := Op.move (Operand.tmp 13), type := 29, pos := "ref.go:161", after := #[], guard := none }, { dst := some 206, op := Op.move (Operand.tmp 0), type := 77, pos := "ref.go:161", after := #[], guard := none }, { dst := some 207, op := Op.nilCheck (Operand.tmp 206), type := 0, pos := "ref.go:161", after := #[{ on := 1, ground := Ground.data }], guard := none }, { dst := some 208, op := Op.fieldAddr 31 (Operand.tmp 207) 4, type := 0, pos := "ref.go:161", after := #[{ on := 2, ground := Ground.data }], guard := none }, { dst := some 209, op := Op.load 29 (Operand.tmp 208), type := 29, pos := "ref.go:161", after := #[{ on := 3, ground := Ground.data }], guard := none }, { dst := some 210, op := Op.move (Operand.tmp 14), type := 3, pos := "ref.go:161", after := #[], guard := none }, { dst := some 211, op := Op.indexAddr 29 (Operand.tmp 209) (Operand.tmp 210), type := 0, pos := "ref.go:161", after := #[{ on := 4, ground := Ground.data }, { on := 5, ground := Ground.data }], guard := none }, { dst := some 212, op := Op.load 79 (Operand.tmp 211), type := 79, pos := "ref.go:161", after := #[{ on := 6, ground := Ground.data }], guard := none }, { dst := some 213, op := Op.buildSlice 29 1 #[(0, Operand.tmp 212)], type := 29, pos := "ref.go:161", after := #[{ on := 7, ground := Ground.data }], guard := none }, { dst := some 214, op := Op.call { callee := Callee.builtin Builtin.append, args := #[Operand.tmp 205, Operand.tmp 213], argTypes := #[29, 29] }, type := 29, pos := "ref.go:161", after := #[{ on := 0, ground := Ground.data }, { on := 8, ground := Ground.data }], guard := none }, { dst := some 13, op := Op.assign (Operand.tmp 214), type := 29, pos := "ref.go:161", after := #[{ on := 9, ground := Ground.data }, { on := 9, ground := Ground.chain }, { on := 0, ground := Ground.phase }, { on := 1, ground := Ground.phase }, { on := 2, ground := Ground.phase }, { on := 3, ground := Ground.phase }, { on := 4, ground := Ground.phase }, { on := 5, ground := Ground.phase }, { on := 6, ground := Ground.phase }, { on := 7, ground := Ground.phase }, { on := 8, ground := Ground.phase }, { on := 9, ground := Ground.phase }], guard := none }] false) Code.skip))).seq (Code.region 33 #[{ dst := some 200, op := Op.move (Operand.tmp 14), type := 3, pos := "ref.go:159", after := #[], guard := none }, { dst := some 201, op := Op.binOp BinOp.add 3 (Operand.tmp 200) (Operand.const (Value.int IntKind.i64 1)) 3, type := 3, pos := "ref.go:159", after := #[{ on := 0, ground := Ground.data }], guard := none }, { dst := some 14, op := Op.assign (Operand.tmp 201), type := 3, pos := "ref.go:159", after := #[{ on := 1, ground := Ground.data }, { on := 0, ground := Ground.phase }, { on := 1, ground := Ground.phase }], guard := none }] false))).loop)) T)) Q ⟨(List.toArray ((.pointer (some ⟨tb, 0, none⟩)) :: (.agg #[.int .i64 f, .int .i64 sf, .int .u64 sh, .int .u64 sl, .int .i64 df, .int .u64 dh, .int .u64 dl, .int .i64 pr, .int .i64 ho, .bool true, .int .u32 id, .int .i64 of, .bool mo, .slice xa xn xc, .slice da dn dc]) :: (u2) :: (.pointer (some ⟨bx, 0, none⟩)) :: (.pointer (some ⟨ob, 0, none⟩)) :: (.int .i64 0) :: (u6) :: (.int .i64 v) :: (u8) :: (.pointer (some ⟨gb, 0, none⟩)) :: (u10) :: (.pointer (some ⟨o2, 0, none⟩)) :: (.bool ok) :: (u13) :: (u14) :: (u15) :: (u16) :: (u17) :: (u18) :: (u19) :: (u20) :: (u21) :: (u22) :: (u23) :: (u24) :: (u25) :: (u26) :: (u27) :: (u28) :: (u29) :: (u30) :: (u31) :: (u32) :: (u33) :: (u34) :: (u35) :: (u36) :: (u37) :: (u38) :: (u39) :: (u40) :: (u41) :: (u42) :: (u43) :: (u44) :: (u45) :: (u46) :: (u47) :: (u48) :: (u49) :: (u50) :: (u51) :: (u52) :: (u53) :: (u54) :: (u55) :: (u56) :: (u57) :: (u58) :: (u59) :: (u60) :: (u61) :: (u62) :: (u63) :: (u64) :: (u65) :: (u66) :: (u67) :: (u68) :: (u69) :: (u70) :: (u71) :: (u72) :: (u73) :: (u74) :: (u75) :: (u76) :: (u77) :: (u78) :: (u79) :: (u80) :: (u81) :: (u82) :: (u83) :: (u84) :: (u85) :: (u86) :: (u87) :: (u88) :: (u89) :: (u90) :: (u91) :: (u92) :: (u93) :: (u94) :: (u95) :: (u96) :: (u97) :: (u98) :: (u99) :: (u100) :: (u101) :: (u102) :: (u103) :: (u104) :: (u105) :: (u106) :: (u107) :: (u108) :: (u109) :: (u110) :: (u111) :: (u112) :: (u113) :: (u114) :: (u115) :: (u116) :: (u117) :: (u118) :: (u119) :: (u120) :: (u121) :: (u122) :: (u123) :: (u124) :: (u125) :: (u126) :: (u127) :: (u128) :: (u129) :: (u130) :: (u131) :: (u132) :: (u133) :: (u134) :: (u135) :: (u136) :: (u137) :: (u138) :: (u139) :: (u140) :: (u141) :: (u142) :: (u143) :: (u144) :: (u145) :: (u146) :: (u147) :: (u148) :: (u149) :: (u150) :: (u151) :: (u152) :: (u153) :: (u154) :: (u155) :: (u156) :: (u157) :: (u158) :: (u159) :: (u160) :: (u161) :: (u162) :: (u163) :: (u164) :: (u165) :: (u166) :: (u167) :: (u168) :: (u169) :: (u170) :: (u171) :: (u172) :: (u173) :: (u174) :: (u175) :: (u176) :: (u177) :: (u178) :: (u179) :: (u180) :: (u181) :: (u182) :: (u183) :: (u184) :: (u185) :: (u186) :: (u187) :: (u188) :: (u189) :: (u190) :: (u191) :: (u192) :: (u193) :: (u194) :: (u195) :: (u196) :: (u197) :: (u198) :: (u199) :: (u200) :: (u201) :: (u202) :: (u203) :: (u204) :: (u205) :: (u206) :: (u207) :: (u208) :: (u209) :: (u210) :: (u211) :: (u212) :: (u213) :: (u214) :: (u215) :: (u216) :: (u217) :: (u218) :: (u219) :: (u220) :: (u221) :: (u222) :: (u223) :: (u224) :: (u225) :: (u226) :: (u227) :: (u228) :: List.nil)), []⟩ w := by
 have HHT : Hid _ := @HT
 clear HT
 have hfew := h.few
 have HSI : Hid (∀ g : DgIn, (Try.prog.info? 79).map (·.size) = some g.v.size) := info_g
 have HR : Hid (RowG w ga L) := h.row
 obtain ⟨_, _, _, _, t4⟩ := tab_cells h.blk
 clear h
 obtain ⟨N, hN⟩ : ∃ N, L.length = N := ⟨_, rfl⟩
 have HN : Hid (L.length = N) := hN
 rw [hN] at hfew t4 HHT
 clear hN
 go_wp2_with fail
 go_loopw [13, 14] (fun s13 i wr => ∃ (k : Nat) (sa : Option Addr) (sc : Nat), k ≤ N ∧ i = .int .i64 k ∧ s13 = .slice sa (skipL L v k).length sc ∧ Hid (OwnG wr w.heap.size sa sc (skipL L v k)) ∧ Below w.heap.size w wr) (fun _ i _ => N - (intOf i).toNat)
 case atStart => exact ⟨0, none, 0, Nat.zero_le _, rfl, rfl, OwnG.nil _ _, Below.refl _ _⟩
 case round =>
  obtain ⟨k, sa, sc, hk, rfl, rfl, HO, bw⟩ := hrel
  have v4 := kept bw t4
  by_cases hlt : k < N
  ·have ik : (k : Int) < (N : Int) := by omega
   have ik0 : (0 : Int) ≤ (k : Int) := by omega
   have hml := skipL_len L v k
   obtain ⟨g, hg⟩ : ∃ g, L[k]? = some g := ⟨_, List.getElem?_eq_getElem (by rw [HN.out]; exact hlt)⟩
   obtain ⟨b, off, hga, hc⟩ := (HR.out.low bw).cells k g hg
   have HST : Hid (skipL L v (k + 1) = if (k : Int) = v then skipL L v k else skipL L v k ++ [g]) := by
    show skipL L v (k + 1) = _
    rw [skipL, hg]
    rfl
   obtain ⟨xs, hxs⟩ : ∃ xs, skipL L v k = xs := ⟨_, rfl⟩
   rw [hxs] at HO HST hml ⊢
   have hs1 := HSI.out g
   subst hga
   clear hxs hg
   by_cases hx : (k : Int) = v
   ·have ex : ((k : Int) == v) = true := by simpa using hx
    have E : Hid (skipL L v (k + 1) = xs) := by show _ = _; rw [HST.out, if_pos hx]
    have HX : Hid _ := hx
    clear hx hc hs1 HST
    go_wp2_with fail
    exact ⟨⟨k + 1, sa, sc, by omega, by go_num, by rw [E.out], by rw [E.out]; exact HO, bw⟩, by simp [intOf]; omega⟩
   ·have ex : ((k : Int) == v) = false := by simpa using hx
    have E : Hid (skipL L v (k + 1) = xs ++ [g]) := by show _ = _; rw [HST.out, if_neg hx]
    have ho : OwnG (wr.alloc (.cells g.v 79)) w.heap.size sa sc xs := HO.out.below (bel_nw rfl)
    have hcell : CellsAt (wr.alloc (.cells g.v 79)) wr.heap.size 0 g.v := (blk_new wr g.v 79).at_
    have hbase : w.heap.size ≤ (wr.alloc (.cells g.v 79)).heap.size := by
     have := bw.size
     rw [World.size_alloc]
     omega
    have bal : Below w.heap.size w (wr.alloc (.cells g.v 79)) := bw.alloc bw.size _
    have HX : Hid _ := hx
    clear hx HST
    go_wp2_with (first
     | (refine wpList_load_at rfl _ _ rfl b (off + k * 11) (by rfl) _ hc Try.underlying79 hs1 ?_)
     | (at_builtin; refine wpList_appG _ rfl _ _ rfl w.heap.size sa sc xs rfl ho wr.heap.size 1 g rfl hcell (by omega) hbase ?_))
    intro gg c' W6 ok6 b6
    have bw6 : Below w.heap.size w W6 := bal.trans b6
    have HS7 : Hid (OwnG W6 w.heap.size (some ⟨gg, 0, none⟩) c' (xs ++ [g])) := ok6
    clear ok6 b6 bal ho hcell hbase hc hs1 bw HO v4
    go_wp2_with fail
    refine ⟨⟨k + 1, some ⟨gg, 0, none⟩, c', by omega, by go_num, by rw [E.out]; simp, by rw [E.out]; exact HS7, bw6⟩, by simp [intOf]; omega⟩
  ·have ik : ¬ (k : Int) < (N : Int) := by omega
   have e : k = N := by omega
   subst e
   have HO2 : Hid (OwnG wr w.heap.size sa sc (skipL L v k)) := HO
   clear HO
   go_wp2_with fail
   exact HHT.out wr sa sc bw HO2
/-- All memory of a datagram's parts is of blocks that keep P. -/
structure InD (P : Nat → Prop) (g : DgIn) : Prop where
 pa : ∀ x, g.pa = some x → P x.block
 ps : ∀ q ∈ g.ps, (∀ x, q.xa = some x → P x.block) ∧ (∀ x, q.da = some x → P x.block)
theorem InD.mono {P Q : Nat → Prop} {g : DgIn} (h : InD P g) (hpq : ∀ b, P b → Q b) : InD Q g := ⟨fun x hx => hpq _ (h.pa x hx), fun q hq => ⟨fun x hx => hpq _ ((h.ps q hq).1 x hx), fun x hx => hpq _ ((h.ps q hq).2 x hx)⟩⟩
theorem PkIn.ok.but {F : Nat → Prop} {w w' : World} {q : PkIn} (h : q.ok w) (hb : But F w w') (h1 : Off F q.xa) (h2 : Off F q.da) : q.ok w' := ⟨h.p, h.exts.but hb h1, h.xnil, h.data.but hb h2, h.dnil⟩
theorem DgIn.ok.but {F : Nat → Prop} {w w' : World} {g : DgIn} (h : g.ok w) (hb : But F w w') (ho : InD (fun b => ¬ F b) g) : g.ok w' :=
 ⟨⟨fun q hq => (h.row.each q hq).but hb (ho.ps q hq).1 (ho.ps q hq).2, fun j q hq => by
  obtain ⟨b, off, ha, hc⟩ := h.row.cells j q hq
  exact ⟨b, off, ha, hc.but hb (ho.pa _ ha)⟩⟩, h.in_, h.few⟩
theorem RowG.but {F : Nat → Prop} {w w' : World} {a : Option Addr} {L : List DgIn} (h : RowG w a L) (hb : But F w w') (ha : Off F a) (hL : ∀ g ∈ L, InD (fun b => ¬ F b) g) : RowG w' a L :=
 ⟨fun g hg => (h.each g hg).but hb (hL g hg), fun j g hg => by
  obtain ⟨b, off, ha', hc⟩ := h.cells j g hg
  exact ⟨b, off, ha', hc.but hb (ha _ ha')⟩⟩
theorem But.frozen {F : Nat → Prop} {w w' : World} (h : But F w w') {b i : Nat} (hl : b < w.heap.size) (hn : ¬ F b) : w'.frozen? ⟨b, i, none⟩ = w.frozen? ⟨b, i, none⟩ := by
 have e := h.block b hl hn
 simp [World.frozen?, e]
/-- The document's table, and that it may be written over. -/
structure DocU (w : World) (tb : Nat) (ms ro li cl : Int) (ga : Option Addr) (gc : Nat) (L : List DgIn) : Prop where
 t : DocT w tb ms ro li cl ga gc L
 frz : ∀ x, ga = some x → x.block < w.heap.size ∧ ∀ i, w.frozen? ⟨x.block, i, none⟩ = false
 low : ∀ g ∈ L, InD (fun b => b < w.heap.size ∧ b ≠ tb ∧ ∀ x, ga = some x → b ≠ x.block) g
 nm : ∀ g ∈ L, PktOk g.nmP
/-- The blocks of the document's table. -/
def DocB (tb : Nat) (ga : Option Addr) (L : List DgIn) (b : Nat) : Prop := b = tb ∨ (∃ x, ga = some x ∧ x.block = b) ∨ ∃ g ∈ L, ¬ InD (fun k => k ≠ b) g
theorem DocU.but {F : Nat → Prop} {w w' : World} {tb : Nat} {ms ro li cl : Int} {ga : Option Addr} {gc : Nat} {L : List DgIn} (h : DocU w tb ms ro li cl ga gc L) (hb : But F w w') (hn : ∀ b, DocB tb ga L b → ¬ F b) : DocU w' tb ms ro li cl ga gc L := by
 have hL : ∀ g ∈ L, InD (fun b => ¬ F b) g := fun g hg => by
  have key : ∀ b, F b → InD (fun k => k ≠ b) g := fun b hF => Classical.byContradiction fun hc => hn b (.inr (.inr ⟨g, hg, hc⟩)) hF
  exact ⟨fun x hx hF => (key _ hF).pa x hx rfl, fun q hq => ⟨fun x hx hF => ((key _ hF).ps q hq).1 x hx rfl, fun x hx hF => ((key _ hF).ps q hq).2 x hx rfl⟩⟩
 have ha : Off F ga := fun x hx => hn _ (.inr (.inl ⟨x, hx, rfl⟩))
 exact ⟨⟨h.t.blk.but hb (hn _ (.inl rfl)), h.t.row.but hb ha hL, h.t.far, h.t.each, h.t.few⟩, fun x hx => ⟨Nat.lt_of_lt_of_le (h.frz x hx).1 hb.size, fun i => (hb.frozen (h.frz x hx).1 (ha x hx)).trans ((h.frz x hx).2 i)⟩,
  fun g hg => (h.low g hg).mono fun b hb' => ⟨Nat.lt_of_lt_of_le hb'.1 hb.size, hb'.2⟩, h.nm⟩
theorem DocT.below {w w' : World} {tb : Nat} {ms ro li cl : Int} {ga : Option Addr} {gc : Nat} {L : List DgIn} (h : DocT w tb ms ro li cl ga gc L) (hb : Below w.heap.size w w') : DocT w' tb ms ro li cl ga gc L :=
 ⟨h.blk.kept hb, h.row.low hb, h.far, h.each, h.few⟩
/-! Names. -/
theorem nm_key {g : DgIn} {p : Pkt} (hg : PktOk g.nmP) (hp : PktOk p) (hf : p.f = 4 ∨ p.f = 6) : nmEq g p.s p.d (if p.f = 4 then p.pr else 0) p.id = true ↔ g.dg.key = nameK p := by
 show _ ↔ nameK g.nmP = nameK p
 rw [name_dg hg hp]
 have e1 : nameA g.nmP = #[.int .i64 g.ns.fam, .int .u64 g.ns.hi, .int .u64 g.ns.lo, .int .i64 g.nd.fam, .int .u64 g.nd.hi, .int .u64 g.nd.lo, .int .i64 g.np, .int .u32 g.ni] := rfl
 have e2 : (if p.f = 6 then 0 else p.pr) = (if p.f = 4 then p.pr else 0) := by rcases hf with h | h <;> rw [h] <;> rfl
 have e3 : nameA p = #[.int .i64 p.s.fam, .int .u64 p.s.hi, .int .u64 p.s.lo, .int .i64 p.d.fam, .int .u64 p.d.hi, .int .u64 p.d.lo, .int .i64 (if p.f = 4 then p.pr else 0), .int .u32 p.id] := by
  show #[_, _, _, _, _, _, _, _] = _
  rw [e2]
 rw [e1, e3]
 unfold nmEq
 simp [and_assoc]
theorem sameKey_iff {a k : Lit} (hk : WideAt.IsKeyLit k) : a.sameKey k = true ↔ a = k := ⟨same_eq, fun e => by rw [e]; exact same_self' hk⟩
/-- The place of a name, and what is told plainly. -/
theorem at_none {L : List DgIn} {p : Pkt} (hn : ∀ g ∈ L, PktOk g.nmP) (hp : PktOk p) (hf : p.f = 4 ∨ p.f = 6) (h : ∀ (j : Nat) g, j < L.length → L[j]? = some g → nmEq g p.s p.d (if p.f = 4 then p.pr else 0) p.id = false) : ∀ d ∈ L.map DgIn.dg, d.key.sameKey (nameK p) = false := by
 intro d hd
 obtain ⟨g, hg, rfl⟩ := List.mem_map.1 hd
 obtain ⟨j, hj⟩ := List.getElem?_of_mem hg
 have h1 := h j g (List.getElem?_eq_some_iff.1 hj).1 hj
 cases e : g.dg.key.sameKey (nameK p) with
 | false => rfl
 | true =>
  rw [(nm_key (hn g hg) hp hf).2 (same_eq e)] at h1
  cases h1
theorem lookD_no {k : Lit} {gs : List Dg} (h : ∀ d ∈ gs, d.key.sameKey k = false) : lookD k gs = none := by
 unfold lookD look
 rw [Option.map_eq_none_iff, List.find?_eq_none]
 intro x hx
 obtain ⟨d, hd, rfl⟩ := List.mem_map.1 hx
 simpa using h d hd
theorem lookD_at {p : Pkt} {L : List DgIn} {j : Nat} {g : DgIn} (hk : (L.map DgIn.dg).Pairwise fun a b => a.key ≠ b.key) (hg : L[j]? = some g) (he : g.dg.key = nameK p) : lookD (nameK p) (L.map DgIn.dg) = some g.dg := by
 refine look_iff (keyLit_name p) ?_ ?_
 ·show List.Pairwise _ _
  rw [List.pairwise_map]
  exact hk
 ·exact List.mem_map.2 ⟨g.dg, List.mem_map.2 ⟨g, List.mem_of_getElem? hg, rfl⟩, by rw [he]⟩
theorem skip_less (L : List DgIn) (v : Int) (k : Lit) (h : ∀ (i : Nat) g, L[i]? = some g → (g.dg.key.sameKey k = true ↔ (i : Int) = v)) : ∀ n, n ≤ L.length → (skipL L v n).map DgIn.dg = lessD k ((L.take n).map DgIn.dg)
 | 0, _ => rfl
 | n + 1, hn => by
  have ih := skip_less L v k h n (by omega)
  obtain ⟨g, hg⟩ : ∃ g, L[n]? = some g := ⟨_, List.getElem?_eq_getElem (by omega)⟩
  have hi := h n g hg
  unfold skipL lessD
  rw [List.take_add_one, hg, List.map_append, List.filter_append]
  by_cases e : (n : Int) = v
  ·rw [if_pos e, ih, show (some g).toList = [g] from rfl, List.map_cons, List.map_nil, List.filter_cons, if_neg (by rw [hi.2 e]; simp)]
   simp [lessD]
  ·have hs : g.dg.key.sameKey k = false := by
    cases hh : g.dg.key.sameKey k with
    | false => rfl
    | true => exact absurd (hi.1 hh) e
   rw [if_neg e, List.map_append, ih, show (some g).toList = [g] from rfl, List.map_cons, List.map_nil, List.filter_cons, if_pos (by rw [hs]; rfl)]
   simp [lessD]
theorem keys_at {L : List DgIn} (hk : (L.map DgIn.dg).Pairwise fun a b => a.key ≠ b.key) {i j : Nat} {g g' : DgIn} (hi : L[i]? = some g) (hj : L[j]? = some g') (e : g.dg.key = g'.dg.key) : i = j := by
 have li := (List.getElem?_eq_some_iff.1 hi).1
 have lj := (List.getElem?_eq_some_iff.1 hj).1
 rw [List.pairwise_map] at hk
 rw [List.pairwise_iff_getElem] at hk
 have gi := (List.getElem?_eq_some_iff.1 hi).2
 have gj := (List.getElem?_eq_some_iff.1 hj).2
 rcases Nat.lt_trichotomy i j with h | h | h
 ·exact absurd (by rw [gi, gj]; exact e) (hk i j li lj h)
 ·exact h
 ·exact absurd (by rw [gi, gj]; exact e.symm) (hk j i lj li h)
/-- A datagram that is dead. -/
def DgIn.die (g : DgIn) : DgIn := ⟨g.ns, g.nd, g.np, g.ni, [], none, 0, g.ends, true⟩
theorem set_dead {L : List DgIn} {j : Nat} {g : DgIn} {k : Lit} (hg : L[j]? = some g) (h : ∀ (i : Nat) x, L[i]? = some x → (x.dg.key.sameKey k = true ↔ (i : Int) = j)) : (L.set j g.die).map DgIn.dg = deadD k (L.map DgIn.dg) := by
 apply List.ext_getElem?
 intro i
 unfold deadD
 rw [List.getElem?_map, List.getElem?_map, List.getElem?_map, List.getElem?_set]
 by_cases e : j = i
 ·subst e
  have hl := (List.getElem?_eq_some_iff.1 hg).1
  rw [if_pos rfl, if_pos hl, hg]
  simp only [Option.map_some, Option.some.injEq]
  rw [if_pos ((h j g hg).2 rfl)]
  rfl
 ·rw [if_neg e]
  cases hx : L[i]? with
  | none => rfl
  | some x =>
   simp only [Option.map_some, Option.some.injEq]
   rw [if_neg (fun hh => e (by have := (h i x hx).1 hh; omega))]
end Go.Proofs.Ytkeeidfpgfdldaa
