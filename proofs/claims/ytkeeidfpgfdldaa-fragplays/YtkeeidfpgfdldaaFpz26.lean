/- Texts joined: FpP -/
import Derived.Test.YtkeeidfpgfdldaaFpz25
namespace Go.Proofs.Ytkeeidfpgfdldaa
open Go.RowKit
set_option linter.unusedVariables false
set_option linter.unusedSimpArgs false
/-- The cells of a name. -/
abbrev nmV (s d : Ad) (p i : Int) : Array Value := #[.int .i64 s.fam, .int .u64 s.hi, .int .u64 s.lo, .int .i64 d.fam, .int .u64 d.hi, .int .u64 d.lo, .int .i64 p, .int .u32 i]
def nmEq (g : DgIn) (s d : Ad) (p i : Int) : Bool := (g.ns.fam == s.fam && (g.ns.hi == s.hi && g.ns.lo == s.lo)) && ((g.nd.fam == d.fam && (g.nd.hi == d.hi && g.nd.lo == d.lo)) && (g.np == p && g.ni == i))
set_option maxRecDepth 100000 in
set_option maxHeartbeats 4000000 in
theorem eql_name (g : DgIn) (s d : Ad) (p i : Int) (w : World) : (Go.binOp .eql 72 (.agg (nmV g.ns g.nd g.np g.ni)) (.agg (nmV s d p i))).run Try.prog w = Result.ok (.bool (nmEq g s d p i)) w := by
 obtain ⟨⟨f, h, l⟩, ⟨f2, h2, l2⟩, p1, i1, _, _, _, _, _⟩ := g
 obtain ⟨f', h', l'⟩ := s
 obtain ⟨f2', h2', l2'⟩ := d
 unfold nmEq
 simp only
 by_cases e1 : f = f'
 case neg => simp [go_sem, e1]
 subst e1
 by_cases e2 : h = h'
 case neg => simp [go_sem, e2]
 subst e2
 by_cases e3 : l = l'
 case neg => simp [go_sem, e3]
 subst e3
 by_cases e4 : f2 = f2'
 case neg => simp [go_sem, e4]
 subst e4
 by_cases e5 : h2 = h2'
 case neg => simp [go_sem, e5]
 subst e5
 by_cases e6 : l2 = l2'
 case neg => simp [go_sem, e6]
 subst e6
 by_cases e7 : p1 = p
 case neg => simp [go_sem, e7]
 subst e7
 by_cases e8 : i1 = i <;> simp [go_sem, e8]
/-- How far the search for a name has come. -/
def AtIs (L : List DgIn) (s d : Ad) (p i : Int) (k : Nat) (v : Int) : Prop := (v = -1 ∧ ∀ (j : Nat) g, j < k → L[j]? = some g → nmEq g s d p i = false) ∨ ∃ (j : Nat) (g : DgIn), v = j ∧ j < k ∧ L[j]? = some g ∧ nmEq g s d p i = true
theorem AtIs.step {L : List DgIn} {s d : Ad} {p i : Int} {k : Nat} {v : Int} (h : AtIs L s d p i k v) {g : DgIn} (hg : L[k]? = some g) : AtIs L s d p i (k + 1) (if nmEq g s d p i = true then (k : Int) else v) := by
 by_cases e : nmEq g s d p i = true
 ·rw [if_pos e]
  exact .inr ⟨k, g, rfl, by omega, hg, e⟩
 ·rw [if_neg e]
  rcases h with ⟨h1, h2⟩ | ⟨j, g', h1, h2, h3, h4⟩
  ·refine .inl ⟨h1, fun j g' hj hg' => ?_⟩
   by_cases ej : j = k
   ·subst ej
    rw [hg] at hg'
    cases hg'
    simpa using e
   ·exact h2 j g' (by omega) hg'
  ·exact .inr ⟨j, g', h1, by omega, h3, h4⟩
theorem sub_at {w : World} {g : Nat} {t : TypeId} {cs sub : Array Value} {k : Nat} (h : Blk w g t cs) (hs : ∀ j v, sub[j]? = some v → cs[k + j]? = some v) : CellsAt w g k sub := ⟨h.lt, fun j v hj => h.cell (k + j) v (hs j v hj)⟩
set_option maxRecDepth 100000 in
set_option maxHeartbeats 16000000 in
theorem put_A1 (T : Code) (Q : Exit → Act → World → Prop) (tb : Nat) (f sf sh sl df dh dl pr ho : Int) (id of : Int) (mo : Bool) (xa : Option Addr) (xn xc : Nat) (da : Option Addr) (dn dc : Nat) (w : World) {u2 u3 u4 u5 u6 u7 u8 u9 u10 u11 u12 u13 u14 u15 u16 u17 u18 u19 u20 u21 u22 u23 u24 u25 u26 u27 u28 u29 u30 u31 u32 u33 u34 u35 u36 u37 u38 u39 u40 u41 u42 u43 u44 u45 u46 u47 u48 u49 u50 u51 u52 u53 u54 u55 u56 u57 u58 u59 u60 u61 u62 u63 u64 u65 u66 u67 u68 u69 u70 u71 u72 u73 u74 u75 u76 u77 u78 u79 u80 u81 u82 u83 u84 u85 u86 u87 u88 u89 u90 u91 u92 u93 u94 u95 u96 u97 u98 u99 u100 u101 u102 u103 u104 u105 u106 u107 u108 u109 u110 u111 u112 u113 u114 u115 u116 u117 u118 u119 u120 u121 u122 u123 u124 u125 u126 u127 u128 u129 u130 u131 u132 u133 u134 u135 u136 u137 u138 u139 u140 u141 u142 u143 u144 u145 u146 u147 u148 u149 u150 u151 u152 u153 u154 u155 u156 u157 u158 u159 u160 u161 u162 u163 u164 u165 u166 u167 u168 u169 u170 u171 u172 u173 u174 u175 u176 u177 u178 u179 u180 u181 u182 u183 u184 u185 u186 u187 u188 u189 u190 u191 u192 u193 u194 u195 u196 u197 u198 u199 u200 u201 u202 u203 u204 u205 u206 u207 u208 u209 u210 u211 u212 u213 u214 u215 u216 u217 u218 u219 u220 u221 u222 u223 u224 u225 u226 u227 u228 : Value} (hsl : 0 ≤ sl) (hdl : 0 ≤ dl) (hdn : dn ≤ 140737488355328) (hw : wrongF f ⟨sf, sh, sl⟩ ⟨df, dh, dl⟩ of mo dn = 0)
  (HT : ∀ {u2 u6 u7 u8 u9 u10 u11 u12 u13 u14 u15 u16 u17 u18 u19 u20 u21 u22 u23 u24 u25 u26 u27 u28 u29 u30 u31 u32 u33 u34 u35 u36 u37 u38 u39 u40 u41 u42 u43 u44 u45 u46 u47 u48 u49 u50 u51 u52 u53 u54 u55 u56 u57 u58 u59 u60 u61 u62 u63 u64 u65 u66 u67 u68 u69 u70 u71 u72 u73 u74 u75 u76 u77 u78 u79 u80 u81 u82 u83 u84 u85 u86 u87 u88 u89 u90 u91 u92 u93 u94 u95 u96 u97 u98 u99 u100 u101 u102 u103 u104 u105 u106 u107 u108 u109 u110 u111 u112 u113 u114 u115 u116 u117 u118 u119 u120 u121 u122 u123 u124 u125 u126 u127 u128 u129 u130 u131 u132 u133 u134 u135 u136 u137 u138 u139 u140 u141 u142 u143 u144 u145 u146 u147 u148 u149 u150 u151 u152 u153 u154 u155 u156 u157 u158 u159 u160 u161 u162 u163 u164 u165 u166 u167 u168 u169 u170 u171 u172 u173 u174 u175 u176 u177 u178 u179 u180 u181 u182 u183 u184 u185 u186 u187 u188 u189 u190 u191 u192 u193 u194 u195 u196 u197 u198 u199 u200 u201 u202 u203 u204 u205 u206 u207 u208 u209 u210 u211 u212 u213 u214 u215 u216 u217 u218 u219 u220 u221 u222 u223 u224 u225 u226 u227 u228 : Value} (W : World) (W1s : Nat), Below w.heap.size w W → Blk W w.heap.size 42 #[.int .i64 f, .int .i64 sf, .int .u64 sh, .int .u64 sl, .int .i64 df, .int .u64 dh, .int .u64 dl, .int .i64 pr, .int .i64 ho, .bool true, .int .u32 id, .int .i64 of, .bool mo, .slice xa xn xc, .slice da dn dc] → Blk W W1s 42 z15 → w.heap.size < W1s → Code.wp Try.prog T Q ⟨(List.toArray ((.pointer (some ⟨tb, 0, none⟩)) :: (.agg #[.int .i64 f, .int .i64 sf, .int .u64 sh, .int .u64 sl, .int .i64 df, .int .u64 dh, .int .u64 dl, .int .i64 pr, .int .i64 ho, .bool true, .int .u32 id, .int .i64 of, .bool mo, .slice xa xn xc, .slice da dn dc]) :: (u2) :: (.pointer (some ⟨w.heap.size, 0, none⟩)) :: (.pointer (some ⟨W1s, 0, none⟩)) :: (.int .i64 0) :: (u6) :: (u7) :: (u8) :: (u9) :: (u10) :: (u11) :: (u12) :: (u13) :: (u14) :: (u15) :: (u16) :: (u17) :: (u18) :: (u19) :: (u20) :: (u21) :: (u22) :: (u23) :: (u24) :: (u25) :: (u26) :: (u27) :: (u28) :: (u29) :: (u30) :: (u31) :: (u32) :: (u33) :: (u34) :: (u35) :: (u36) :: (u37) :: (u38) :: (u39) :: (u40) :: (u41) :: (u42) :: (u43) :: (u44) :: (u45) :: (u46) :: (u47) :: (u48) :: (u49) :: (u50) :: (u51) :: (u52) :: (u53) :: (u54) :: (u55) :: (u56) :: (u57) :: (u58) :: (u59) :: (u60) :: (u61) :: (u62) :: (u63) :: (u64) :: (u65) :: (u66) :: (u67) :: (u68) :: (u69) :: (u70) :: (u71) :: (u72) :: (u73) :: (u74) :: (u75) :: (u76) :: (u77) :: (u78) :: (u79) :: (u80) :: (u81) :: (u82) :: (u83) :: (u84) :: (u85) :: (u86) :: (u87) :: (u88) :: (u89) :: (u90) :: (u91) :: (u92) :: (u93) :: (u94) :: (u95) :: (u96) :: (u97) :: (u98) :: (u99) :: (u100) :: (u101) :: (u102) :: (u103) :: (u104) :: (u105) :: (u106) :: (u107) :: (u108) :: (u109) :: (u110) :: (u111) :: (u112) :: (u113) :: (u114) :: (u115) :: (u116) :: (u117) :: (u118) :: (u119) :: (u120) :: (u121) :: (u122) :: (u123) :: (u124) :: (u125) :: (u126) :: (u127) :: (u128) :: (u129) :: (u130) :: (u131) :: (u132) :: (u133) :: (u134) :: (u135) :: (u136) :: (u137) :: (u138) :: (u139) :: (u140) :: (u141) :: (u142) :: (u143) :: (u144) :: (u145) :: (u146) :: (u147) :: (u148) :: (u149) :: (u150) :: (u151) :: (u152) :: (u153) :: (u154) :: (u155) :: (u156) :: (u157) :: (u158) :: (u159) :: (u160) :: (u161) :: (u162) :: (u163) :: (u164) :: (u165) :: (u166) :: (u167) :: (u168) :: (u169) :: (u170) :: (u171) :: (u172) :: (u173) :: (u174) :: (u175) :: (u176) :: (u177) :: (u178) :: (u179) :: (u180) :: (u181) :: (u182) :: (u183) :: (u184) :: (u185) :: (u186) :: (u187) :: (u188) :: (u189) :: (u190) :: (u191) :: (u192) :: (u193) :: (u194) :: (u195) :: (u196) :: (u197) :: (u198) :: (u199) :: (u200) :: (u201) :: (u202) :: (u203) :: (u204) :: (u205) :: (u206) :: (u207) :: (u208) :: (u209) :: (u210) :: (u211) :: (u212) :: (u213) :: (u214) :: (u215) :: (u216) :: (u217) :: (u218) :: (u219) :: (u220) :: (u221) :: (u222) :: (u223) :: (u224) :: (u225) :: (u226) :: (u227) :: (u228) :: List.nil)), []⟩ W) :
  Code.wp Try.prog (Code.seq (Code.region 0 #[{ dst := some 3, op := Op.box 42 (Operand.tmp 1), type := 0, pos := "ref.go:121", after := #[], guard := none }, { dst := some 4, op := Op.alloc 42, type := 0, pos := "ref.go:121", after := #[], guard := none }, { dst := some 5, op := Op.assign (Operand.const (Value.int IntKind.i64 0)), type := 3, pos := "ref.go:121", after := #[], guard := none }] false) (Code.seq ((Code.region 1 #[{ dst := some 15, op := Op.fieldAddr 42 (Operand.tmp 3) 5, type := 0, pos := "ref.go:122", after := #[], guard := none }, { dst := some 16, op := Op.load 4 (Operand.tmp 15), type := 4, pos := "ref.go:122", after := #[{ on := 0, ground := Ground.data }], guard := none }, { dst := some 17, op := Op.unOp UnOp.not 4 (Operand.tmp 16), type := 4, pos := "ref.go:122", after := #[{ on := 1, ground := Ground.data }], guard := none }] false).seq (Code.cond (Operand.tmp 17) ((Code.region 2 #[{ dst := some 18, op := Op.load 42 (Operand.tmp 3), type := 42, pos := "ref.go:123", after := #[], guard := none }, { dst := none, op := Op.store 42 (Operand.tmp 4) (Operand.tmp 18), type := 0, pos := "ref.go:123", after := #[{ on := 0, ground := Ground.data }, { on := 0, ground := Ground.phase }], guard := none }, { dst := some 5, op := Op.assign (Operand.const (Value.int IntKind.i64 0)), type := 3, pos := "ref.go:123", after := #[{ on := 1, ground := Ground.chain }, { on := 0, ground := Ground.phase }, { on := 1, ground := Ground.phase }], guard := none }] false).seq Code.ret) Code.skip)) (Code.seq ((Code.region 3 (List.toArray (({ dst := some 19, op := Op.fieldAddr 42 (Operand.tmp 3) 0, type := 0, pos := "ref.go:125", after := #[], guard := none }) :: ({ dst := some 20, op := Op.load 3 (Operand.tmp 19), type := 3, pos := "ref.go:125", after := #[{ on := 0, ground := Ground.data }], guard := none }) :: ({ dst := some 21, op := Op.fieldAddr 42 (Operand.tmp 3) 1, type := 0, pos := "ref.go:125", after := #[], guard := none }) :: ({ dst := some 22, op := Op.load 37 (Operand.tmp 21), type := 37, pos := "ref.go:125", after := #[{ on := 2, ground := Ground.data }], guard := none }) :: ({ dst := some 23, op := Op.fieldAddr 42 (Operand.tmp 3) 2, type := 0, pos := "ref.go:125", after := #[], guard := none }) :: ({ dst := some 24, op := Op.load 37 (Operand.tmp 23), type := 37, pos := "ref.go:125", after := #[{ on := 4, ground := Ground.data }], guard := none }) :: ({ dst := some 25, op := Op.call { callee := Callee.value (Operand.func 35), args := #[Operand.tmp 20, Operand.tmp 22, Operand.tmp 24], argTypes := #[3, 37, 37] }, type := 4, pos := "ref.go:125", after := #[{ on := 1, ground := Ground.data }, { on := 3, ground := Ground.data }, { on := 5, ground := Ground.data }], guard := none }) :: ({ dst := some 26, op := Op.unOp UnOp.not 4 (Operand.tmp 25), type := 4, pos := "ref.go:125", after := #[{ on := 6, ground := Ground.data }], guard := none }) :: ({ dst := some 27, op := Op.move (Operand.tmp 26), type := 4, pos := "ref.go:125", after := #[{ on := 7, ground := Ground.data }, { on := 6, ground := Ground.chain }], guard := none }) :: ({ dst := some 28, op := Op.fieldAddr 42 (Operand.tmp 3) 7, type := 0, pos := "ref.go:125", after := #[{ on := 8, ground := Ground.guard }], guard := some (8, false) }) :: ({ dst := some 29, op := Op.load 3 (Operand.tmp 28), type := 3, pos := "ref.go:125", after := #[{ on := 9, ground := Ground.data }, { on := 8, ground := Ground.guard }], guard := some (8, false) }) :: ({ dst := some 30, op := Op.binOp BinOp.lss 3 (Operand.tmp 29) (Operand.const (Value.int IntKind.i64 0)) 3, type := 4, pos := "ref.go:125", after := #[{ on := 10, ground := Ground.data }, { on := 8, ground := Ground.guard }], guard := some (8, false) }) :: ({ dst := some 31, op := Op.pick (Operand.tmp 27) (Operand.const (Value.bool true)) (Operand.tmp 30), type := 4, pos := "ref.go:125", after := #[{ on := 8, ground := Ground.data }, { on := 11, ground := Ground.data }], guard := none }) :: ({ dst := some 32, op := Op.move (Operand.tmp 31), type := 4, pos := "ref.go:125", after := #[{ on := 12, ground := Ground.data }, { on := 8, ground := Ground.chain }], guard := none }) :: ({ dst := some 33, op := Op.fieldAddr 42 (Operand.tmp 3) 7, type := 0, pos := "ref.go:125", after := #[{ on := 13, ground := Ground.guard }], guard := some (13, false) }) :: ({ dst := some 34, op := Op.load 3 (Operand.tmp 33), type := 3, pos := "ref.go:125", after := #[{ on := 14, ground := Ground.data }, { on := 13, ground := Ground.guard }], guard := some (13, false) }) :: ({ dst := some 35, op := Op.binOp BinOp.gtr 3 (Operand.tmp 34) (Operand.const (Value.int IntKind.i64 65528)) 3, type := 4, pos := "ref.go:125", after := #[{ on := 15, ground := Ground.data }, { on := 13, ground := Ground.guard }], guard := some (13, false) }) :: ({ dst := some 36, op := Op.pick (Operand.tmp 32) (Operand.const (Value.bool true)) (Operand.tmp 35), type := 4, pos := "ref.go:125", after := #[{ on := 13, ground := Ground.data }, { on := 16, ground := Ground.data }], guard := none }) :: ({ dst := some 37, op := Op.move (Operand.tmp 36), type := 4, pos := "ref.go:125", after := #[{ on := 17, ground := Ground.data }, { on := 13, ground := Ground.chain }], guard := none }) :: ({ dst := some 38, op := Op.fieldAddr 42 (Operand.tmp 3) 7, type := 0, pos := "ref.go:125", after := #[{ on := 18, ground := Ground.guard }], guard := some (18, false) }) :: ({ dst := some 39, op := Op.load 3 (Operand.tmp 38), type := 3, pos := "ref.go:125", after := #[{ on := 19, ground := Ground.data }, { on := 18, ground := Ground.guard }], guard := some (18, false) }) :: ({ dst := some 40, op := Op.binOp BinOp.rem 3 (Operand.tmp 39) (Operand.const (Value.int IntKind.i64 8)) 3, type := 3, pos := "ref.go:125", after := #[{ on := 20, ground := Ground.data }, { on := 18, ground := Ground.guard }], guard := some (18, false) }) :: ({ dst := some 41, op := Op.binOp BinOp.neq 3 (Operand.tmp 40) (Operand.const (Value.int IntKind.i64 0)) 3, type := 4, pos := "ref.go:125", after := #[{ on := 21, ground := Ground.data }, { on := 18, ground := Ground.guard }], guard := some (18, false) }) :: ({ dst := some 42, op := Op.pick (Operand.tmp 37) (Operand.const (Value.bool true)) (Operand.tmp 41), type := 4, pos := "ref.go:125", after := #[{ on := 18, ground := Ground.data }, { on := 22, ground := Ground.data }], guard := none }) :: ({ dst := some 43, op := Op.move (Operand.tmp 42), type := 4, pos := "ref.go:125", after := #[{ on := 23, ground := Ground.data }, { on := 18, ground := Ground.chain }], guard := none }) :: ({ dst := some 44, op := Op.fieldAddr 42 (Operand.tmp 3) 10, type := 0, pos := "ref.go:125", after := #[{ on := 24, ground := Ground.guard }], guard := some (24, false) }) :: ({ dst := some 45, op := Op.load 40 (Operand.tmp 44), type := 40, pos := "ref.go:125", after := #[{ on := 25, ground := Ground.data }, { on := 24, ground := Ground.guard }], guard := some (24, false) }) :: ({ dst := some 46, op := Op.call { callee := Callee.builtin Builtin.len, args := #[Operand.tmp 45], argTypes := #[40] }, type := 3, pos := "ref.go:125", after := #[{ on := 26, ground := Ground.data }, { on := 24, ground := Ground.guard }], guard := some (24, false) }) :: ({ dst := some 47, op := Op.fieldAddr 42 (Operand.tmp 3) 7, type := 0, pos := "ref.go:125", after := #[{ on := 24, ground := Ground.guard }], guard := some (24, false) }) :: ({ dst := some 48, op := Op.load 3 (Operand.tmp 47), type := 3, pos := "ref.go:125", after := #[{ on := 28, ground := Ground.data }, { on := 24, ground := Ground.guard }], guard := some (24, false) }) :: ({ dst := some 49, op := Op.binOp BinOp.sub 3 (Operand.const (Value.int IntKind.i64 65535)) (Operand.tmp 48) 3, type := 3, pos := "ref.go:125", after := #[{ on := 29, ground := Ground.data }, { on := 24, ground := Ground.guard }], guard := some (24, false) }) :: ({ dst := some 50, op := Op.binOp BinOp.gtr 3 (Operand.tmp 46) (Operand.tmp 49) 3, type := 4, pos := "ref.go:125", after := #[{ on := 27, ground := Ground.data }, { on := 30, ground := Ground.data }, { on := 24, ground := Ground.guard }], guard := some (24, false) }) :: ({ dst := some 51, op := Op.pick (Operand.tmp 43) (Operand.const (Value.bool true)) (Operand.tmp 50), type := 4, pos := "ref.go:125", after := #[{ on := 24, ground := Ground.data }, { on := 31, ground := Ground.data }], guard := none }) :: List.nil)) false).seq (Code.cond (Operand.tmp 51) ((Code.region 4 #[{ dst := some 52, op := Op.build 42 #[], type := 42, pos := "ref.go:126", after := #[], guard := none }, { dst := none, op := Op.store 42 (Operand.tmp 4) (Operand.tmp 52), type := 0, pos := "ref.go:126", after := #[{ on := 0, ground := Ground.data }, { on := 0, ground := Ground.phase }], guard := none }, { dst := some 5, op := Op.assign (Operand.const (Value.int IntKind.i64 1)), type := 3, pos := "ref.go:126", after := #[{ on := 1, ground := Ground.chain }, { on := 0, ground := Ground.phase }, { on := 1, ground := Ground.phase }], guard := none }] false).seq Code.ret) Code.skip)) (Code.seq ((Code.region 5 #[{ dst := some 53, op := Op.fieldAddr 42 (Operand.tmp 3) 10, type := 0, pos := "ref.go:128", after := #[], guard := none }, { dst := some 54, op := Op.load 40 (Operand.tmp 53), type := 40, pos := "ref.go:128", after := #[{ on := 0, ground := Ground.data }], guard := none }, { dst := some 55, op := Op.call { callee := Callee.builtin Builtin.len, args := #[Operand.tmp 54], argTypes := #[40] }, type := 3, pos := "ref.go:128", after := #[{ on := 1, ground := Ground.data }], guard := none }, { dst := some 56, op := Op.binOp BinOp.eql 3 (Operand.tmp 55) (Operand.const (Value.int IntKind.i64 0)) 3, type := 4, pos := "ref.go:128", after := #[{ on := 2, ground := Ground.data }], guard := none }, { dst := some 57, op := Op.move (Operand.tmp 56), type := 4, pos := "ref.go:128", after := #[{ on := 3, ground := Ground.data }], guard := none }, { dst := some 58, op := Op.fieldAddr 42 (Operand.tmp 3) 8, type := 0, pos := "ref.go:128", after := #[{ on := 4, ground := Ground.guard }], guard := some (4, false) }, { dst := some 59, op := Op.load 4 (Operand.tmp 58), type := 4, pos := "ref.go:128", after := #[{ on := 5, ground := Ground.data }, { on := 4, ground := Ground.guard }], guard := some (4, false) }, { dst := some 60, op := Op.move (Operand.tmp 59), type := 4, pos := "ref.go:128", after := #[{ on := 6, ground := Ground.data }, { on := 4, ground := Ground.chain }, { on := 4, ground := Ground.guard }], guard := some (4, false) }, { dst := some 61, op := Op.fieldAddr 42 (Operand.tmp 3) 10, type := 0, pos := "ref.go:128", after := #[{ on := 7, ground := Ground.guard }], guard := some (7, true) }, { dst := some 62, op := Op.load 40 (Operand.tmp 61), type := 40, pos := "ref.go:128", after := #[{ on := 8, ground := Ground.data }, { on := 7, ground := Ground.guard }], guard := some (7, true) }, { dst := some 63, op := Op.call { callee := Callee.builtin Builtin.len, args := #[Operand.tmp 62], argTypes := #[40] }, type := 3, pos := "ref.go:128", after := #[{ on := 9, ground := Ground.data }, { on := 7, ground := Ground.guard }], guard := some (7, true) }, { dst := some 64, op := Op.binOp BinOp.rem 3 (Operand.tmp 63) (Operand.const (Value.int IntKind.i64 8)) 3, type := 3, pos := "ref.go:128", after := #[{ on := 10, ground := Ground.data }, { on := 7, ground := Ground.guard }], guard := some (7, true) }, { dst := some 65, op := Op.binOp BinOp.neq 3 (Operand.tmp 64) (Operand.const (Value.int IntKind.i64 0)) 3, type := 4, pos := "ref.go:128", after := #[{ on := 11, ground := Ground.data }, { on := 7, ground := Ground.guard }], guard := some (7, true) }, { dst := some 66, op := Op.pick (Operand.tmp 60) (Operand.tmp 65) (Operand.const (Value.bool false)), type := 4, pos := "ref.go:128", after := #[{ on := 7, ground := Ground.data }, { on := 12, ground := Ground.data }, { on := 4, ground := Ground.guard }], guard := some (4, false) }, { dst := some 67, op := Op.pick (Operand.tmp 57) (Operand.const (Value.bool true)) (Operand.tmp 66), type := 4, pos := "ref.go:128", after := #[{ on := 4, ground := Ground.data }, { on := 13, ground := Ground.data }], guard := none }] false).seq (Code.cond (Operand.tmp 67) ((Code.region 6 #[{ dst := some 68, op := Op.build 42 #[], type := 42, pos := "ref.go:129", after := #[], guard := none }, { dst := none, op := Op.store 42 (Operand.tmp 4) (Operand.tmp 68), type := 0, pos := "ref.go:129", after := #[{ on := 0, ground := Ground.data }, { on := 0, ground := Ground.phase }], guard := none }, { dst := some 5, op := Op.assign (Operand.const (Value.int IntKind.i64 5)), type := 3, pos := "ref.go:129", after := #[{ on := 1, ground := Ground.chain }, { on := 0, ground := Ground.phase }, { on := 1, ground := Ground.phase }], guard := none }] false).seq Code.ret) Code.skip)) T)))) Q ⟨(List.toArray ((.pointer (some ⟨tb, 0, none⟩)) :: (.agg #[.int .i64 f, .int .i64 sf, .int .u64 sh, .int .u64 sl, .int .i64 df, .int .u64 dh, .int .u64 dl, .int .i64 pr, .int .i64 ho, .bool true, .int .u32 id, .int .i64 of, .bool mo, .slice xa xn xc, .slice da dn dc]) :: (u2) :: (u3) :: (u4) :: (u5) :: (u6) :: (u7) :: (u8) :: (u9) :: (u10) :: (u11) :: (u12) :: (u13) :: (u14) :: (u15) :: (u16) :: (u17) :: (u18) :: (u19) :: (u20) :: (u21) :: (u22) :: (u23) :: (u24) :: (u25) :: (u26) :: (u27) :: (u28) :: (u29) :: (u30) :: (u31) :: (u32) :: (u33) :: (u34) :: (u35) :: (u36) :: (u37) :: (u38) :: (u39) :: (u40) :: (u41) :: (u42) :: (u43) :: (u44) :: (u45) :: (u46) :: (u47) :: (u48) :: (u49) :: (u50) :: (u51) :: (u52) :: (u53) :: (u54) :: (u55) :: (u56) :: (u57) :: (u58) :: (u59) :: (u60) :: (u61) :: (u62) :: (u63) :: (u64) :: (u65) :: (u66) :: (u67) :: (u68) :: (u69) :: (u70) :: (u71) :: (u72) :: (u73) :: (u74) :: (u75) :: (u76) :: (u77) :: (u78) :: (u79) :: (u80) :: (u81) :: (u82) :: (u83) :: (u84) :: (u85) :: (u86) :: (u87) :: (u88) :: (u89) :: (u90) :: (u91) :: (u92) :: (u93) :: (u94) :: (u95) :: (u96) :: (u97) :: (u98) :: (u99) :: (u100) :: (u101) :: (u102) :: (u103) :: (u104) :: (u105) :: (u106) :: (u107) :: (u108) :: (u109) :: (u110) :: (u111) :: (u112) :: (u113) :: (u114) :: (u115) :: (u116) :: (u117) :: (u118) :: (u119) :: (u120) :: (u121) :: (u122) :: (u123) :: (u124) :: (u125) :: (u126) :: (u127) :: (u128) :: (u129) :: (u130) :: (u131) :: (u132) :: (u133) :: (u134) :: (u135) :: (u136) :: (u137) :: (u138) :: (u139) :: (u140) :: (u141) :: (u142) :: (u143) :: (u144) :: (u145) :: (u146) :: (u147) :: (u148) :: (u149) :: (u150) :: (u151) :: (u152) :: (u153) :: (u154) :: (u155) :: (u156) :: (u157) :: (u158) :: (u159) :: (u160) :: (u161) :: (u162) :: (u163) :: (u164) :: (u165) :: (u166) :: (u167) :: (u168) :: (u169) :: (u170) :: (u171) :: (u172) :: (u173) :: (u174) :: (u175) :: (u176) :: (u177) :: (u178) :: (u179) :: (u180) :: (u181) :: (u182) :: (u183) :: (u184) :: (u185) :: (u186) :: (u187) :: (u188) :: (u189) :: (u190) :: (u191) :: (u192) :: (u193) :: (u194) :: (u195) :: (u196) :: (u197) :: (u198) :: (u199) :: (u200) :: (u201) :: (u202) :: (u203) :: (u204) :: (u205) :: (u206) :: (u207) :: (u208) :: (u209) :: (u210) :: (u211) :: (u212) :: (u213) :: (u214) :: (u215) :: (u216) :: (u217) :: (u218) :: (u219) :: (u220) :: (u221) :: (u222) :: (u223) :: (u224) :: (u225) :: (u226) :: (u227) :: (u228) :: List.nil)), []⟩ w := by
 have HE : Hid (endsB f ⟨sf, sh, sl⟩ ⟨df, dh, dl⟩ = false ↔ ((Ad.right ⟨sf, sh, sl⟩ && (sf == f)) = false ∨ (Ad.right ⟨df, dh, dl⟩ && (df == f)) = false)) := by
  show endsB f ⟨sf, sh, sl⟩ ⟨df, dh, dl⟩ = false ↔ _
  unfold endsB
  cases Ad.right ⟨sf, sh, sl⟩ <;> cases Ad.right ⟨df, dh, dl⟩ <;> cases (sf == f) <;> cases (df == f) <;> simp
 have hends : endsB f ⟨sf, sh, sl⟩ ⟨df, dh, dl⟩ = true := by
  cases he : endsB f ⟨sf, sh, sl⟩ ⟨df, dh, dl⟩ with
  | true => rfl
  | false =>
   unfold wrongF at hw
   rw [if_pos (HE.out.1 he)] at hw
   cases hw
 have hnum : (0 ≤ of ∧ of ≤ 65528 ∧ of % 8 = 0 ∧ (dn : Int) ≤ 65535 - of) ∧ ¬ dn = 0 ∧ (mo = true → dn % 8 = 0) := by
  unfold wrongF at hw
  rw [if_neg (fun hh => by rw [HE.out.2 hh] at hends; cases hends)] at hw
  split at hw
  ·cases hw
  ·next h1 =>
   split at hw
   ·cases hw
   ·next h2 =>
    refine ⟨⟨by omega, by omega, by omega, by omega⟩, by omega, fun hm => ?_⟩
    by_cases h3 : dn % 8 = 0
    ·exact h3
    ·exact absurd (.inr ⟨hm, h3⟩) h2
 obtain ⟨⟨o1, o2, o3, o4⟩, o5, o6⟩ := hnum
 have KE : Hid (∀ W, Calls Try.prog 35 #[.int .i64 f, .agg #[.int .i64 sf, .int .u64 sh, .int .u64 sl], .agg #[.int .i64 df, .int .u64 dh, .int .u64 dl]] W fun e w' => e = .returned (.bool (endsB f ⟨sf, sh, sl⟩ ⟨df, dh, dl⟩)) ∧ Below W.heap.size W w') := fun W => rEnds_any f sf sh sl df dh dl W hsl hdl
 rw [hends] at KE
 clear HE hends hw
 obtain ⟨W1, hW1⟩ : ∃ W1, w.alloc (.cells #[.int .i64 f, .int .i64 sf, .int .u64 sh, .int .u64 sl, .int .i64 df, .int .u64 dh, .int .u64 dl, .int .i64 pr, .int .i64 ho, .bool true, .int .u32 id, .int .i64 of, .bool mo, .slice xa xn xc, .slice da dn dc] 42) = W1 := ⟨_, rfl⟩
 obtain ⟨W2, hW2⟩ : ∃ W2, W1.alloc (.cells z15 42) = W2 := ⟨_, rfl⟩
 have b2 := bel_al (bel_nw hW1) hW2
 have HB : Hid (Blk W2 w.heap.size 42 #[.int .i64 f, .int .i64 sf, .int .u64 sh, .int .u64 sl, .int .i64 df, .int .u64 dh, .int .u64 dl, .int .i64 pr, .int .i64 ho, .bool true, .int .u32 id, .int .i64 of, .bool mo, .slice xa xn xc, .slice da dn dc]) := (blk_nw hW1).al hW2
 have HRB : Hid (Blk W2 W1.heap.size 42 z15) := blk_nw hW2
 have hlt1 : w.heap.size < W1.heap.size := by rw [← hW1]; simp
 have HLT : Hid (w.heap.size < W1.heap.size) := hlt1
 clear hlt1
 have atS : CellsAt W2 w.heap.size 1 #[.int .i64 sf, .int .u64 sh, .int .u64 sl] := sub_at HB.out (fun j v hj => by
  match j, hj with
  | 0, hj => exact hj
  | 1, hj => exact hj
  | 2, hj => exact hj)
 have atD : CellsAt W2 w.heap.size 4 #[.int .i64 df, .int .u64 dh, .int .u64 dl] := sub_at HB.out (fun j v hj => by
  match j, hj with
  | 0, hj => exact hj
  | 1, hj => exact hj
  | 2, hj => exact hj)
 have hs3 : (Try.prog.info? 37).map (·.size) = some 3 := by kernel_rfl
 have c9 := HB.out.cell 9 (.bool true) rfl
 have c0 := HB.out.cell 0 (.int .i64 f) rfl
 have K1 : Hid _ := KE.out W2
 have HHT : Hid _ := @HT
 clear HT
 go_wp2_with (first
  | (refine wpList_load_at rfl _ _ rfl w.heap.size 1 (by rfl) _ atS Try.underlying37 hs3 ?_)
  | (refine wpList_load_at rfl _ _ rfl w.heap.size 4 (by rfl) _ atD Try.underlying37 hs3 ?_))
 refine Calls.mono K1.out ?_
 rintro e W3 ⟨rfl, q3⟩
 have b3 := bel_tr b2 q3
 have RB : Hid (Blk W3 W1.heap.size 42 z15) := HRB.out.kept q3
 have HB3 : Hid (Blk W3 w.heap.size 42 #[.int .i64 f, .int .i64 sf, .int .u64 sh, .int .u64 sl, .int .i64 df, .int .u64 dh, .int .u64 dl, .int .i64 pr, .int .i64 ho, .bool true, .int .u32 id, .int .i64 of, .bool mo, .slice xa xn xc, .slice da dn dc]) := HB.out.kept q3
 have c11 := HB3.out.cell 11 (.int .i64 of) rfl
 have c12 := HB3.out.cell 12 (.bool mo) rfl
 have c14 := HB3.out.cell 14 (.slice da dn dc) rfl
 have HS3 : Hid (W1.heap.size < W3.heap.size) := RB.out.lt
 clear K1 KE atS atD c9 c0 hW1 hW2 q3 HB HRB b2
 have hr8 : Int.tmod of 8 = 0 := by rw [Int.tmod_eq_emod_of_nonneg (by omega)]; exact o3
 have hw8 : IntKind.i64.wrap 0 = 0 := rfl
 have hsub : IntKind.i64.wrap (65535 - of) = 65535 - of := by rw [IntKind.wrap_i64]; omega
 have h5' : ((dn : Int) == 0) = false := by simp; omega
 have d1 : ¬ of < 0 := by omega
 have d2 : ¬ of > 65528 := by omega
 have d4 : ¬ (dn : Int) > 65535 - of := by omega
 have d3 : Int.tmod (dn : Int) 8 = ((dn % 8 : Nat) : Int) := by rw [Int.tmod_eq_emod_of_nonneg (by omega)]; omega
 obtain ⟨r8, hr⟩ : ∃ r8, dn % 8 = r8 := ⟨_, rfl⟩
 rw [hr] at d3 o6
 have hwd : IntKind.i64.wrap (r8 : Int) = (r8 : Int) := by rw [IntKind.wrap_i64]; omega
 have hM : mo = false ∨ (mo = true ∧ r8 = 0) := by cases mo with | false => exact .inl rfl | true => exact .inr ⟨rfl, o6 rfl⟩
 clear hr o6
 rcases hM with rfl | ⟨rfl, rfl⟩
 ·go_wp2_with fail
  exact HHT.out W3 W1.heap.size b3 HB3.out RB.out HLT.out
 ·go_wp2_with fail
  exact HHT.out W3 W1.heap.size b3 HB3.out RB.out HLT.out
end Go.Proofs.Ytkeeidfpgfdldaa
