/- Texts joined: FpQc -/
import Derived.Test.YtkeeidfpgfdldaaFpz26
namespace Go.Proofs.Ytkeeidfpgfdldaa
abbrev fpz38o0 : Oper := { dst := some 160, op := Op.call { callee := Callee.value (.func 22), args := #[.tmp 159], argTypes := #[77] }, type := 3, pos := "ref.go:150", after := #[{ on := 15, ground := Ground.data }, { on := 14, ground := Ground.chain }, { on := 14, ground := Ground.guard }], guard := some (14, false) }
abbrev fpz38o1 : Oper := { dst := some 151, op := Op.call { callee := Callee.builtin Builtin.len, args := #[.tmp 150], argTypes := #[29] }, type := 3, pos := "ref.go:150", after := #[{ on := 6, ground := Ground.data }, { on := 2, ground := Ground.guard }], guard := some (2, true) }
abbrev fpz38o2 : Oper := { dst := some 163, op := Op.call { callee := Callee.builtin Builtin.len, args := #[.tmp 162], argTypes := #[40] }, type := 3, pos := "ref.go:150", after := #[{ on := 18, ground := Ground.data }, { on := 14, ground := Ground.guard }], guard := some (14, false) }
abbrev fpz38o3 : Oper := { dst := some 169, op := Op.binOp BinOp.gtr 3 (.tmp 164) (.tmp 168) 3, type := 4, pos := "ref.go:150", after := #[{ on := 20, ground := Ground.data }, { on := 24, ground := Ground.data }, { on := 14, ground := Ground.guard }], guard := some (14, false) }
abbrev fpz38o4 : Oper := { dst := some 164, op := Op.binOp BinOp.add 3 (.tmp 160) (.tmp 163) 3, type := 3, pos := "ref.go:150", after := #[{ on := 16, ground := Ground.data }, { on := 19, ground := Ground.data }, { on := 14, ground := Ground.guard }], guard := some (14, false) }
abbrev fpz38o5 : Oper := { dst := some 156, op := Op.binOp BinOp.geq 3 (.tmp 151) (.tmp 155) 3, type := 4, pos := "ref.go:150", after := #[{ on := 7, ground := Ground.data }, { on := 11, ground := Ground.data }, { on := 2, ground := Ground.guard }], guard := some (2, true) }
abbrev fpz38o6 : Oper := { dst := some 150, op := Op.load 29 (.tmp 149), type := 29, pos := "ref.go:150", after := #[{ on := 5, ground := Ground.data }, { on := 2, ground := Ground.guard }], guard := some (2, true) }
abbrev fpz38o7 : Oper := { dst := some 167, op := Op.fieldAddr 31 (.tmp 166) 1, type := 0, pos := "ref.go:150", after := #[{ on := 22, ground := Ground.data }, { on := 14, ground := Ground.guard }], guard := some (14, false) }
abbrev fpz38o8 : Oper := { dst := some 149, op := Op.fieldAddr 31 (.tmp 148) 4, type := 0, pos := "ref.go:150", after := #[{ on := 4, ground := Ground.data }, { on := 2, ground := Ground.guard }], guard := some (2, true) }
abbrev fpz38o9 : Oper := { dst := some 154, op := Op.fieldAddr 31 (.tmp 153) 0, type := 0, pos := "ref.go:150", after := #[{ on := 9, ground := Ground.data }, { on := 2, ground := Ground.guard }], guard := some (2, true) }
abbrev fpz38o10 : Oper := { dst := some 157, op := Op.pick (.tmp 146) (.tmp 156) (.const (.bool false)), type := 4, pos := "ref.go:150", after := #[{ on := 2, ground := Ground.data }, { on := 12, ground := Ground.data }], guard := none }
abbrev fpz38o11 : Oper := { dst := some 170, op := Op.pick (.tmp 158) (.const (.bool true)) (.tmp 169), type := 4, pos := "ref.go:150", after := #[{ on := 14, ground := Ground.data }, { on := 25, ground := Ground.data }], guard := none }
abbrev fpz38o12 : Oper := { dst := some 162, op := Op.load 40 (.tmp 161), type := 40, pos := "ref.go:150", after := #[{ on := 17, ground := Ground.data }, { on := 14, ground := Ground.guard }], guard := some (14, false) }
abbrev fpz38o13 : Oper := { dst := some 168, op := Op.load 3 (.tmp 167), type := 3, pos := "ref.go:150", after := #[{ on := 23, ground := Ground.data }, { on := 14, ground := Ground.guard }], guard := some (14, false) }
abbrev fpz38o14 : Oper := { dst := some 155, op := Op.load 3 (.tmp 154), type := 3, pos := "ref.go:150", after := #[{ on := 10, ground := Ground.data }, { on := 2, ground := Ground.guard }], guard := some (2, true) }
abbrev fpz38o15 : Oper := { dst := some 145, op := Op.binOp BinOp.lss 3 (.tmp 144) (.const (.int .i64 0)) 3, type := 4, pos := "ref.go:150", after := #[{ on := 0, ground := Ground.data }], guard := none }
abbrev fpz38o16 : Oper := { dst := some 166, op := Op.nilCheck (.tmp 165), type := 0, pos := "ref.go:150", after := #[{ on := 21, ground := Ground.data }, { on := 14, ground := Ground.guard }], guard := some (14, false) }
abbrev fpz38o17 : Oper := { dst := some 148, op := Op.nilCheck (.tmp 147), type := 0, pos := "ref.go:150", after := #[{ on := 3, ground := Ground.data }, { on := 2, ground := Ground.guard }], guard := some (2, true) }
abbrev fpz38o18 : Oper := { dst := some 153, op := Op.nilCheck (.tmp 152), type := 0, pos := "ref.go:150", after := #[{ on := 8, ground := Ground.data }, { on := 2, ground := Ground.guard }], guard := some (2, true) }
abbrev fpz38o19 : Oper := { dst := some 158, op := Op.move (.tmp 157), type := 4, pos := "ref.go:150", after := #[{ on := 13, ground := Ground.data }, { on := 2, ground := Ground.chain }], guard := none }
abbrev fpz38o20 : Oper := { dst := some 159, op := Op.move (.tmp 0), type := 77, pos := "ref.go:150", after := #[{ on := 14, ground := Ground.guard }], guard := some (14, false) }
abbrev fpz38o21 : Oper := { dst := some 165, op := Op.move (.tmp 0), type := 77, pos := "ref.go:150", after := #[{ on := 14, ground := Ground.guard }], guard := some (14, false) }
abbrev fpz38o22 : Oper := { dst := some 147, op := Op.move (.tmp 0), type := 77, pos := "ref.go:150", after := #[{ on := 2, ground := Ground.guard }], guard := some (2, true) }
abbrev fpz38o23 : Oper := { dst := some 152, op := Op.move (.tmp 0), type := 77, pos := "ref.go:150", after := #[{ on := 2, ground := Ground.guard }], guard := some (2, true) }
abbrev fpz38o24 : Oper := { dst := some 161, op := Op.fieldAddr 42 (.tmp 3) 10, type := 0, pos := "ref.go:150", after := #[{ on := 14, ground := Ground.guard }], guard := some (14, false) }
abbrev fpz38o25 : Oper := { dst := some 160, op := Op.call { callee := Callee.value (Operand.func 22), args := #[Operand.tmp 159], argTypes := #[77] }, type := 3, pos := "ref.go:150", after := #[{ on := 15, ground := Ground.data }, { on := 14, ground := Ground.chain }, { on := 14, ground := Ground.guard }], guard := some (14, false) }
abbrev fpz38o26 : Oper := { dst := some 146, op := Op.move (.tmp 145), type := 4, pos := "ref.go:150", after := #[{ on := 1, ground := Ground.data }], guard := none }
abbrev fpz38o27 : Oper := { dst := some 151, op := Op.call { callee := Callee.builtin Builtin.len, args := #[Operand.tmp 150], argTypes := #[29] }, type := 3, pos := "ref.go:150", after := #[{ on := 6, ground := Ground.data }, { on := 2, ground := Ground.guard }], guard := some (2, true) }
abbrev fpz38o28 : Oper := { dst := some 169, op := Op.binOp BinOp.gtr 3 (Operand.tmp 164) (Operand.tmp 168) 3, type := 4, pos := "ref.go:150", after := #[{ on := 20, ground := Ground.data }, { on := 24, ground := Ground.data }, { on := 14, ground := Ground.guard }], guard := some (14, false) }
abbrev fpz38o29 : Oper := { dst := some 164, op := Op.binOp BinOp.add 3 (Operand.tmp 160) (Operand.tmp 163) 3, type := 3, pos := "ref.go:150", after := #[{ on := 16, ground := Ground.data }, { on := 19, ground := Ground.data }, { on := 14, ground := Ground.guard }], guard := some (14, false) }
abbrev fpz38o30 : Oper := { dst := some 156, op := Op.binOp BinOp.geq 3 (Operand.tmp 151) (Operand.tmp 155) 3, type := 4, pos := "ref.go:150", after := #[{ on := 7, ground := Ground.data }, { on := 11, ground := Ground.data }, { on := 2, ground := Ground.guard }], guard := some (2, true) }
abbrev fpz38o31 : Oper := { dst := some 163, op := Op.call { callee := Callee.builtin Builtin.len, args := #[Operand.tmp 162], argTypes := #[40] }, type := 3, pos := "ref.go:150", after := #[{ on := 18, ground := Ground.data }, { on := 14, ground := Ground.guard }], guard := some (14, false) }
abbrev fpz38o32 : Oper := { dst := some 144, op := Op.move (.tmp 7), type := 3, pos := "ref.go:150", after := #[], guard := none }
abbrev fpz38o33 : Oper := { dst := some 5, op := Op.assign (Operand.const (Value.int IntKind.i64 12)), type := 3, pos := "ref.go:151", after := #[{ on := 1, ground := Ground.chain }, { on := 0, ground := Ground.phase }, { on := 1, ground := Ground.phase }], guard := none }
abbrev fpz38o34 : Oper := { dst := some 157, op := Op.pick (Operand.tmp 146) (Operand.tmp 156) (Operand.const (Value.bool false)), type := 4, pos := "ref.go:150", after := #[{ on := 2, ground := Ground.data }, { on := 12, ground := Ground.data }], guard := none }
abbrev fpz38o35 : Oper := { dst := some 170, op := Op.pick (Operand.tmp 158) (Operand.const (Value.bool true)) (Operand.tmp 169), type := 4, pos := "ref.go:150", after := #[{ on := 14, ground := Ground.data }, { on := 25, ground := Ground.data }], guard := none }
abbrev fpz38o36 : Oper := { dst := some 150, op := Op.load 29 (Operand.tmp 149), type := 29, pos := "ref.go:150", after := #[{ on := 5, ground := Ground.data }, { on := 2, ground := Ground.guard }], guard := some (2, true) }
abbrev fpz38o37 : Oper := { dst := some 167, op := Op.fieldAddr 31 (Operand.tmp 166) 1, type := 0, pos := "ref.go:150", after := #[{ on := 22, ground := Ground.data }, { on := 14, ground := Ground.guard }], guard := some (14, false) }
abbrev fpz38o38 : Oper := { dst := some 149, op := Op.fieldAddr 31 (Operand.tmp 148) 4, type := 0, pos := "ref.go:150", after := #[{ on := 4, ground := Ground.data }, { on := 2, ground := Ground.guard }], guard := some (2, true) }
abbrev fpz38o39 : Oper := { dst := some 154, op := Op.fieldAddr 31 (Operand.tmp 153) 0, type := 0, pos := "ref.go:150", after := #[{ on := 9, ground := Ground.data }, { on := 2, ground := Ground.guard }], guard := some (2, true) }
abbrev fpz38o40 : Oper := { dst := some 145, op := Op.binOp BinOp.lss 3 (Operand.tmp 144) (Operand.const (Value.int IntKind.i64 0)) 3, type := 4, pos := "ref.go:150", after := #[{ on := 0, ground := Ground.data }], guard := none }
abbrev fpz38o41 : Oper := { dst := some 162, op := Op.load 40 (Operand.tmp 161), type := 40, pos := "ref.go:150", after := #[{ on := 17, ground := Ground.data }, { on := 14, ground := Ground.guard }], guard := some (14, false) }
abbrev fpz38o42 : Oper := { dst := some 168, op := Op.load 3 (Operand.tmp 167), type := 3, pos := "ref.go:150", after := #[{ on := 23, ground := Ground.data }, { on := 14, ground := Ground.guard }], guard := some (14, false) }
abbrev fpz38o43 : Oper := { dst := some 155, op := Op.load 3 (Operand.tmp 154), type := 3, pos := "ref.go:150", after := #[{ on := 10, ground := Ground.data }, { on := 2, ground := Ground.guard }], guard := some (2, true) }
abbrev fpz38o44 : Oper := { dst := none, op := Op.store 42 (Operand.tmp 4) (Operand.tmp 171), type := 0, pos := "ref.go:151", after := #[{ on := 0, ground := Ground.data }, { on := 0, ground := Ground.phase }], guard := none }
abbrev fpz38o45 : Oper := { dst := some 166, op := Op.nilCheck (Operand.tmp 165), type := 0, pos := "ref.go:150", after := #[{ on := 21, ground := Ground.data }, { on := 14, ground := Ground.guard }], guard := some (14, false) }
abbrev fpz38o46 : Oper := { dst := some 148, op := Op.nilCheck (Operand.tmp 147), type := 0, pos := "ref.go:150", after := #[{ on := 3, ground := Ground.data }, { on := 2, ground := Ground.guard }], guard := some (2, true) }
abbrev fpz38o47 : Oper := { dst := some 153, op := Op.nilCheck (Operand.tmp 152), type := 0, pos := "ref.go:150", after := #[{ on := 8, ground := Ground.data }, { on := 2, ground := Ground.guard }], guard := some (2, true) }
abbrev fpz38o48 : Oper := { dst := some 158, op := Op.move (Operand.tmp 157), type := 4, pos := "ref.go:150", after := #[{ on := 13, ground := Ground.data }, { on := 2, ground := Ground.chain }], guard := none }
abbrev fpz38o49 : Oper := { dst := some 159, op := Op.move (Operand.tmp 0), type := 77, pos := "ref.go:150", after := #[{ on := 14, ground := Ground.guard }], guard := some (14, false) }
abbrev fpz38o50 : Oper := { dst := some 165, op := Op.move (Operand.tmp 0), type := 77, pos := "ref.go:150", after := #[{ on := 14, ground := Ground.guard }], guard := some (14, false) }
abbrev fpz38o51 : Oper := { dst := some 147, op := Op.move (Operand.tmp 0), type := 77, pos := "ref.go:150", after := #[{ on := 2, ground := Ground.guard }], guard := some (2, true) }
abbrev fpz38o52 : Oper := { dst := some 152, op := Op.move (Operand.tmp 0), type := 77, pos := "ref.go:150", after := #[{ on := 2, ground := Ground.guard }], guard := some (2, true) }
abbrev fpz38o53 : Oper := { dst := some 161, op := Op.fieldAddr 42 (Operand.tmp 3) 10, type := 0, pos := "ref.go:150", after := #[{ on := 14, ground := Ground.guard }], guard := some (14, false) }
abbrev fpz38o54 : Oper := { dst := some 146, op := Op.move (Operand.tmp 145), type := 4, pos := "ref.go:150", after := #[{ on := 1, ground := Ground.data }], guard := none }
abbrev fpz38o55 : Oper := { dst := some 171, op := Op.build 42 #[], type := 42, pos := "ref.go:151", after := #[], guard := none }
abbrev fpz38o56 : Oper := { dst := some 144, op := Op.move (Operand.tmp 7), type := 3, pos := "ref.go:150", after := #[], guard := none }
end Go.Proofs.Ytkeeidfpgfdldaa
namespace Go.Proofs.Ytkeeidfpgfdldaa
open Go.RowKit
set_option linter.unusedVariables false
set_option linter.unusedSimpArgs false
set_option maxRecDepth 100000 in
set_option maxHeartbeats 16000000 in
theorem put_Cn (T : Code) (R : Ending → World → Prop) (tb bx ob nb gb B : Nat) (ms ro li cl : Int) (ga : Option Addr) (gc : Nat) (L : List DgIn) (f sf sh sl df dh dl pr ho : Int) (id of : Int) (mo : Bool) (xa : Option Addr) (xn xc : Nat) (da : Option Addr) (dn dc : Nat) (w : World) (h : DocT w tb ms ro li cl ga gc L) (hlen : lenG L ≤ 1099511627776) (hdn : dn ≤ 65535) (hbx : Blk w bx 42 #[.int .i64 f, .int .i64 sf, .int .u64 sh, .int .u64 sl, .int .i64 df, .int .u64 dh, .int .u64 dl, .int .i64 pr, .int .i64 ho, .bool true, .int .u32 id, .int .i64 of, .bool mo, .slice xa xn xc, .slice da dn dc]) (hob : Blk w ob 42 z15) (hB : B ≤ w.heap.size) (hBo : B ≤ ob) {u2 u8 u10 u11 u12 u13 u14 u15 u16 u17 u18 u19 u20 u21 u22 u23 u24 u25 u26 u27 u28 u29 u30 u31 u32 u33 u34 u35 u36 u37 u38 u39 u40 u41 u42 u43 u44 u45 u46 u47 u48 u49 u50 u51 u52 u53 u54 u55 u56 u57 u58 u59 u60 u61 u62 u63 u64 u65 u66 u67 u68 u69 u70 u71 u72 u73 u74 u75 u76 u77 u78 u79 u80 u81 u82 u83 u84 u85 u86 u87 u88 u89 u90 u91 u92 u93 u94 u95 u96 u97 u98 u99 u100 u101 u102 u103 u104 u105 u106 u107 u108 u109 u110 u111 u112 u113 u114 u115 u116 u117 u118 u119 u120 u121 u122 u123 u124 u125 u126 u127 u128 u129 u130 u131 u132 u133 u134 u135 u136 u137 u138 u139 u140 u141 u142 u143 u144 u145 u146 u147 u148 u149 u150 u151 u152 u153 u154 u155 u156 u157 u158 u159 u160 u161 u162 u163 u164 u165 u166 u167 u168 u169 u170 u171 u172 u173 u174 u175 u176 u177 u178 u179 u180 u181 u182 u183 u184 u185 u186 u187 u188 u189 u190 u191 u192 u193 u194 u195 u196 u197 u198 u199 u200 u201 u202 u203 u204 u205 u206 u207 u208 u209 u210 u211 u212 u213 u214 u215 u216 u217 u218 u219 u220 u221 u222 u223 u224 u225 u226 u227 u228 : Value} (HT : ¬ (ms ≤ L.length ∨ ro < lenG L + dn) → ∀ {u2 u8 u10 u11 u12 u13 u14 u15 u16 u17 u18 u19 u20 u21 u22 u23 u24 u25 u26 u27 u28 u29 u30 u31 u32 u33 u34 u35 u36 u37 u38 u39 u40 u41 u42 u43 u44 u45 u46 u47 u48 u49 u50 u51 u52 u53 u54 u55 u56 u57 u58 u59 u60 u61 u62 u63 u64 u65 u66 u67 u68 u69 u70 u71 u72 u73 u74 u75 u76 u77 u78 u79 u80 u81 u82 u83 u84 u85 u86 u87 u88 u89 u90 u91 u92 u93 u94 u95 u96 u97 u98 u99 u100 u101 u102 u103 u104 u105 u106 u107 u108 u109 u110 u111 u112 u113 u114 u115 u116 u117 u118 u119 u120 u121 u122 u123 u124 u125 u126 u127 u128 u129 u130 u131 u132 u133 u134 u135 u136 u137 u138 u139 u140 u141 u142 u143 u144 u145 u146 u147 u148 u149 u150 u151 u152 u153 u154 u155 u156 u157 u158 u159 u160 u161 u162 u163 u164 u165 u166 u167 u168 u169 u170 u171 u172 u173 u174 u175 u176 u177 u178 u179 u180 u181 u182 u183 u184 u185 u186 u187 u188 u189 u190 u191 u192 u193 u194 u195 u196 u197 u198 u199 u200 u201 u202 u203 u204 u205 u206 u207 u208 u209 u210 u211 u212 u213 u214 u215 u216 u217 u218 u219 u220 u221 u222 u223 u224 u225 u226 u227 u228 : Value} (W : World), Below w.heap.size w W → Code.wp Try.prog T (bodyPost Try.prog Try.f18 R) ⟨(List.toArray ((.pointer (some ⟨tb, 0, none⟩)) :: (.agg #[.int .i64 f, .int .i64 sf, .int .u64 sh, .int .u64 sl, .int .i64 df, .int .u64 dh, .int .u64 dl, .int .i64 pr, .int .i64 ho, .bool true, .int .u32 id, .int .i64 of, .bool mo, .slice xa xn xc, .slice da dn dc]) :: (u2) :: (.pointer (some ⟨bx, 0, none⟩)) :: (.pointer (some ⟨ob, 0, none⟩)) :: (.int .i64 0) :: (.pointer (some ⟨nb, 0, none⟩)) :: (.int .i64 (-1)) :: (u8) :: (.pointer (some ⟨gb, 0, none⟩)) :: (u10) :: (u11) :: (u12) :: (u13) :: (u14) :: (u15) :: (u16) :: (u17) :: (u18) :: (u19) :: (u20) :: (u21) :: (u22) :: (u23) :: (u24) :: (u25) :: (u26) :: (u27) :: (u28) :: (u29) :: (u30) :: (u31) :: (u32) :: (u33) :: (u34) :: (u35) :: (u36) :: (u37) :: (u38) :: (u39) :: (u40) :: (u41) :: (u42) :: (u43) :: (u44) :: (u45) :: (u46) :: (u47) :: (u48) :: (u49) :: (u50) :: (u51) :: (u52) :: (u53) :: (u54) :: (u55) :: (u56) :: (u57) :: (u58) :: (u59) :: (u60) :: (u61) :: (u62) :: (u63) :: (u64) :: (u65) :: (u66) :: (u67) :: (u68) :: (u69) :: (u70) :: (u71) :: (u72) :: (u73) :: (u74) :: (u75) :: (u76) :: (u77) :: (u78) :: (u79) :: (u80) :: (u81) :: (u82) :: (u83) :: (u84) :: (u85) :: (u86) :: (u87) :: (u88) :: (u89) :: (u90) :: (u91) :: (u92) :: (u93) :: (u94) :: (u95) :: (u96) :: (u97) :: (u98) :: (u99) :: (u100) :: (u101) :: (u102) :: (u103) :: (u104) :: (u105) :: (u106) :: (u107) :: (u108) :: (u109) :: (u110) :: (u111) :: (u112) :: (u113) :: (u114) :: (u115) :: (u116) :: (u117) :: (u118) :: (u119) :: (u120) :: (u121) :: (u122) :: (u123) :: (u124) :: (u125) :: (u126) :: (u127) :: (u128) :: (u129) :: (u130) :: (u131) :: (u132) :: (u133) :: (u134) :: (u135) :: (u136) :: (u137) :: (u138) :: (u139) :: (u140) :: (u141) :: (u142) :: (u143) :: (u144) :: (u145) :: (u146) :: (u147) :: (u148) :: (u149) :: (u150) :: (u151) :: (u152) :: (u153) :: (u154) :: (u155) :: (u156) :: (u157) :: (u158) :: (u159) :: (u160) :: (u161) :: (u162) :: (u163) :: (u164) :: (u165) :: (u166) :: (u167) :: (u168) :: (u169) :: (u170) :: (u171) :: (u172) :: (u173) :: (u174) :: (u175) :: (u176) :: (u177) :: (u178) :: (u179) :: (u180) :: (u181) :: (u182) :: (u183) :: (u184) :: (u185) :: (u186) :: (u187) :: (u188) :: (u189) :: (u190) :: (u191) :: (u192) :: (u193) :: (u194) :: (u195) :: (u196) :: (u197) :: (u198) :: (u199) :: (u200) :: (u201) :: (u202) :: (u203) :: (u204) :: (u205) :: (u206) :: (u207) :: (u208) :: (u209) :: (u210) :: (u211) :: (u212) :: (u213) :: (u214) :: (u215) :: (u216) :: (u217) :: (u218) :: (u219) :: (u220) :: (u221) :: (u222) :: (u223) :: (u224) :: (u225) :: (u226) :: (u227) :: (u228) :: List.nil)), []⟩ W) (HF : (ms ≤ L.length ∨ ro < lenG L + dn) → ∀ W : World, Below B w W → R (.returned (.tuple #[.agg z15, .int .i64 12])) W) :
  Code.wp Try.prog (Code.seq ((Code.region 23 #[fpz38o56, fpz38o40, fpz38o54, fpz38o51, fpz38o46, fpz38o38, fpz38o36, fpz38o27, fpz38o52, fpz38o47, fpz38o39, fpz38o43, fpz38o30, fpz38o34, fpz38o48, fpz38o49, fpz38o25, fpz38o53, fpz38o41, fpz38o31, fpz38o29, fpz38o50, fpz38o45, fpz38o37, fpz38o42, fpz38o28, fpz38o35] true).seq (Code.cond (Operand.tmp 170) ((Code.region 24 #[fpz38o55, fpz38o44, fpz38o33] false).seq Code.ret) Code.skip)) T) (bodyPost Try.prog Try.f18 R) ⟨(List.toArray ((.pointer (some ⟨tb, 0, none⟩)) :: (.agg #[.int .i64 f, .int .i64 sf, .int .u64 sh, .int .u64 sl, .int .i64 df, .int .u64 dh, .int .u64 dl, .int .i64 pr, .int .i64 ho, .bool true, .int .u32 id, .int .i64 of, .bool mo, .slice xa xn xc, .slice da dn dc]) :: (u2) :: (.pointer (some ⟨bx, 0, none⟩)) :: (.pointer (some ⟨ob, 0, none⟩)) :: (.int .i64 0) :: (.pointer (some ⟨nb, 0, none⟩)) :: (.int .i64 (-1)) :: (u8) :: (.pointer (some ⟨gb, 0, none⟩)) :: (u10) :: (u11) :: (u12) :: (u13) :: (u14) :: (u15) :: (u16) :: (u17) :: (u18) :: (u19) :: (u20) :: (u21) :: (u22) :: (u23) :: (u24) :: (u25) :: (u26) :: (u27) :: (u28) :: (u29) :: (u30) :: (u31) :: (u32) :: (u33) :: (u34) :: (u35) :: (u36) :: (u37) :: (u38) :: (u39) :: (u40) :: (u41) :: (u42) :: (u43) :: (u44) :: (u45) :: (u46) :: (u47) :: (u48) :: (u49) :: (u50) :: (u51) :: (u52) :: (u53) :: (u54) :: (u55) :: (u56) :: (u57) :: (u58) :: (u59) :: (u60) :: (u61) :: (u62) :: (u63) :: (u64) :: (u65) :: (u66) :: (u67) :: (u68) :: (u69) :: (u70) :: (u71) :: (u72) :: (u73) :: (u74) :: (u75) :: (u76) :: (u77) :: (u78) :: (u79) :: (u80) :: (u81) :: (u82) :: (u83) :: (u84) :: (u85) :: (u86) :: (u87) :: (u88) :: (u89) :: (u90) :: (u91) :: (u92) :: (u93) :: (u94) :: (u95) :: (u96) :: (u97) :: (u98) :: (u99) :: (u100) :: (u101) :: (u102) :: (u103) :: (u104) :: (u105) :: (u106) :: (u107) :: (u108) :: (u109) :: (u110) :: (u111) :: (u112) :: (u113) :: (u114) :: (u115) :: (u116) :: (u117) :: (u118) :: (u119) :: (u120) :: (u121) :: (u122) :: (u123) :: (u124) :: (u125) :: (u126) :: (u127) :: (u128) :: (u129) :: (u130) :: (u131) :: (u132) :: (u133) :: (u134) :: (u135) :: (u136) :: (u137) :: (u138) :: (u139) :: (u140) :: (u141) :: (u142) :: (u143) :: (u144) :: (u145) :: (u146) :: (u147) :: (u148) :: (u149) :: (u150) :: (u151) :: (u152) :: (u153) :: (u154) :: (u155) :: (u156) :: (u157) :: (u158) :: (u159) :: (u160) :: (u161) :: (u162) :: (u163) :: (u164) :: (u165) :: (u166) :: (u167) :: (u168) :: (u169) :: (u170) :: (u171) :: (u172) :: (u173) :: (u174) :: (u175) :: (u176) :: (u177) :: (u178) :: (u179) :: (u180) :: (u181) :: (u182) :: (u183) :: (u184) :: (u185) :: (u186) :: (u187) :: (u188) :: (u189) :: (u190) :: (u191) :: (u192) :: (u193) :: (u194) :: (u195) :: (u196) :: (u197) :: (u198) :: (u199) :: (u200) :: (u201) :: (u202) :: (u203) :: (u204) :: (u205) :: (u206) :: (u207) :: (u208) :: (u209) :: (u210) :: (u211) :: (u212) :: (u213) :: (u214) :: (u215) :: (u216) :: (u217) :: (u218) :: (u219) :: (u220) :: (u221) :: (u222) :: (u223) :: (u224) :: (u225) :: (u226) :: (u227) :: (u228) :: List.nil)), []⟩ w := by
 have HHT : Hid _ := @HT
 clear HT
 have HHF : Hid _ := @HF
 clear HF
 have hfew := h.few
 obtain ⟨t0, t1, _, _, t4⟩ := tab_cells h.blk
 have KB : Hid (∀ W, Below w.heap.size w W → Calls Try.prog 22 #[.pointer (some ⟨tb, 0, none⟩)] W fun e w' => e = .returned (.int .i64 (lenG L)) ∧ w' = W) := fun W hb => rbytes_any tb ga gc L W (kept hb t4) (h.row.low hb) hfew hlen
 have hl0 := lenG_nonneg L
 clear h
 obtain ⟨BY, hBY⟩ : ∃ BY, lenG L = BY := ⟨_, rfl⟩
 rw [hBY] at KB hlen hl0 HHT HHF
 obtain ⟨N, hN⟩ : ∃ N, L.length = N := ⟨_, rfl⟩
 rw [hN] at t4 hfew HHT HHF
 clear hBY hN
 have hsum : IntKind.i64.wrap (BY + (dn : Int)) = BY + dn := by rw [IntKind.wrap_i64]; omega
 have c14 := hbx.cell 14 (.slice da dn dc) rfl
 have bd : Below w.heap.size w w.drew := (Below.refl _ _).drew
 have D0 := kept bd t0
 have D1 := kept bd t1
 have D4 := kept bd t4
 have DC := kept bd c14
 have KB1 : Hid _ := KB.out w.drew bd
 have OB := hob.drew
 clear t0 t1 t4 c14 KB hbx hob
 by_cases f1 : ms ≤ (N : Int)
 ·have HHF : Hid _ := HHF.out (.inl f1)
  have g1 : (N : Int) ≥ ms := f1
  go_wp2_with fail
  refine wp_region_noPanic ?_
  refine wp_region_held_drew (S := fun w' => w'.cell? ⟨tb, 0, none⟩ = some (.int .i64 ms) ∧ w'.cell? ⟨tb, 1, none⟩ = some (.int .i64 ro) ∧ w'.cell? ⟨tb, 4, none⟩ = some (.slice ga N gc) ∧ w'.cell? ⟨bx, 14, none⟩ = some (.slice da dn dc)) (by kernel_rfl) (by exact ⟨D0, D1, D4, DC⟩) (fun hHeld => ?_)
  refine qtk (i := 0) (oi := fpz38o32) (v := (.int .i64 (-1))) hHeld ?_ ?_
  ·intro w9 hSw
   try dsimp only at hSw
   go_simp
  try simp only [qpu]
  refine qtk (i := 1) (oi := fpz38o15) (v := (.bool true)) hHeld ?_ ?_
  ·intro w9 hSw
   try dsimp only at hSw
   go_simp
  try simp only [qpu]
  refine qtk (i := 2) (oi := fpz38o26) (v := (.bool true)) hHeld ?_ ?_
  ·intro w9 hSw
   try dsimp only at hSw
   go_simp
  try simp only [qpu]
  refine qtk (i := 3) (oi := fpz38o22) (v := (.pointer (some ⟨tb, 0, none⟩))) hHeld ?_ ?_
  ·intro w9 hSw
   try dsimp only at hSw
   go_simp
  try simp only [qpu]
  refine qtk (i := 4) (oi := fpz38o17) (v := (.pointer (some ⟨tb, 0, none⟩))) hHeld ?_ ?_
  ·intro w9 hSw
   try dsimp only at hSw
   go_simp
  try simp only [qpu]
  refine qtk (i := 5) (oi := fpz38o8) (v := (.pointer (some ⟨tb, 4, none⟩))) hHeld ?_ ?_
  ·intro w9 hSw
   try dsimp only at hSw
   go_simp
  try simp only [qpu]
  refine qtk (i := 6) (oi := fpz38o6) (v := (.slice ga N gc)) hHeld ?_ ?_
  ·intro w9 hSw
   try dsimp only at hSw
   have hcc := hSw.2.2.1
   go_simp
  try simp only [qpu]
  refine qtk (i := 7) (oi := fpz38o1) (v := (.int .i64 (N : Int))) hHeld ?_ ?_
  ·intro w9 hSw
   try dsimp only at hSw
   go_simp
  try simp only [qpu]
  refine qtk (i := 8) (oi := fpz38o23) (v := (.pointer (some ⟨tb, 0, none⟩))) hHeld ?_ ?_
  ·intro w9 hSw
   try dsimp only at hSw
   go_simp
  try simp only [qpu]
  refine qtk (i := 9) (oi := fpz38o18) (v := (.pointer (some ⟨tb, 0, none⟩))) hHeld ?_ ?_
  ·intro w9 hSw
   try dsimp only at hSw
   go_simp
  try simp only [qpu]
  refine qtk (i := 10) (oi := fpz38o9) (v := (.pointer (some ⟨tb, 0, none⟩))) hHeld ?_ ?_
  ·intro w9 hSw
   try dsimp only at hSw
   go_simp
  try simp only [qpu]
  refine qtk (i := 11) (oi := fpz38o14) (v := (.int .i64 ms)) hHeld ?_ ?_
  ·intro w9 hSw
   try dsimp only at hSw
   have hcc := hSw.1
   go_simp
  try simp only [qpu]
  refine qtk (i := 12) (oi := fpz38o5) (v := (.bool true)) hHeld ?_ ?_
  ·intro w9 hSw
   try dsimp only at hSw
   go_simp
  try simp only [qpu]
  refine qtk (i := 13) (oi := fpz38o10) (v := (.bool true)) hHeld ?_ ?_
  ·intro w9 hSw
   try dsimp only at hSw
   go_simp
  try simp only [qpu]
  refine qtk (i := 14) (oi := fpz38o19) (v := (.bool true)) hHeld ?_ ?_
  ·intro w9 hSw
   try dsimp only at hSw
   go_simp
  try simp only [qpu]
  refine qtn (i := 15) (oi := fpz38o20) hHeld ?_
  try simp only [qpu]
  refine qtn (i := 16) (oi := fpz38o0) hHeld ?_
  try simp only [qpu]
  refine qtn (i := 17) (oi := fpz38o24) hHeld ?_
  try simp only [qpu]
  refine qtn (i := 18) (oi := fpz38o12) hHeld ?_
  try simp only [qpu]
  refine qtn (i := 19) (oi := fpz38o2) hHeld ?_
  try simp only [qpu]
  refine qtn (i := 20) (oi := fpz38o4) hHeld ?_
  try simp only [qpu]
  refine qtn (i := 21) (oi := fpz38o21) hHeld ?_
  try simp only [qpu]
  refine qtn (i := 22) (oi := fpz38o16) hHeld ?_
  try simp only [qpu]
  refine qtn (i := 23) (oi := fpz38o7) hHeld ?_
  try simp only [qpu]
  refine qtn (i := 24) (oi := fpz38o13) hHeld ?_
  try simp only [qpu]
  refine qtn (i := 25) (oi := fpz38o3) hHeld ?_
  try simp only [qpu]
  refine qtk (i := 26) (oi := fpz38o11) (v := (.bool true)) hHeld ?_ ?_
  ·intro w9 hSw
   try dsimp only at hSw
   go_simp
  try simp only [qpu]
  refine wpAnyH_done (by kernel_rfl) ?_ _
  refine NoPanic.normal ?_
  go_wp2_with (refine wpList_store_blk rfl 42 _ _ rfl ob z15 z15 (by rfl) (by rfl) OB (by kernel_rfl) rfl (by kernel_rfl) ?_)
  exact ret_cell_tmp (k := 4) (j := 5) Try.f18 (by kernel_rfl) (OB.set _) Try.underlying42 (by kernel_rfl) (by rfl) (by rfl) rfl (HHF.out _ (below_setRow (bd.mono hB) hBo _))
 by_cases f2 : ro < BY + dn
 ·have HHF : Hid _ := HHF.out (.inr f2)
  have g1 : ¬ (N : Int) ≥ ms := f1
  have g2 : BY + (dn : Int) > ro := f2
  go_wp2_with fail
  refine wp_region_noPanic ?_
  refine wp_region_held_drew (S := fun w' => w'.cell? ⟨tb, 0, none⟩ = some (.int .i64 ms) ∧ w'.cell? ⟨tb, 1, none⟩ = some (.int .i64 ro) ∧ w'.cell? ⟨tb, 4, none⟩ = some (.slice ga N gc) ∧ w'.cell? ⟨bx, 14, none⟩ = some (.slice da dn dc)) (by kernel_rfl) (by exact ⟨D0, D1, D4, DC⟩) (fun hHeld => ?_)
  refine qtk (i := 0) (oi := fpz38o32) (v := (.int .i64 (-1))) hHeld ?_ ?_
  ·intro w9 hSw
   try dsimp only at hSw
   go_simp
  try simp only [qpu]
  refine qtk (i := 1) (oi := fpz38o15) (v := (.bool true)) hHeld ?_ ?_
  ·intro w9 hSw
   try dsimp only at hSw
   go_simp
  try simp only [qpu]
  refine qtk (i := 2) (oi := fpz38o26) (v := (.bool true)) hHeld ?_ ?_
  ·intro w9 hSw
   try dsimp only at hSw
   go_simp
  try simp only [qpu]
  refine qtk (i := 3) (oi := fpz38o22) (v := (.pointer (some ⟨tb, 0, none⟩))) hHeld ?_ ?_
  ·intro w9 hSw
   try dsimp only at hSw
   go_simp
  try simp only [qpu]
  refine qtk (i := 4) (oi := fpz38o17) (v := (.pointer (some ⟨tb, 0, none⟩))) hHeld ?_ ?_
  ·intro w9 hSw
   try dsimp only at hSw
   go_simp
  try simp only [qpu]
  refine qtk (i := 5) (oi := fpz38o8) (v := (.pointer (some ⟨tb, 4, none⟩))) hHeld ?_ ?_
  ·intro w9 hSw
   try dsimp only at hSw
   go_simp
  try simp only [qpu]
  refine qtk (i := 6) (oi := fpz38o6) (v := (.slice ga N gc)) hHeld ?_ ?_
  ·intro w9 hSw
   try dsimp only at hSw
   have hcc := hSw.2.2.1
   go_simp
  try simp only [qpu]
  refine qtk (i := 7) (oi := fpz38o1) (v := (.int .i64 (N : Int))) hHeld ?_ ?_
  ·intro w9 hSw
   try dsimp only at hSw
   go_simp
  try simp only [qpu]
  refine qtk (i := 8) (oi := fpz38o23) (v := (.pointer (some ⟨tb, 0, none⟩))) hHeld ?_ ?_
  ·intro w9 hSw
   try dsimp only at hSw
   go_simp
  try simp only [qpu]
  refine qtk (i := 9) (oi := fpz38o18) (v := (.pointer (some ⟨tb, 0, none⟩))) hHeld ?_ ?_
  ·intro w9 hSw
   try dsimp only at hSw
   go_simp
  try simp only [qpu]
  refine qtk (i := 10) (oi := fpz38o9) (v := (.pointer (some ⟨tb, 0, none⟩))) hHeld ?_ ?_
  ·intro w9 hSw
   try dsimp only at hSw
   go_simp
  try simp only [qpu]
  refine qtk (i := 11) (oi := fpz38o14) (v := (.int .i64 ms)) hHeld ?_ ?_
  ·intro w9 hSw
   try dsimp only at hSw
   have hcc := hSw.1
   go_simp
  try simp only [qpu]
  refine qtk (i := 12) (oi := fpz38o5) (v := (.bool false)) hHeld ?_ ?_
  ·intro w9 hSw
   try dsimp only at hSw
   go_simp
  try simp only [qpu]
  refine qtk (i := 13) (oi := fpz38o10) (v := (.bool false)) hHeld ?_ ?_
  ·intro w9 hSw
   try dsimp only at hSw
   go_simp
  try simp only [qpu]
  refine qtk (i := 14) (oi := fpz38o19) (v := (.bool false)) hHeld ?_ ?_
  ·intro w9 hSw
   try dsimp only at hSw
   go_simp
  try simp only [qpu]
  refine qtk (i := 15) (oi := fpz38o20) (v := (.pointer (some ⟨tb, 0, none⟩))) hHeld ?_ ?_
  ·intro w9 hSw
   try dsimp only at hSw
   go_simp
  try simp only [qpu]
  refine qtk (i := 17) (oi := fpz38o24) (v := (.pointer (some ⟨bx, 14, none⟩))) hHeld ?_ ?_
  ·intro w9 hSw
   try dsimp only at hSw
   go_simp
  try simp only [qpu]
  refine qtk (i := 18) (oi := fpz38o12) (v := (.slice da dn dc)) hHeld ?_ ?_
  ·intro w9 hSw
   try dsimp only at hSw
   have hcc := hSw.2.2.2
   go_simp
  try simp only [qpu]
  refine qtk (i := 19) (oi := fpz38o2) (v := (.int .i64 (dn : Int))) hHeld ?_ ?_
  ·intro w9 hSw
   try dsimp only at hSw
   go_simp
  try simp only [qpu]
  refine qtk (i := 21) (oi := fpz38o21) (v := (.pointer (some ⟨tb, 0, none⟩))) hHeld ?_ ?_
  ·intro w9 hSw
   try dsimp only at hSw
   go_simp
  try simp only [qpu]
  refine qtk (i := 22) (oi := fpz38o16) (v := (.pointer (some ⟨tb, 0, none⟩))) hHeld ?_ ?_
  ·intro w9 hSw
   try dsimp only at hSw
   go_simp
  try simp only [qpu]
  refine qtk (i := 23) (oi := fpz38o7) (v := (.pointer (some ⟨tb, 1, none⟩))) hHeld ?_ ?_
  ·intro w9 hSw
   try dsimp only at hSw
   go_simp
  try simp only [qpu]
  refine qtk (i := 24) (oi := fpz38o13) (v := (.int .i64 ro)) hHeld ?_ ?_
  ·intro w9 hSw
   try dsimp only at hSw
   have hcc := hSw.2.1
   go_simp
  try simp only [qpu]
  refine wpAnyH_ready (rs := [16]) (by kernel_rfl) (by simp) ?_
  refine AllReadyH.cons (o := fpz38o0) rfl (fun K hK => ?_) AllReadyH.nil
  go_simp
  refine Calls.mono (KB1.out) ?_
  rintro e W9 ⟨rfl, hWs⟩
  rw [hWs]
  clear hWs W9
  refine hK.out _ _ (by exact ⟨D0, D1, D4, DC⟩) (fun hHeld => ?_)
  clear hK K
  try simp only [qpu]
  refine qtk (i := 20) (oi := fpz38o4) (v := (.int .i64 (BY + (dn : Int)))) hHeld ?_ ?_
  ·intro w9 hSw
   try dsimp only at hSw
   go_simp
  try simp only [qpu]
  refine qtk (i := 25) (oi := fpz38o3) (v := (.bool true)) hHeld ?_ ?_
  ·intro w9 hSw
   try dsimp only at hSw
   go_simp
  try simp only [qpu]
  refine qtk (i := 26) (oi := fpz38o11) (v := (.bool true)) hHeld ?_ ?_
  ·intro w9 hSw
   try dsimp only at hSw
   go_simp
  try simp only [qpu]
  refine wpAnyH_done (by kernel_rfl) ?_ _
  refine NoPanic.normal ?_
  go_wp2_with (refine wpList_store_blk rfl 42 _ _ rfl ob z15 z15 (by rfl) (by rfl) OB (by kernel_rfl) rfl (by kernel_rfl) ?_)
  exact ret_cell_tmp (k := 4) (j := 5) Try.f18 (by kernel_rfl) (OB.set _) Try.underlying42 (by kernel_rfl) (by rfl) (by rfl) rfl (HHF.out _ (below_setRow (bd.mono hB) hBo _))
 have NF : Hid (¬ (ms ≤ (N : Int) ∨ ro < BY + dn)) := fun x => x.elim f1 f2
 have g1 : ¬ (N : Int) ≥ ms := f1
 have g2 : ¬ BY + (dn : Int) > ro := f2
 go_wp2_with fail
 refine wp_region_noPanic ?_
 refine wp_region_held_drew (S := fun w' => w'.cell? ⟨tb, 0, none⟩ = some (.int .i64 ms) ∧ w'.cell? ⟨tb, 1, none⟩ = some (.int .i64 ro) ∧ w'.cell? ⟨tb, 4, none⟩ = some (.slice ga N gc) ∧ w'.cell? ⟨bx, 14, none⟩ = some (.slice da dn dc)) (by kernel_rfl) (by exact ⟨D0, D1, D4, DC⟩) (fun hHeld => ?_)
 refine qtk (i := 0) (oi := fpz38o32) (v := (.int .i64 (-1))) hHeld ?_ ?_
 ·intro w9 hSw
  try dsimp only at hSw
  go_simp
 try simp only [qpu]
 refine qtk (i := 1) (oi := fpz38o15) (v := (.bool true)) hHeld ?_ ?_
 ·intro w9 hSw
  try dsimp only at hSw
  go_simp
 try simp only [qpu]
 refine qtk (i := 2) (oi := fpz38o26) (v := (.bool true)) hHeld ?_ ?_
 ·intro w9 hSw
  try dsimp only at hSw
  go_simp
 try simp only [qpu]
 refine qtk (i := 3) (oi := fpz38o22) (v := (.pointer (some ⟨tb, 0, none⟩))) hHeld ?_ ?_
 ·intro w9 hSw
  try dsimp only at hSw
  go_simp
 try simp only [qpu]
 refine qtk (i := 4) (oi := fpz38o17) (v := (.pointer (some ⟨tb, 0, none⟩))) hHeld ?_ ?_
 ·intro w9 hSw
  try dsimp only at hSw
  go_simp
 try simp only [qpu]
 refine qtk (i := 5) (oi := fpz38o8) (v := (.pointer (some ⟨tb, 4, none⟩))) hHeld ?_ ?_
 ·intro w9 hSw
  try dsimp only at hSw
  go_simp
 try simp only [qpu]
 refine qtk (i := 6) (oi := fpz38o6) (v := (.slice ga N gc)) hHeld ?_ ?_
 ·intro w9 hSw
  try dsimp only at hSw
  have hcc := hSw.2.2.1
  go_simp
 try simp only [qpu]
 refine qtk (i := 7) (oi := fpz38o1) (v := (.int .i64 (N : Int))) hHeld ?_ ?_
 ·intro w9 hSw
  try dsimp only at hSw
  go_simp
 try simp only [qpu]
 refine qtk (i := 8) (oi := fpz38o23) (v := (.pointer (some ⟨tb, 0, none⟩))) hHeld ?_ ?_
 ·intro w9 hSw
  try dsimp only at hSw
  go_simp
 try simp only [qpu]
 refine qtk (i := 9) (oi := fpz38o18) (v := (.pointer (some ⟨tb, 0, none⟩))) hHeld ?_ ?_
 ·intro w9 hSw
  try dsimp only at hSw
  go_simp
 try simp only [qpu]
 refine qtk (i := 10) (oi := fpz38o9) (v := (.pointer (some ⟨tb, 0, none⟩))) hHeld ?_ ?_
 ·intro w9 hSw
  try dsimp only at hSw
  go_simp
 try simp only [qpu]
 refine qtk (i := 11) (oi := fpz38o14) (v := (.int .i64 ms)) hHeld ?_ ?_
 ·intro w9 hSw
  try dsimp only at hSw
  have hcc := hSw.1
  go_simp
 try simp only [qpu]
 refine qtk (i := 12) (oi := fpz38o5) (v := (.bool false)) hHeld ?_ ?_
 ·intro w9 hSw
  try dsimp only at hSw
  go_simp
 try simp only [qpu]
 refine qtk (i := 13) (oi := fpz38o10) (v := (.bool false)) hHeld ?_ ?_
 ·intro w9 hSw
  try dsimp only at hSw
  go_simp
 try simp only [qpu]
 refine qtk (i := 14) (oi := fpz38o19) (v := (.bool false)) hHeld ?_ ?_
 ·intro w9 hSw
  try dsimp only at hSw
  go_simp
 try simp only [qpu]
 refine qtk (i := 15) (oi := fpz38o20) (v := (.pointer (some ⟨tb, 0, none⟩))) hHeld ?_ ?_
 ·intro w9 hSw
  try dsimp only at hSw
  go_simp
 try simp only [qpu]
 refine qtk (i := 17) (oi := fpz38o24) (v := (.pointer (some ⟨bx, 14, none⟩))) hHeld ?_ ?_
 ·intro w9 hSw
  try dsimp only at hSw
  go_simp
 try simp only [qpu]
 refine qtk (i := 18) (oi := fpz38o12) (v := (.slice da dn dc)) hHeld ?_ ?_
 ·intro w9 hSw
  try dsimp only at hSw
  have hcc := hSw.2.2.2
  go_simp
 try simp only [qpu]
 refine qtk (i := 19) (oi := fpz38o2) (v := (.int .i64 (dn : Int))) hHeld ?_ ?_
 ·intro w9 hSw
  try dsimp only at hSw
  go_simp
 try simp only [qpu]
 refine qtk (i := 21) (oi := fpz38o21) (v := (.pointer (some ⟨tb, 0, none⟩))) hHeld ?_ ?_
 ·intro w9 hSw
  try dsimp only at hSw
  go_simp
 try simp only [qpu]
 refine qtk (i := 22) (oi := fpz38o16) (v := (.pointer (some ⟨tb, 0, none⟩))) hHeld ?_ ?_
 ·intro w9 hSw
  try dsimp only at hSw
  go_simp
 try simp only [qpu]
 refine qtk (i := 23) (oi := fpz38o7) (v := (.pointer (some ⟨tb, 1, none⟩))) hHeld ?_ ?_
 ·intro w9 hSw
  try dsimp only at hSw
  go_simp
 try simp only [qpu]
 refine qtk (i := 24) (oi := fpz38o13) (v := (.int .i64 ro)) hHeld ?_ ?_
 ·intro w9 hSw
  try dsimp only at hSw
  have hcc := hSw.2.1
  go_simp
 try simp only [qpu]
 refine wpAnyH_ready (rs := [16]) (by kernel_rfl) (by simp) ?_
 refine AllReadyH.cons (o := fpz38o0) rfl (fun K hK => ?_) AllReadyH.nil
 go_simp
 refine Calls.mono (KB1.out) ?_
 rintro e W9 ⟨rfl, hWs⟩
 rw [hWs]
 clear hWs W9
 refine hK.out _ _ (by exact ⟨D0, D1, D4, DC⟩) (fun hHeld => ?_)
 clear hK K
 try simp only [qpu]
 refine qtk (i := 20) (oi := fpz38o4) (v := (.int .i64 (BY + (dn : Int)))) hHeld ?_ ?_
 ·intro w9 hSw
  try dsimp only at hSw
  go_simp
 try simp only [qpu]
 refine qtk (i := 25) (oi := fpz38o3) (v := (.bool false)) hHeld ?_ ?_
 ·intro w9 hSw
  try dsimp only at hSw
  go_simp
 try simp only [qpu]
 refine qtk (i := 26) (oi := fpz38o11) (v := (.bool false)) hHeld ?_ ?_
 ·intro w9 hSw
  try dsimp only at hSw
  go_simp
 try simp only [qpu]
 refine wpAnyH_done (by kernel_rfl) ?_ _
 refine NoPanic.normal ?_
 go_wp2_with fail
 exact HHT.out NF.out w.drew bd
set_option maxRecDepth 100000 in
set_option maxHeartbeats 16000000 in
theorem put_Cy (T : Code) (R : Ending → World → Prop) (tb bx ob nb gb B : Nat) (ms ro li cl : Int) (ga : Option Addr) (gc : Nat) (L : List DgIn) (j : Nat) (f sf sh sl df dh dl pr ho : Int) (id of : Int) (mo : Bool) (xa : Option Addr) (xn xc : Nat) (da : Option Addr) (dn dc : Nat) (w : World) (h : DocT w tb ms ro li cl ga gc L) (hlen : lenG L ≤ 1099511627776) (hdn : dn ≤ 65535) (hbx : Blk w bx 42 #[.int .i64 f, .int .i64 sf, .int .u64 sh, .int .u64 sl, .int .i64 df, .int .u64 dh, .int .u64 dl, .int .i64 pr, .int .i64 ho, .bool true, .int .u32 id, .int .i64 of, .bool mo, .slice xa xn xc, .slice da dn dc]) (hob : Blk w ob 42 z15) (hB : B ≤ w.heap.size) (hBo : B ≤ ob) {u2 u8 u10 u11 u12 u13 u14 u15 u16 u17 u18 u19 u20 u21 u22 u23 u24 u25 u26 u27 u28 u29 u30 u31 u32 u33 u34 u35 u36 u37 u38 u39 u40 u41 u42 u43 u44 u45 u46 u47 u48 u49 u50 u51 u52 u53 u54 u55 u56 u57 u58 u59 u60 u61 u62 u63 u64 u65 u66 u67 u68 u69 u70 u71 u72 u73 u74 u75 u76 u77 u78 u79 u80 u81 u82 u83 u84 u85 u86 u87 u88 u89 u90 u91 u92 u93 u94 u95 u96 u97 u98 u99 u100 u101 u102 u103 u104 u105 u106 u107 u108 u109 u110 u111 u112 u113 u114 u115 u116 u117 u118 u119 u120 u121 u122 u123 u124 u125 u126 u127 u128 u129 u130 u131 u132 u133 u134 u135 u136 u137 u138 u139 u140 u141 u142 u143 u144 u145 u146 u147 u148 u149 u150 u151 u152 u153 u154 u155 u156 u157 u158 u159 u160 u161 u162 u163 u164 u165 u166 u167 u168 u169 u170 u171 u172 u173 u174 u175 u176 u177 u178 u179 u180 u181 u182 u183 u184 u185 u186 u187 u188 u189 u190 u191 u192 u193 u194 u195 u196 u197 u198 u199 u200 u201 u202 u203 u204 u205 u206 u207 u208 u209 u210 u211 u212 u213 u214 u215 u216 u217 u218 u219 u220 u221 u222 u223 u224 u225 u226 u227 u228 : Value} (HT : ¬ ro < lenG L + dn → ∀ {u2 u8 u10 u11 u12 u13 u14 u15 u16 u17 u18 u19 u20 u21 u22 u23 u24 u25 u26 u27 u28 u29 u30 u31 u32 u33 u34 u35 u36 u37 u38 u39 u40 u41 u42 u43 u44 u45 u46 u47 u48 u49 u50 u51 u52 u53 u54 u55 u56 u57 u58 u59 u60 u61 u62 u63 u64 u65 u66 u67 u68 u69 u70 u71 u72 u73 u74 u75 u76 u77 u78 u79 u80 u81 u82 u83 u84 u85 u86 u87 u88 u89 u90 u91 u92 u93 u94 u95 u96 u97 u98 u99 u100 u101 u102 u103 u104 u105 u106 u107 u108 u109 u110 u111 u112 u113 u114 u115 u116 u117 u118 u119 u120 u121 u122 u123 u124 u125 u126 u127 u128 u129 u130 u131 u132 u133 u134 u135 u136 u137 u138 u139 u140 u141 u142 u143 u144 u145 u146 u147 u148 u149 u150 u151 u152 u153 u154 u155 u156 u157 u158 u159 u160 u161 u162 u163 u164 u165 u166 u167 u168 u169 u170 u171 u172 u173 u174 u175 u176 u177 u178 u179 u180 u181 u182 u183 u184 u185 u186 u187 u188 u189 u190 u191 u192 u193 u194 u195 u196 u197 u198 u199 u200 u201 u202 u203 u204 u205 u206 u207 u208 u209 u210 u211 u212 u213 u214 u215 u216 u217 u218 u219 u220 u221 u222 u223 u224 u225 u226 u227 u228 : Value} (W : World), Below w.heap.size w W → Code.wp Try.prog T (bodyPost Try.prog Try.f18 R) ⟨(List.toArray ((.pointer (some ⟨tb, 0, none⟩)) :: (.agg #[.int .i64 f, .int .i64 sf, .int .u64 sh, .int .u64 sl, .int .i64 df, .int .u64 dh, .int .u64 dl, .int .i64 pr, .int .i64 ho, .bool true, .int .u32 id, .int .i64 of, .bool mo, .slice xa xn xc, .slice da dn dc]) :: (u2) :: (.pointer (some ⟨bx, 0, none⟩)) :: (.pointer (some ⟨ob, 0, none⟩)) :: (.int .i64 0) :: (.pointer (some ⟨nb, 0, none⟩)) :: (.int .i64 (j : Int)) :: (u8) :: (.pointer (some ⟨gb, 0, none⟩)) :: (u10) :: (u11) :: (u12) :: (u13) :: (u14) :: (u15) :: (u16) :: (u17) :: (u18) :: (u19) :: (u20) :: (u21) :: (u22) :: (u23) :: (u24) :: (u25) :: (u26) :: (u27) :: (u28) :: (u29) :: (u30) :: (u31) :: (u32) :: (u33) :: (u34) :: (u35) :: (u36) :: (u37) :: (u38) :: (u39) :: (u40) :: (u41) :: (u42) :: (u43) :: (u44) :: (u45) :: (u46) :: (u47) :: (u48) :: (u49) :: (u50) :: (u51) :: (u52) :: (u53) :: (u54) :: (u55) :: (u56) :: (u57) :: (u58) :: (u59) :: (u60) :: (u61) :: (u62) :: (u63) :: (u64) :: (u65) :: (u66) :: (u67) :: (u68) :: (u69) :: (u70) :: (u71) :: (u72) :: (u73) :: (u74) :: (u75) :: (u76) :: (u77) :: (u78) :: (u79) :: (u80) :: (u81) :: (u82) :: (u83) :: (u84) :: (u85) :: (u86) :: (u87) :: (u88) :: (u89) :: (u90) :: (u91) :: (u92) :: (u93) :: (u94) :: (u95) :: (u96) :: (u97) :: (u98) :: (u99) :: (u100) :: (u101) :: (u102) :: (u103) :: (u104) :: (u105) :: (u106) :: (u107) :: (u108) :: (u109) :: (u110) :: (u111) :: (u112) :: (u113) :: (u114) :: (u115) :: (u116) :: (u117) :: (u118) :: (u119) :: (u120) :: (u121) :: (u122) :: (u123) :: (u124) :: (u125) :: (u126) :: (u127) :: (u128) :: (u129) :: (u130) :: (u131) :: (u132) :: (u133) :: (u134) :: (u135) :: (u136) :: (u137) :: (u138) :: (u139) :: (u140) :: (u141) :: (u142) :: (u143) :: (u144) :: (u145) :: (u146) :: (u147) :: (u148) :: (u149) :: (u150) :: (u151) :: (u152) :: (u153) :: (u154) :: (u155) :: (u156) :: (u157) :: (u158) :: (u159) :: (u160) :: (u161) :: (u162) :: (u163) :: (u164) :: (u165) :: (u166) :: (u167) :: (u168) :: (u169) :: (u170) :: (u171) :: (u172) :: (u173) :: (u174) :: (u175) :: (u176) :: (u177) :: (u178) :: (u179) :: (u180) :: (u181) :: (u182) :: (u183) :: (u184) :: (u185) :: (u186) :: (u187) :: (u188) :: (u189) :: (u190) :: (u191) :: (u192) :: (u193) :: (u194) :: (u195) :: (u196) :: (u197) :: (u198) :: (u199) :: (u200) :: (u201) :: (u202) :: (u203) :: (u204) :: (u205) :: (u206) :: (u207) :: (u208) :: (u209) :: (u210) :: (u211) :: (u212) :: (u213) :: (u214) :: (u215) :: (u216) :: (u217) :: (u218) :: (u219) :: (u220) :: (u221) :: (u222) :: (u223) :: (u224) :: (u225) :: (u226) :: (u227) :: (u228) :: List.nil)), []⟩ W) (HF : ro < lenG L + dn → ∀ W : World, Below B w W → R (.returned (.tuple #[.agg z15, .int .i64 12])) W) :
  Code.wp Try.prog (Code.seq ((Code.region 23 #[fpz38o56, fpz38o40, fpz38o54, fpz38o51, fpz38o46, fpz38o38, fpz38o36, fpz38o27, fpz38o52, fpz38o47, fpz38o39, fpz38o43, fpz38o30, fpz38o34, fpz38o48, fpz38o49, fpz38o25, fpz38o53, fpz38o41, fpz38o31, fpz38o29, fpz38o50, fpz38o45, fpz38o37, fpz38o42, fpz38o28, fpz38o35] true).seq (Code.cond (Operand.tmp 170) ((Code.region 24 #[fpz38o55, fpz38o44, fpz38o33] false).seq Code.ret) Code.skip)) T) (bodyPost Try.prog Try.f18 R) ⟨(List.toArray ((.pointer (some ⟨tb, 0, none⟩)) :: (.agg #[.int .i64 f, .int .i64 sf, .int .u64 sh, .int .u64 sl, .int .i64 df, .int .u64 dh, .int .u64 dl, .int .i64 pr, .int .i64 ho, .bool true, .int .u32 id, .int .i64 of, .bool mo, .slice xa xn xc, .slice da dn dc]) :: (u2) :: (.pointer (some ⟨bx, 0, none⟩)) :: (.pointer (some ⟨ob, 0, none⟩)) :: (.int .i64 0) :: (.pointer (some ⟨nb, 0, none⟩)) :: (.int .i64 (j : Int)) :: (u8) :: (.pointer (some ⟨gb, 0, none⟩)) :: (u10) :: (u11) :: (u12) :: (u13) :: (u14) :: (u15) :: (u16) :: (u17) :: (u18) :: (u19) :: (u20) :: (u21) :: (u22) :: (u23) :: (u24) :: (u25) :: (u26) :: (u27) :: (u28) :: (u29) :: (u30) :: (u31) :: (u32) :: (u33) :: (u34) :: (u35) :: (u36) :: (u37) :: (u38) :: (u39) :: (u40) :: (u41) :: (u42) :: (u43) :: (u44) :: (u45) :: (u46) :: (u47) :: (u48) :: (u49) :: (u50) :: (u51) :: (u52) :: (u53) :: (u54) :: (u55) :: (u56) :: (u57) :: (u58) :: (u59) :: (u60) :: (u61) :: (u62) :: (u63) :: (u64) :: (u65) :: (u66) :: (u67) :: (u68) :: (u69) :: (u70) :: (u71) :: (u72) :: (u73) :: (u74) :: (u75) :: (u76) :: (u77) :: (u78) :: (u79) :: (u80) :: (u81) :: (u82) :: (u83) :: (u84) :: (u85) :: (u86) :: (u87) :: (u88) :: (u89) :: (u90) :: (u91) :: (u92) :: (u93) :: (u94) :: (u95) :: (u96) :: (u97) :: (u98) :: (u99) :: (u100) :: (u101) :: (u102) :: (u103) :: (u104) :: (u105) :: (u106) :: (u107) :: (u108) :: (u109) :: (u110) :: (u111) :: (u112) :: (u113) :: (u114) :: (u115) :: (u116) :: (u117) :: (u118) :: (u119) :: (u120) :: (u121) :: (u122) :: (u123) :: (u124) :: (u125) :: (u126) :: (u127) :: (u128) :: (u129) :: (u130) :: (u131) :: (u132) :: (u133) :: (u134) :: (u135) :: (u136) :: (u137) :: (u138) :: (u139) :: (u140) :: (u141) :: (u142) :: (u143) :: (u144) :: (u145) :: (u146) :: (u147) :: (u148) :: (u149) :: (u150) :: (u151) :: (u152) :: (u153) :: (u154) :: (u155) :: (u156) :: (u157) :: (u158) :: (u159) :: (u160) :: (u161) :: (u162) :: (u163) :: (u164) :: (u165) :: (u166) :: (u167) :: (u168) :: (u169) :: (u170) :: (u171) :: (u172) :: (u173) :: (u174) :: (u175) :: (u176) :: (u177) :: (u178) :: (u179) :: (u180) :: (u181) :: (u182) :: (u183) :: (u184) :: (u185) :: (u186) :: (u187) :: (u188) :: (u189) :: (u190) :: (u191) :: (u192) :: (u193) :: (u194) :: (u195) :: (u196) :: (u197) :: (u198) :: (u199) :: (u200) :: (u201) :: (u202) :: (u203) :: (u204) :: (u205) :: (u206) :: (u207) :: (u208) :: (u209) :: (u210) :: (u211) :: (u212) :: (u213) :: (u214) :: (u215) :: (u216) :: (u217) :: (u218) :: (u219) :: (u220) :: (u221) :: (u222) :: (u223) :: (u224) :: (u225) :: (u226) :: (u227) :: (u228) :: List.nil)), []⟩ w := by
 have HHT : Hid _ := @HT
 clear HT
 have HHF : Hid _ := @HF
 clear HF
 have hfew := h.few
 obtain ⟨t0, t1, _, _, t4⟩ := tab_cells h.blk
 have KB : Hid (∀ W, Below w.heap.size w W → Calls Try.prog 22 #[.pointer (some ⟨tb, 0, none⟩)] W fun e w' => e = .returned (.int .i64 (lenG L)) ∧ w' = W) := fun W hb => rbytes_any tb ga gc L W (kept hb t4) (h.row.low hb) hfew hlen
 have hl0 := lenG_nonneg L
 clear h
 obtain ⟨BY, hBY⟩ : ∃ BY, lenG L = BY := ⟨_, rfl⟩
 rw [hBY] at KB hlen hl0 HHT HHF
 obtain ⟨N, hN⟩ : ∃ N, L.length = N := ⟨_, rfl⟩
 rw [hN] at t4 hfew
 clear hBY hN
 have hsum : IntKind.i64.wrap (BY + (dn : Int)) = BY + dn := by rw [IntKind.wrap_i64]; omega
 have c14 := hbx.cell 14 (.slice da dn dc) rfl
 have bd : Below w.heap.size w w.drew := (Below.refl _ _).drew
 have D0 := kept bd t0
 have D1 := kept bd t1
 have D4 := kept bd t4
 have DC := kept bd c14
 have KB1 : Hid _ := KB.out w.drew bd
 have OB := hob.drew
 clear t0 t1 t4 c14 KB hbx hob
 have ij : ¬ (j : Int) < 0 := by omega
 by_cases f2 : ro < BY + dn
 ·have HHF : Hid _ := HHF.out f2
  have g2 : BY + (dn : Int) > ro := f2
  go_wp2_with fail
  refine wp_region_noPanic ?_
  refine wp_region_held_drew (S := fun w' => w'.cell? ⟨tb, 0, none⟩ = some (.int .i64 ms) ∧ w'.cell? ⟨tb, 1, none⟩ = some (.int .i64 ro) ∧ w'.cell? ⟨tb, 4, none⟩ = some (.slice ga N gc) ∧ w'.cell? ⟨bx, 14, none⟩ = some (.slice da dn dc)) (by kernel_rfl) (by exact ⟨D0, D1, D4, DC⟩) (fun hHeld => ?_)
  refine qtk (i := 0) (oi := fpz38o32) (v := (.int .i64 (j : Int))) hHeld ?_ ?_
  ·intro w9 hSw
   try dsimp only at hSw
   go_simp
  try simp only [qpu]
  refine qtk (i := 1) (oi := fpz38o15) (v := (.bool false)) hHeld ?_ ?_
  ·intro w9 hSw
   try dsimp only at hSw
   go_simp
  try simp only [qpu]
  refine qtk (i := 2) (oi := fpz38o26) (v := (.bool false)) hHeld ?_ ?_
  ·intro w9 hSw
   try dsimp only at hSw
   go_simp
  try simp only [qpu]
  refine qtn (i := 3) (oi := fpz38o22) hHeld ?_
  try simp only [qpu]
  refine qtn (i := 4) (oi := fpz38o17) hHeld ?_
  try simp only [qpu]
  refine qtn (i := 5) (oi := fpz38o8) hHeld ?_
  try simp only [qpu]
  refine qtn (i := 6) (oi := fpz38o6) hHeld ?_
  try simp only [qpu]
  refine qtn (i := 7) (oi := fpz38o1) hHeld ?_
  try simp only [qpu]
  refine qtn (i := 8) (oi := fpz38o23) hHeld ?_
  try simp only [qpu]
  refine qtn (i := 9) (oi := fpz38o18) hHeld ?_
  try simp only [qpu]
  refine qtn (i := 10) (oi := fpz38o9) hHeld ?_
  try simp only [qpu]
  refine qtn (i := 11) (oi := fpz38o14) hHeld ?_
  try simp only [qpu]
  refine qtn (i := 12) (oi := fpz38o5) hHeld ?_
  try simp only [qpu]
  refine qtk (i := 13) (oi := fpz38o10) (v := (.bool false)) hHeld ?_ ?_
  ·intro w9 hSw
   try dsimp only at hSw
   go_simp
  try simp only [qpu]
  refine qtk (i := 14) (oi := fpz38o19) (v := (.bool false)) hHeld ?_ ?_
  ·intro w9 hSw
   try dsimp only at hSw
   go_simp
  try simp only [qpu]
  refine qtk (i := 15) (oi := fpz38o20) (v := (.pointer (some ⟨tb, 0, none⟩))) hHeld ?_ ?_
  ·intro w9 hSw
   try dsimp only at hSw
   go_simp
  try simp only [qpu]
  refine qtk (i := 17) (oi := fpz38o24) (v := (.pointer (some ⟨bx, 14, none⟩))) hHeld ?_ ?_
  ·intro w9 hSw
   try dsimp only at hSw
   go_simp
  try simp only [qpu]
  refine qtk (i := 18) (oi := fpz38o12) (v := (.slice da dn dc)) hHeld ?_ ?_
  ·intro w9 hSw
   try dsimp only at hSw
   have hcc := hSw.2.2.2
   go_simp
  try simp only [qpu]
  refine qtk (i := 19) (oi := fpz38o2) (v := (.int .i64 (dn : Int))) hHeld ?_ ?_
  ·intro w9 hSw
   try dsimp only at hSw
   go_simp
  try simp only [qpu]
  refine qtk (i := 21) (oi := fpz38o21) (v := (.pointer (some ⟨tb, 0, none⟩))) hHeld ?_ ?_
  ·intro w9 hSw
   try dsimp only at hSw
   go_simp
  try simp only [qpu]
  refine qtk (i := 22) (oi := fpz38o16) (v := (.pointer (some ⟨tb, 0, none⟩))) hHeld ?_ ?_
  ·intro w9 hSw
   try dsimp only at hSw
   go_simp
  try simp only [qpu]
  refine qtk (i := 23) (oi := fpz38o7) (v := (.pointer (some ⟨tb, 1, none⟩))) hHeld ?_ ?_
  ·intro w9 hSw
   try dsimp only at hSw
   go_simp
  try simp only [qpu]
  refine qtk (i := 24) (oi := fpz38o13) (v := (.int .i64 ro)) hHeld ?_ ?_
  ·intro w9 hSw
   try dsimp only at hSw
   have hcc := hSw.2.1
   go_simp
  try simp only [qpu]
  refine wpAnyH_ready (rs := [16]) (by kernel_rfl) (by simp) ?_
  refine AllReadyH.cons (o := fpz38o0) rfl (fun K hK => ?_) AllReadyH.nil
  go_simp
  refine Calls.mono (KB1.out) ?_
  rintro e W9 ⟨rfl, hWs⟩
  rw [hWs]
  clear hWs W9
  refine hK.out _ _ (by exact ⟨D0, D1, D4, DC⟩) (fun hHeld => ?_)
  clear hK K
  try simp only [qpu]
  refine qtk (i := 20) (oi := fpz38o4) (v := (.int .i64 (BY + (dn : Int)))) hHeld ?_ ?_
  ·intro w9 hSw
   try dsimp only at hSw
   go_simp
  try simp only [qpu]
  refine qtk (i := 25) (oi := fpz38o3) (v := (.bool true)) hHeld ?_ ?_
  ·intro w9 hSw
   try dsimp only at hSw
   go_simp
  try simp only [qpu]
  refine qtk (i := 26) (oi := fpz38o11) (v := (.bool true)) hHeld ?_ ?_
  ·intro w9 hSw
   try dsimp only at hSw
   go_simp
  try simp only [qpu]
  refine wpAnyH_done (by kernel_rfl) ?_ _
  refine NoPanic.normal ?_
  go_wp2_with (refine wpList_store_blk rfl 42 _ _ rfl ob z15 z15 (by rfl) (by rfl) OB (by kernel_rfl) rfl (by kernel_rfl) ?_)
  exact ret_cell_tmp (k := 4) (j := 5) Try.f18 (by kernel_rfl) (OB.set _) Try.underlying42 (by kernel_rfl) (by rfl) (by rfl) rfl (HHF.out _ (below_setRow (bd.mono hB) hBo _))
 have NF : Hid (¬ ro < BY + dn) := f2
 have g2 : ¬ BY + (dn : Int) > ro := f2
 go_wp2_with fail
 refine wp_region_noPanic ?_
 refine wp_region_held_drew (S := fun w' => w'.cell? ⟨tb, 0, none⟩ = some (.int .i64 ms) ∧ w'.cell? ⟨tb, 1, none⟩ = some (.int .i64 ro) ∧ w'.cell? ⟨tb, 4, none⟩ = some (.slice ga N gc) ∧ w'.cell? ⟨bx, 14, none⟩ = some (.slice da dn dc)) (by kernel_rfl) (by exact ⟨D0, D1, D4, DC⟩) (fun hHeld => ?_)
 refine qtk (i := 0) (oi := fpz38o32) (v := (.int .i64 (j : Int))) hHeld ?_ ?_
 ·intro w9 hSw
  try dsimp only at hSw
  go_simp
 try simp only [qpu]
 refine qtk (i := 1) (oi := fpz38o15) (v := (.bool false)) hHeld ?_ ?_
 ·intro w9 hSw
  try dsimp only at hSw
  go_simp
 try simp only [qpu]
 refine qtk (i := 2) (oi := fpz38o26) (v := (.bool false)) hHeld ?_ ?_
 ·intro w9 hSw
  try dsimp only at hSw
  go_simp
 try simp only [qpu]
 refine qtn (i := 3) (oi := fpz38o22) hHeld ?_
 try simp only [qpu]
 refine qtn (i := 4) (oi := fpz38o17) hHeld ?_
 try simp only [qpu]
 refine qtn (i := 5) (oi := fpz38o8) hHeld ?_
 try simp only [qpu]
 refine qtn (i := 6) (oi := fpz38o6) hHeld ?_
 try simp only [qpu]
 refine qtn (i := 7) (oi := fpz38o1) hHeld ?_
 try simp only [qpu]
 refine qtn (i := 8) (oi := fpz38o23) hHeld ?_
 try simp only [qpu]
 refine qtn (i := 9) (oi := fpz38o18) hHeld ?_
 try simp only [qpu]
 refine qtn (i := 10) (oi := fpz38o9) hHeld ?_
 try simp only [qpu]
 refine qtn (i := 11) (oi := fpz38o14) hHeld ?_
 try simp only [qpu]
 refine qtn (i := 12) (oi := fpz38o5) hHeld ?_
 try simp only [qpu]
 refine qtk (i := 13) (oi := fpz38o10) (v := (.bool false)) hHeld ?_ ?_
 ·intro w9 hSw
  try dsimp only at hSw
  go_simp
 try simp only [qpu]
 refine qtk (i := 14) (oi := fpz38o19) (v := (.bool false)) hHeld ?_ ?_
 ·intro w9 hSw
  try dsimp only at hSw
  go_simp
 try simp only [qpu]
 refine qtk (i := 15) (oi := fpz38o20) (v := (.pointer (some ⟨tb, 0, none⟩))) hHeld ?_ ?_
 ·intro w9 hSw
  try dsimp only at hSw
  go_simp
 try simp only [qpu]
 refine qtk (i := 17) (oi := fpz38o24) (v := (.pointer (some ⟨bx, 14, none⟩))) hHeld ?_ ?_
 ·intro w9 hSw
  try dsimp only at hSw
  go_simp
 try simp only [qpu]
 refine qtk (i := 18) (oi := fpz38o12) (v := (.slice da dn dc)) hHeld ?_ ?_
 ·intro w9 hSw
  try dsimp only at hSw
  have hcc := hSw.2.2.2
  go_simp
 try simp only [qpu]
 refine qtk (i := 19) (oi := fpz38o2) (v := (.int .i64 (dn : Int))) hHeld ?_ ?_
 ·intro w9 hSw
  try dsimp only at hSw
  go_simp
 try simp only [qpu]
 refine qtk (i := 21) (oi := fpz38o21) (v := (.pointer (some ⟨tb, 0, none⟩))) hHeld ?_ ?_
 ·intro w9 hSw
  try dsimp only at hSw
  go_simp
 try simp only [qpu]
 refine qtk (i := 22) (oi := fpz38o16) (v := (.pointer (some ⟨tb, 0, none⟩))) hHeld ?_ ?_
 ·intro w9 hSw
  try dsimp only at hSw
  go_simp
 try simp only [qpu]
 refine qtk (i := 23) (oi := fpz38o7) (v := (.pointer (some ⟨tb, 1, none⟩))) hHeld ?_ ?_
 ·intro w9 hSw
  try dsimp only at hSw
  go_simp
 try simp only [qpu]
 refine qtk (i := 24) (oi := fpz38o13) (v := (.int .i64 ro)) hHeld ?_ ?_
 ·intro w9 hSw
  try dsimp only at hSw
  have hcc := hSw.2.1
  go_simp
 try simp only [qpu]
 refine wpAnyH_ready (rs := [16]) (by kernel_rfl) (by simp) ?_
 refine AllReadyH.cons (o := fpz38o0) rfl (fun K hK => ?_) AllReadyH.nil
 go_simp
 refine Calls.mono (KB1.out) ?_
 rintro e W9 ⟨rfl, hWs⟩
 rw [hWs]
 clear hWs W9
 refine hK.out _ _ (by exact ⟨D0, D1, D4, DC⟩) (fun hHeld => ?_)
 clear hK K
 try simp only [qpu]
 refine qtk (i := 20) (oi := fpz38o4) (v := (.int .i64 (BY + (dn : Int)))) hHeld ?_ ?_
 ·intro w9 hSw
  try dsimp only at hSw
  go_simp
 try simp only [qpu]
 refine qtk (i := 25) (oi := fpz38o3) (v := (.bool false)) hHeld ?_ ?_
 ·intro w9 hSw
  try dsimp only at hSw
  go_simp
 try simp only [qpu]
 refine qtk (i := 26) (oi := fpz38o11) (v := (.bool false)) hHeld ?_ ?_
 ·intro w9 hSw
  try dsimp only at hSw
  go_simp
 try simp only [qpu]
 refine wpAnyH_done (by kernel_rfl) ?_ _
 refine NoPanic.normal ?_
 go_wp2_with fail
 exact HHT.out NF.out w.drew bd
end Go.Proofs.Ytkeeidfpgfdldaa
