/- Texts joined: FpQe FpS -/
import Derived.Test.YtkeeidfpgfdldaaFpz27
namespace Go.Proofs.Ytkeeidfpgfdldaa
open Go.RowKit
set_option linter.unusedVariables false
set_option linter.unusedSimpArgs false
set_option maxRecDepth 100000 in
set_option maxHeartbeats 16000000 in
theorem put_D1 (T : Code) (Q : Exit → Act → World → Prop) (tb bx ob nb gb : Nat) (v : Int) (f sf sh sl df dh dl pr ho : Int) (id of : Int) (mo : Bool) (xa : Option Addr) (xn xc : Nat) (da : Option Addr) (dn dc : Nat) (X D : List Int) (w : World) (hbx : Blk w bx 42 #[.int .i64 f, .int .i64 sf, .int .u64 sh, .int .u64 sl, .int .i64 df, .int .u64 dh, .int .u64 dl, .int .i64 pr, .int .i64 ho, .bool true, .int .u32 id, .int .i64 of, .bool mo, .slice xa xn xc, .slice da dn dc]) (hX : RowI w xa X) (hXl : X.length = xn) (hXn : xa = none → xc = 0) (hD : Row w da D) (hDl : D.length = dn) (hDn : da = none → dc = 0) (hd5 : dn ≤ 65535) {u2 u8 u10 u11 u12 u13 u14 u15 u16 u17 u18 u19 u20 u21 u22 u23 u24 u25 u26 u27 u28 u29 u30 u31 u32 u33 u34 u35 u36 u37 u38 u39 u40 u41 u42 u43 u44 u45 u46 u47 u48 u49 u50 u51 u52 u53 u54 u55 u56 u57 u58 u59 u60 u61 u62 u63 u64 u65 u66 u67 u68 u69 u70 u71 u72 u73 u74 u75 u76 u77 u78 u79 u80 u81 u82 u83 u84 u85 u86 u87 u88 u89 u90 u91 u92 u93 u94 u95 u96 u97 u98 u99 u100 u101 u102 u103 u104 u105 u106 u107 u108 u109 u110 u111 u112 u113 u114 u115 u116 u117 u118 u119 u120 u121 u122 u123 u124 u125 u126 u127 u128 u129 u130 u131 u132 u133 u134 u135 u136 u137 u138 u139 u140 u141 u142 u143 u144 u145 u146 u147 u148 u149 u150 u151 u152 u153 u154 u155 u156 u157 u158 u159 u160 u161 u162 u163 u164 u165 u166 u167 u168 u169 u170 u171 u172 u173 u174 u175 u176 u177 u178 u179 u180 u181 u182 u183 u184 u185 u186 u187 u188 u189 u190 u191 u192 u193 u194 u195 u196 u197 u198 u199 u200 u201 u202 u203 u204 u205 u206 u207 u208 u209 u210 u211 u212 u213 u214 u215 u216 u217 u218 u219 u220 u221 u222 u223 u224 u225 u226 u227 u228 : Value} (HT : ∀ {u2 u8 u11 u12 u13 u14 u15 u16 u17 u18 u19 u20 u21 u22 u23 u24 u25 u26 u27 u28 u29 u30 u31 u32 u33 u34 u35 u36 u37 u38 u39 u40 u41 u42 u43 u44 u45 u46 u47 u48 u49 u50 u51 u52 u53 u54 u55 u56 u57 u58 u59 u60 u61 u62 u63 u64 u65 u66 u67 u68 u69 u70 u71 u72 u73 u74 u75 u76 u77 u78 u79 u80 u81 u82 u83 u84 u85 u86 u87 u88 u89 u90 u91 u92 u93 u94 u95 u96 u97 u98 u99 u100 u101 u102 u103 u104 u105 u106 u107 u108 u109 u110 u111 u112 u113 u114 u115 u116 u117 u118 u119 u120 u121 u122 u123 u124 u125 u126 u127 u128 u129 u130 u131 u132 u133 u134 u135 u136 u137 u138 u139 u140 u141 u142 u143 u144 u145 u146 u147 u148 u149 u150 u151 u152 u153 u154 u155 u156 u157 u158 u159 u160 u161 u162 u163 u164 u165 u166 u167 u168 u169 u170 u171 u172 u173 u174 u175 u176 u177 u178 u179 u180 u181 u182 u183 u184 u185 u186 u187 u188 u189 u190 u191 u192 u193 u194 u195 u196 u197 u198 u199 u200 u201 u202 u203 u204 u205 u206 u207 u208 u209 u210 u211 u212 u213 u214 u215 u216 u217 u218 u219 u220 u221 u222 u223 u224 u225 u226 u227 u228 : Value} (W : World) (qb : Nat) (xa2 da2 : Option Addr) (xc2 dc2 : Nat), Below w.heap.size w W → Blk W qb 42 #[.int .i64 f, .int .i64 sf, .int .u64 sh, .int .u64 sl, .int .i64 df, .int .u64 dh, .int .u64 dl, .int .i64 pr, .int .i64 ho, .bool true, .int .u32 id, .int .i64 of, .bool mo, .slice xa2 xn xc2, .slice da2 dn dc2] → w.heap.size ≤ qb → RowI W xa2 X → (xa2 = none → xc2 = 0) → (∀ y, xa2 = some y → w.heap.size < y.block) → Row W da2 D → (da2 = none → dc2 = 0) → (∀ y, da2 = some y → w.heap.size < y.block) → (∀ y, xa2 = some y → y.block < W.heap.size) → (∀ y, da2 = some y → y.block < W.heap.size) → Code.wp Try.prog T Q ⟨(List.toArray ((.pointer (some ⟨tb, 0, none⟩)) :: (.agg #[.int .i64 f, .int .i64 sf, .int .u64 sh, .int .u64 sl, .int .i64 df, .int .u64 dh, .int .u64 dl, .int .i64 pr, .int .i64 ho, .bool true, .int .u32 id, .int .i64 of, .bool mo, .slice xa xn xc, .slice da dn dc]) :: (u2) :: (.pointer (some ⟨bx, 0, none⟩)) :: (.pointer (some ⟨ob, 0, none⟩)) :: (.int .i64 0) :: (.pointer (some ⟨nb, 0, none⟩)) :: (.int .i64 v) :: (u8) :: (.pointer (some ⟨gb, 0, none⟩)) :: (.pointer (some ⟨qb, 0, none⟩)) :: (u11) :: (u12) :: (u13) :: (u14) :: (u15) :: (u16) :: (u17) :: (u18) :: (u19) :: (u20) :: (u21) :: (u22) :: (u23) :: (u24) :: (u25) :: (u26) :: (u27) :: (u28) :: (u29) :: (u30) :: (u31) :: (u32) :: (u33) :: (u34) :: (u35) :: (u36) :: (u37) :: (u38) :: (u39) :: (u40) :: (u41) :: (u42) :: (u43) :: (u44) :: (u45) :: (u46) :: (u47) :: (u48) :: (u49) :: (u50) :: (u51) :: (u52) :: (u53) :: (u54) :: (u55) :: (u56) :: (u57) :: (u58) :: (u59) :: (u60) :: (u61) :: (u62) :: (u63) :: (u64) :: (u65) :: (u66) :: (u67) :: (u68) :: (u69) :: (u70) :: (u71) :: (u72) :: (u73) :: (u74) :: (u75) :: (u76) :: (u77) :: (u78) :: (u79) :: (u80) :: (u81) :: (u82) :: (u83) :: (u84) :: (u85) :: (u86) :: (u87) :: (u88) :: (u89) :: (u90) :: (u91) :: (u92) :: (u93) :: (u94) :: (u95) :: (u96) :: (u97) :: (u98) :: (u99) :: (u100) :: (u101) :: (u102) :: (u103) :: (u104) :: (u105) :: (u106) :: (u107) :: (u108) :: (u109) :: (u110) :: (u111) :: (u112) :: (u113) :: (u114) :: (u115) :: (u116) :: (u117) :: (u118) :: (u119) :: (u120) :: (u121) :: (u122) :: (u123) :: (u124) :: (u125) :: (u126) :: (u127) :: (u128) :: (u129) :: (u130) :: (u131) :: (u132) :: (u133) :: (u134) :: (u135) :: (u136) :: (u137) :: (u138) :: (u139) :: (u140) :: (u141) :: (u142) :: (u143) :: (u144) :: (u145) :: (u146) :: (u147) :: (u148) :: (u149) :: (u150) :: (u151) :: (u152) :: (u153) :: (u154) :: (u155) :: (u156) :: (u157) :: (u158) :: (u159) :: (u160) :: (u161) :: (u162) :: (u163) :: (u164) :: (u165) :: (u166) :: (u167) :: (u168) :: (u169) :: (u170) :: (u171) :: (u172) :: (u173) :: (u174) :: (u175) :: (u176) :: (u177) :: (u178) :: (u179) :: (u180) :: (u181) :: (u182) :: (u183) :: (u184) :: (u185) :: (u186) :: (u187) :: (u188) :: (u189) :: (u190) :: (u191) :: (u192) :: (u193) :: (u194) :: (u195) :: (u196) :: (u197) :: (u198) :: (u199) :: (u200) :: (u201) :: (u202) :: (u203) :: (u204) :: (u205) :: (u206) :: (u207) :: (u208) :: (u209) :: (u210) :: (u211) :: (u212) :: (u213) :: (u214) :: (u215) :: (u216) :: (u217) :: (u218) :: (u219) :: (u220) :: (u221) :: (u222) :: (u223) :: (u224) :: (u225) :: (u226) :: (u227) :: (u228) :: List.nil)), []⟩ W) :
  Code.wp Try.prog (Code.seq (Code.region 25 #[{ dst := some 172, op := Op.load 42 (Operand.tmp 3), type := 42, pos := "ref.go:153", after := #[], guard := none }, { dst := some 10, op := Op.alloc 42, type := 0, pos := "ref.go:153", after := #[], guard := none }, { dst := none, op := Op.store 42 (Operand.tmp 10) (Operand.tmp 172), type := 0, pos := "ref.go:153", after := #[{ on := 1, ground := Ground.data }, { on := 0, ground := Ground.data }, { on := 0, ground := Ground.phase }, { on := 1, ground := Ground.phase }], guard := none }] false) (Code.seq (Code.region 26 #[{ dst := some 173, op := Op.fieldAddr 42 (Operand.tmp 3) 10, type := 0, pos := "ref.go:154", after := #[], guard := none }, { dst := some 174, op := Op.load 40 (Operand.tmp 173), type := 40, pos := "ref.go:154", after := #[{ on := 0, ground := Ground.data }], guard := none }, { dst := some 175, op := Op.call { callee := Callee.builtin Builtin.append, args := #[Operand.const (Value.slice none 0 0), Operand.tmp 174], argTypes := #[40, 40] }, type := 40, pos := "ref.go:154", after := #[{ on := 1, ground := Ground.data }], guard := none }, { dst := some 176, op := Op.fieldAddr 42 (Operand.tmp 10) 10, type := 0, pos := "ref.go:154", after := #[{ on := 0, ground := Ground.phase }, { on := 1, ground := Ground.phase }, { on := 2, ground := Ground.phase }], guard := none }, { dst := none, op := Op.store 40 (Operand.tmp 176) (Operand.tmp 175), type := 0, pos := "ref.go:154", after := #[{ on := 3, ground := Ground.data }, { on := 2, ground := Ground.data }, { on := 2, ground := Ground.chain }, { on := 0, ground := Ground.phase }, { on := 1, ground := Ground.phase }, { on := 2, ground := Ground.phase }], guard := none }] false) (Code.seq (Code.region 27 #[{ dst := some 177, op := Op.fieldAddr 42 (Operand.tmp 3) 9, type := 0, pos := "ref.go:155", after := #[], guard := none }, { dst := some 178, op := Op.load 39 (Operand.tmp 177), type := 39, pos := "ref.go:155", after := #[{ on := 0, ground := Ground.data }], guard := none }, { dst := some 179, op := Op.call { callee := Callee.builtin Builtin.append, args := #[Operand.const (Value.slice none 0 0), Operand.tmp 178], argTypes := #[39, 39] }, type := 39, pos := "ref.go:155", after := #[{ on := 1, ground := Ground.data }], guard := none }, { dst := some 180, op := Op.fieldAddr 42 (Operand.tmp 10) 9, type := 0, pos := "ref.go:155", after := #[{ on := 0, ground := Ground.phase }, { on := 1, ground := Ground.phase }, { on := 2, ground := Ground.phase }], guard := none }, { dst := none, op := Op.store 39 (Operand.tmp 180) (Operand.tmp 179), type := 0, pos := "ref.go:155", after := #[{ on := 3, ground := Ground.data }, { on := 2, ground := Ground.data }, { on := 2, ground := Ground.chain }, { on := 0, ground := Ground.phase }, { on := 1, ground := Ground.phase }, { on := 2, ground := Ground.phase }], guard := none }] false) T))) Q ⟨(List.toArray ((.pointer (some ⟨tb, 0, none⟩)) :: (.agg #[.int .i64 f, .int .i64 sf, .int .u64 sh, .int .u64 sl, .int .i64 df, .int .u64 dh, .int .u64 dl, .int .i64 pr, .int .i64 ho, .bool true, .int .u32 id, .int .i64 of, .bool mo, .slice xa xn xc, .slice da dn dc]) :: (u2) :: (.pointer (some ⟨bx, 0, none⟩)) :: (.pointer (some ⟨ob, 0, none⟩)) :: (.int .i64 0) :: (.pointer (some ⟨nb, 0, none⟩)) :: (.int .i64 v) :: (u8) :: (.pointer (some ⟨gb, 0, none⟩)) :: (u10) :: (u11) :: (u12) :: (u13) :: (u14) :: (u15) :: (u16) :: (u17) :: (u18) :: (u19) :: (u20) :: (u21) :: (u22) :: (u23) :: (u24) :: (u25) :: (u26) :: (u27) :: (u28) :: (u29) :: (u30) :: (u31) :: (u32) :: (u33) :: (u34) :: (u35) :: (u36) :: (u37) :: (u38) :: (u39) :: (u40) :: (u41) :: (u42) :: (u43) :: (u44) :: (u45) :: (u46) :: (u47) :: (u48) :: (u49) :: (u50) :: (u51) :: (u52) :: (u53) :: (u54) :: (u55) :: (u56) :: (u57) :: (u58) :: (u59) :: (u60) :: (u61) :: (u62) :: (u63) :: (u64) :: (u65) :: (u66) :: (u67) :: (u68) :: (u69) :: (u70) :: (u71) :: (u72) :: (u73) :: (u74) :: (u75) :: (u76) :: (u77) :: (u78) :: (u79) :: (u80) :: (u81) :: (u82) :: (u83) :: (u84) :: (u85) :: (u86) :: (u87) :: (u88) :: (u89) :: (u90) :: (u91) :: (u92) :: (u93) :: (u94) :: (u95) :: (u96) :: (u97) :: (u98) :: (u99) :: (u100) :: (u101) :: (u102) :: (u103) :: (u104) :: (u105) :: (u106) :: (u107) :: (u108) :: (u109) :: (u110) :: (u111) :: (u112) :: (u113) :: (u114) :: (u115) :: (u116) :: (u117) :: (u118) :: (u119) :: (u120) :: (u121) :: (u122) :: (u123) :: (u124) :: (u125) :: (u126) :: (u127) :: (u128) :: (u129) :: (u130) :: (u131) :: (u132) :: (u133) :: (u134) :: (u135) :: (u136) :: (u137) :: (u138) :: (u139) :: (u140) :: (u141) :: (u142) :: (u143) :: (u144) :: (u145) :: (u146) :: (u147) :: (u148) :: (u149) :: (u150) :: (u151) :: (u152) :: (u153) :: (u154) :: (u155) :: (u156) :: (u157) :: (u158) :: (u159) :: (u160) :: (u161) :: (u162) :: (u163) :: (u164) :: (u165) :: (u166) :: (u167) :: (u168) :: (u169) :: (u170) :: (u171) :: (u172) :: (u173) :: (u174) :: (u175) :: (u176) :: (u177) :: (u178) :: (u179) :: (u180) :: (u181) :: (u182) :: (u183) :: (u184) :: (u185) :: (u186) :: (u187) :: (u188) :: (u189) :: (u190) :: (u191) :: (u192) :: (u193) :: (u194) :: (u195) :: (u196) :: (u197) :: (u198) :: (u199) :: (u200) :: (u201) :: (u202) :: (u203) :: (u204) :: (u205) :: (u206) :: (u207) :: (u208) :: (u209) :: (u210) :: (u211) :: (u212) :: (u213) :: (u214) :: (u215) :: (u216) :: (u217) :: (u218) :: (u219) :: (u220) :: (u221) :: (u222) :: (u223) :: (u224) :: (u225) :: (u226) :: (u227) :: (u228) :: List.nil)), []⟩ w := by
 have HHT : Hid _ := @HT
 clear HT
 subst hXl
 subst hDl
 have hbl := hbx.lt
 obtain ⟨W1, hW1⟩ : ∃ W, w.alloc (.cells #[.int .i64 f, .int .i64 sf, .int .u64 sh, .int .u64 sl, .int .i64 df, .int .u64 dh, .int .u64 dl, .int .i64 pr, .int .i64 ho, .bool true, .int .u32 id, .int .i64 of, .bool mo, .slice xa X.length xc, .slice da D.length dc] 42) = W := ⟨_, rfl⟩
 have b1 := bel_nw hW1
 have HQ1 : Hid (Blk W1 w.heap.size 42 #[.int .i64 f, .int .i64 sf, .int .u64 sh, .int .u64 sl, .int .i64 df, .int .u64 dh, .int .u64 dl, .int .i64 pr, .int .i64 ho, .bool true, .int .u32 id, .int .i64 of, .bool mo, .slice xa X.length xc, .slice da D.length dc]) := blk_nw hW1
 have HX1 : Hid (Blk W1 bx 42 #[.int .i64 f, .int .i64 sf, .int .u64 sh, .int .u64 sl, .int .i64 df, .int .u64 dh, .int .u64 dl, .int .i64 pr, .int .i64 ho, .bool true, .int .u32 id, .int .i64 of, .bool mo, .slice xa X.length xc, .slice da D.length dc]) := hbx.al hW1
 obtain ⟨da2, dc2, W2, r2, o2, n2, c2⟩ := run_appB W1 40 W1.heap.size none 0 [] (Owns.nil _ _) da dc D (hD.below b1) hDn (by simp; omega) (Nat.le_refl _)
 rw [List.nil_append] at r2 o2
 have HQ2 : Hid (Blk W2 w.heap.size 42 #[.int .i64 f, .int .i64 sf, .int .u64 sh, .int .u64 sl, .int .i64 df, .int .u64 dh, .int .u64 dl, .int .i64 pr, .int .i64 ho, .bool true, .int .u32 id, .int .i64 of, .bool mo, .slice xa X.length xc, .slice da D.length dc]) := HQ1.out.kept c2
 have HX2 : Hid (Blk W2 bx 42 #[.int .i64 f, .int .i64 sf, .int .u64 sh, .int .u64 sl, .int .i64 df, .int .u64 dh, .int .u64 dl, .int .i64 pr, .int .i64 ho, .bool true, .int .u32 id, .int .i64 of, .bool mo, .slice xa X.length xc, .slice da D.length dc]) := HX1.out.kept c2
 have b2 : Below w.heap.size w W2 := b1.trans (c2.mono b1.size)
 obtain ⟨W3, hW3⟩ : ∃ W, W2.setCell ⟨w.heap.size, 14, none⟩ (.slice da2 D.length dc2) = W := ⟨_, rfl⟩
 have b3 : Below w.heap.size w W3 := by rw [← hW3]; exact b2.setCell (Nat.le_refl _) _
 have HQ3 : Hid (Blk W3 w.heap.size 42 #[.int .i64 f, .int .i64 sf, .int .u64 sh, .int .u64 sl, .int .i64 df, .int .u64 dh, .int .u64 dl, .int .i64 pr, .int .i64 ho, .bool true, .int .u32 id, .int .i64 of, .bool mo, .slice xa X.length xc, .slice da2 D.length dc2]) := by rw [← hW3]; exact HQ2.out.put 14 _
 have HX3 : Hid (Blk W3 bx 42 #[.int .i64 f, .int .i64 sf, .int .u64 sh, .int .u64 sl, .int .i64 df, .int .u64 dh, .int .u64 dl, .int .i64 pr, .int .i64 ho, .bool true, .int .u32 id, .int .i64 of, .bool mo, .slice xa X.length xc, .slice da D.length dc]) := by rw [← hW3]; exact HX2.out.set_far (by omega)
 obtain ⟨xa2, xc2, W4, r4, o4, n4, c4⟩ := run_copyI W3 39 xa xc X (hX.below b3) hXn
 have HQ4 : Hid (Blk W4 w.heap.size 42 #[.int .i64 f, .int .i64 sf, .int .u64 sh, .int .u64 sl, .int .i64 df, .int .u64 dh, .int .u64 dl, .int .i64 pr, .int .i64 ho, .bool true, .int .u32 id, .int .i64 of, .bool mo, .slice xa X.length xc, .slice da2 D.length dc2]) := HQ3.out.kept c4
 have b4 : Below w.heap.size w W4 := b3.trans (c4.mono b3.size)
 obtain ⟨W5, hW5⟩ : ∃ W, W4.setCell ⟨w.heap.size, 13, none⟩ (.slice xa2 X.length xc2) = W := ⟨_, rfl⟩
 have b5 : Below w.heap.size w W5 := by rw [← hW5]; exact b4.setCell (Nat.le_refl _) _
 have HQ5 : Hid (Blk W5 w.heap.size 42 #[.int .i64 f, .int .i64 sf, .int .u64 sh, .int .u64 sl, .int .i64 df, .int .u64 dh, .int .u64 dl, .int .i64 pr, .int .i64 ho, .bool true, .int .u32 id, .int .i64 of, .bool mo, .slice xa2 X.length xc2, .slice da2 D.length dc2]) := by rw [← hW5]; exact HQ4.out.put 13 _
 have hs1 : w.heap.size < W1.heap.size := by rw [← hW1]; simp
 have hs3 : W1.heap.size ≤ W3.heap.size := by rw [← hW3]; exact Nat.le_trans c2.size (by simp)
 have hdb := D_lt o2
 have hxb := I_lt o4
 have fD : ∀ y, da2 = some y → w.heap.size < y.block := fun y hy => Nat.lt_of_lt_of_le hs1 (hdb y hy)
 have fX : ∀ y, xa2 = some y → w.heap.size < y.block := fun y hy => Nat.lt_of_lt_of_le hs1 (Nat.le_trans hs3 (hxb y hy))
 have RD3 : Row W3 da2 D := by rw [← hW3]; exact row_far (o2.row (by omega) hD.bytes) (fun y hy => by have := fD y hy; omega)
 have RD5 : Row W5 da2 D := by rw [← hW5]; exact row_far (RD3.below c4) (fun y hy => by have := fD y hy; omega)
 have RX5 : RowI W5 xa2 X := by rw [← hW5]; exact rowI_far (o4.row hX.small) (fun y hy => by have := fX y hy; omega)
 have z23 : W2.heap.size ≤ W3.heap.size := by rw [← hW3]; simp
 have z45 : W4.heap.size ≤ W5.heap.size := by rw [← hW5]; simp
 have z34 := c4.size
 have uD : ∀ y, da2 = some y → y.block < W5.heap.size := fun y hy => by have := (owns_new_of o2).2 y hy; omega
 have uX : ∀ y, xa2 = some y → y.block < W5.heap.size := fun y hy => by have := (ownsI_new_of o4).2 y hy; omega
 have HUP : Hid ((∀ y, xa2 = some y → y.block < W5.heap.size) ∧ (∀ y, da2 = some y → y.block < W5.heap.size)) := ⟨uX, uD⟩
 have HEND : Hid (Below w.heap.size w W5 ∧ Blk W5 w.heap.size 42 #[.int .i64 f, .int .i64 sf, .int .u64 sh, .int .u64 sl, .int .i64 df, .int .u64 dh, .int .u64 dl, .int .i64 pr, .int .i64 ho, .bool true, .int .u32 id, .int .i64 of, .bool mo, .slice xa2 X.length xc2, .slice da2 D.length dc2] ∧ RowI W5 xa2 X ∧ (∀ y, xa2 = some y → w.heap.size < y.block) ∧ Row W5 da2 D ∧ (∀ y, da2 = some y → w.heap.size < y.block)) := ⟨b5, HQ5.out, RX5, fX, RD5, fD⟩
 have at1 := hbx
 have e14 := HX1.out.cell 14 (.slice da D.length dc) rfl
 have e13 := HX3.out.cell 13 (.slice xa X.length xc) rfl
 have q14 := HQ2.out.cell 14 (.slice da D.length dc) rfl
 have q13 := HQ4.out.cell 13 (.slice xa X.length xc) rfl
 have z14 := HQ2.out.frozen 14
 have z13 := HQ4.out.frozen 13
 have HN4 : Hid _ := n4
 have HN2 : Hid _ := n2
 clear uD uX z23 z34 z45
 clear hX hD RD3 RD5 RX5 fD fX hdb hxb hs1 hs3 b1 b2 b3 b4 b5 c2 c4 o2 o4 hXn hDn n2 n4
 go_wp2_with (first
  | (refine wpList_load_blk_w (by kernel_rfl) _ _ rfl bx (by rfl) _ at1 Try.underlying42 (by kernel_rfl) ?_)
  | (refine wpList_run_app rfl 40 _ _ rfl _ _ (by rfl) (by rfl) _ _ r2 ?_)
  | (refine wpList_run_app rfl 39 _ _ rfl _ _ (by rfl) (by rfl) _ _ r4 ?_))
 obtain ⟨b5, q5, rx, fx, rd, fd⟩ := HEND.out
 exact HHT.out W5 w.heap.size xa2 da2 xc2 dc2 b5 q5 (Nat.le_refl _) rx HN4.out fx rd HN2.out fd HUP.out.1 HUP.out.2
theorem run_copyP (w : World) (ty : TypeId) (a : Option Addr) (c : Nat) (ps : List PkIn) (h : RowN 15 PkIn.v PkIn.ok w a ps) (hnil : ps = [] → a = none ∧ c = 0) (hl : ps.length ≤ 65536) :
  ∃ (a2 : Option Addr) (c2 : Nat) (w' : World), (Builtin.append_ #[54, 54] ty #[.slice none 0 0, .slice a ps.length c]).run Try.prog w = .ok (.slice a2 ps.length c2) w' ∧ ownP w' a2 c2 ps ∧ Below w.heap.size w w' ∧ ∀ x, a2 = some x → w.heap.size ≤ x.block := by
 obtain ⟨i0, hi, hz0, hz1, hz2⟩ := info_parts info_ip15
 cases hps : ps with
 | nil =>
  obtain ⟨rfl, rfl⟩ := hnil hps
  have := run_append_owned_none (P := Try.prog) (w := w) 0 54 ty 42 i0 15 Try.underlying54 hi (.slice none 0 0) 0 [] (World.ownsRow_nil _ _ _ _)
  exact ⟨none, 0, w, this, ownP_nil _, Below.refl _ _, fun x hx => by cases hx⟩
 | cons q0 r0 =>
  rw [← hps]
  have hpos : 0 < ps.length := by rw [hps]; simp
  obtain ⟨b, off, ha, _⟩ := h.cells 0 q0 (by rw [hps]; rfl)
  subst ha
  obtain ⟨v', w', r1, r2, r3, _, r5⟩ := run_append_own_at (P := Try.prog) w 0 54 ty 42 i0 _ 15 144 Try.underlying54 hi hz0 hz1 hz2 rfl (by decide) (.slice none 0 0) 0 [] (World.ownsRow_nil _ _ _ _) ⟨b, off, none⟩ ps.length c (pc15 ps) (by rw [fl_len _ 15 pkv_len]) (fun j u hj => by
    have hjl := (List.getElem?_eq_some_iff.1 hj).1
    rw [fl_len _ 15 pkv_len] at hjl
    obtain ⟨q, hq⟩ : ∃ q, ps[j / 15]? = some q := ⟨_, List.getElem?_eq_getElem (by omega)⟩
    obtain ⟨b', off', e, hc⟩ := h.cells (j / 15) q hq
    obtain ⟨rfl, rfl⟩ : b = b' ∧ off = off' := by simpa using e
    have h10 := fl_get (fun q : PkIn => q.v.toList) 15 pkv_len ps (j / 15) (j % 15) q hq (by omega)
    have ej : j / 15 * 15 + j % 15 = j := by omega
    rw [ej] at h10
    have hu : q.v.toList[j % 15]? = some u := h10.symm.trans hj
    have e0 : Addr.add ⟨b, off, none⟩ j = ⟨b, off + j, none⟩ := Go.WideShapes.add_plain ..
    rw [e0]
    have := hc.2 (j % 15) u (by simpa using hu)
    rw [show off + j / 15 * 15 + j % 15 = off + j by omega] at this
    exact this) (fun u hu => by
    obtain ⟨q, hq, hu'⟩ := List.mem_flatMap.1 hu
    exact (Array.all_eq_true_iff_forall_mem.1 (show q.v.all (·.oneCell') = true by kernel_rfl)) u (by simpa using hu')) (by unfold maxLen; omega) (by omega) (by omega)
  simp only [List.nil_append, Nat.zero_add] at r2 r5
  obtain ⟨a2, c2, rfl⟩ : ∃ a2 c2, v' = .slice a2 ps.length c2 := by
   rcases r2.2 with ⟨h1, h2⟩ | ⟨g, cap, cur, h1, _⟩
   ·exact absurd h2 (by omega)
   ·exact ⟨_, _, h1⟩
  refine ⟨a2, c2, w', r1, r2, (But.refl (fun _ => False) _).grown r3 (fun n hn => by cases hn) |>.to_below (Nat.le_refl _) (fun _ _ h => h), fun x hx => ?_⟩
  have hk' := (ownBlk_iff (n := ps.length) (c := c2)).2 ⟨x, hx, rfl⟩
  rcases r5 with e | e
  ·rw [e] at hk'; cases hk'
  ·rw [e] at hk'
   injection hk' with hk'
   exact Nat.le_of_eq hk'
end Go.Proofs.Ytkeeidfpgfdldaa
