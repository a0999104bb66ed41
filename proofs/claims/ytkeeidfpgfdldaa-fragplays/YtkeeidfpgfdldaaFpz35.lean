/- Texts joined: FpQa -/
import Derived.Test.YtkeeidfpgfdldaaFpz26
namespace Go.Proofs.Ytkeeidfpgfdldaa
abbrev fpz35o5 : Oper := { dst := some 9, op := Op.alloc 79, type := 0, pos := "ref.go:141", after := #[], guard := none }
end Go.Proofs.Ytkeeidfpgfdldaa
namespace Go.Proofs.Ytkeeidfpgfdldaa
open Go.RowKit
set_option linter.unusedVariables false
set_option linter.unusedSimpArgs false
set_option maxRecDepth 100000 in
set_option maxHeartbeats 16000000 in
theorem put_B0 (T : Code) (Q : Exit → Act → World → Prop) (tb bx ob nb : Nat) (v : Int) (cl li en np : Int) (f sf sh sl df dh dl pr ho : Int) (id of : Int) (mo : Bool) (xa : Option Addr) (xn xc : Nat) (da : Option Addr) (dn dc : Nat) (w : World) (t2 : w.cell? ⟨tb, 2, none⟩ = some (.int .i64 li)) (t3 : w.cell? ⟨tb, 3, none⟩ = some (.int .i64 cl)) (hnb : Blk w nb 72 (nmV ⟨sf, sh, sl⟩ ⟨df, dh, dl⟩ np id)) (hen : cl + li = en) (he0 : -9223372036854775808 ≤ en) (he1 : en ≤ 9223372036854775807) {u2 u8 u9 u10 u11 u12 u13 u14 u15 u16 u17 u18 u19 u20 u21 u22 u23 u24 u25 u26 u27 u28 u29 u30 u31 u32 u33 u34 u35 u36 u37 u38 u39 u40 u41 u42 u43 u44 u45 u46 u47 u48 u49 u50 u51 u52 u53 u54 u55 u56 u57 u58 u59 u60 u61 u62 u63 u64 u65 u66 u67 u68 u69 u70 u71 u72 u73 u74 u75 u76 u77 u78 u79 u80 u81 u82 u83 u84 u85 u86 u87 u88 u89 u90 u91 u92 u93 u94 u95 u96 u97 u98 u99 u100 u101 u102 u103 u104 u105 u106 u107 u108 u109 u110 u111 u112 u113 u114 u115 u116 u117 u118 u119 u120 u121 u122 u123 u124 u125 u126 u127 u128 u129 u130 u131 u132 u133 u134 u135 u136 u137 u138 u139 u140 u141 u142 u143 u144 u145 u146 u147 u148 u149 u150 u151 u152 u153 u154 u155 u156 u157 u158 u159 u160 u161 u162 u163 u164 u165 u166 u167 u168 u169 u170 u171 u172 u173 u174 u175 u176 u177 u178 u179 u180 u181 u182 u183 u184 u185 u186 u187 u188 u189 u190 u191 u192 u193 u194 u195 u196 u197 u198 u199 u200 u201 u202 u203 u204 u205 u206 u207 u208 u209 u210 u211 u212 u213 u214 u215 u216 u217 u218 u219 u220 u221 u222 u223 u224 u225 u226 u227 u228 : Value} (HT : ∀ {u2 u8 u10 u11 u12 u13 u14 u15 u16 u17 u18 u19 u20 u21 u22 u23 u24 u25 u26 u27 u28 u29 u30 u31 u32 u33 u34 u35 u36 u37 u38 u39 u40 u41 u42 u43 u44 u45 u46 u47 u48 u49 u50 u51 u52 u53 u54 u55 u56 u57 u58 u59 u60 u61 u62 u63 u64 u65 u66 u67 u68 u69 u70 u71 u72 u73 u74 u75 u76 u77 u78 u79 u80 u81 u82 u83 u84 u85 u86 u87 u88 u89 u90 u91 u92 u93 u94 u95 u96 u97 u98 u99 u100 u101 u102 u103 u104 u105 u106 u107 u108 u109 u110 u111 u112 u113 u114 u115 u116 u117 u118 u119 u120 u121 u122 u123 u124 u125 u126 u127 u128 u129 u130 u131 u132 u133 u134 u135 u136 u137 u138 u139 u140 u141 u142 u143 u144 u145 u146 u147 u148 u149 u150 u151 u152 u153 u154 u155 u156 u157 u158 u159 u160 u161 u162 u163 u164 u165 u166 u167 u168 u169 u170 u171 u172 u173 u174 u175 u176 u177 u178 u179 u180 u181 u182 u183 u184 u185 u186 u187 u188 u189 u190 u191 u192 u193 u194 u195 u196 u197 u198 u199 u200 u201 u202 u203 u204 u205 u206 u207 u208 u209 u210 u211 u212 u213 u214 u215 u216 u217 u218 u219 u220 u221 u222 u223 u224 u225 u226 u227 u228 : Value} (W : World) (gb : Nat), Below w.heap.size w W → Blk W gb 79 #[.int .i64 sf, .int .u64 sh, .int .u64 sl, .int .i64 df, .int .u64 dh, .int .u64 dl, .int .i64 np, .int .u32 id, .slice none 0 0, .int .i64 en, .bool false] → w.heap.size ≤ gb → Code.wp Try.prog T Q ⟨(List.toArray ((.pointer (some ⟨tb, 0, none⟩)) :: (.agg #[.int .i64 f, .int .i64 sf, .int .u64 sh, .int .u64 sl, .int .i64 df, .int .u64 dh, .int .u64 dl, .int .i64 pr, .int .i64 ho, .bool true, .int .u32 id, .int .i64 of, .bool mo, .slice xa xn xc, .slice da dn dc]) :: (u2) :: (.pointer (some ⟨bx, 0, none⟩)) :: (.pointer (some ⟨ob, 0, none⟩)) :: (.int .i64 0) :: (.pointer (some ⟨nb, 0, none⟩)) :: (.int .i64 v) :: (u8) :: (.pointer (some ⟨gb, 0, none⟩)) :: (u10) :: (u11) :: (u12) :: (u13) :: (u14) :: (u15) :: (u16) :: (u17) :: (u18) :: (u19) :: (u20) :: (u21) :: (u22) :: (u23) :: (u24) :: (u25) :: (u26) :: (u27) :: (u28) :: (u29) :: (u30) :: (u31) :: (u32) :: (u33) :: (u34) :: (u35) :: (u36) :: (u37) :: (u38) :: (u39) :: (u40) :: (u41) :: (u42) :: (u43) :: (u44) :: (u45) :: (u46) :: (u47) :: (u48) :: (u49) :: (u50) :: (u51) :: (u52) :: (u53) :: (u54) :: (u55) :: (u56) :: (u57) :: (u58) :: (u59) :: (u60) :: (u61) :: (u62) :: (u63) :: (u64) :: (u65) :: (u66) :: (u67) :: (u68) :: (u69) :: (u70) :: (u71) :: (u72) :: (u73) :: (u74) :: (u75) :: (u76) :: (u77) :: (u78) :: (u79) :: (u80) :: (u81) :: (u82) :: (u83) :: (u84) :: (u85) :: (u86) :: (u87) :: (u88) :: (u89) :: (u90) :: (u91) :: (u92) :: (u93) :: (u94) :: (u95) :: (u96) :: (u97) :: (u98) :: (u99) :: (u100) :: (u101) :: (u102) :: (u103) :: (u104) :: (u105) :: (u106) :: (u107) :: (u108) :: (u109) :: (u110) :: (u111) :: (u112) :: (u113) :: (u114) :: (u115) :: (u116) :: (u117) :: (u118) :: (u119) :: (u120) :: (u121) :: (u122) :: (u123) :: (u124) :: (u125) :: (u126) :: (u127) :: (u128) :: (u129) :: (u130) :: (u131) :: (u132) :: (u133) :: (u134) :: (u135) :: (u136) :: (u137) :: (u138) :: (u139) :: (u140) :: (u141) :: (u142) :: (u143) :: (u144) :: (u145) :: (u146) :: (u147) :: (u148) :: (u149) :: (u150) :: (u151) :: (u152) :: (u153) :: (u154) :: (u155) :: (u156) :: (u157) :: (u158) :: (u159) :: (u160) :: (u161) :: (u162) :: (u163) :: (u164) :: (u165) :: (u166) :: (u167) :: (u168) :: (u169) :: (u170) :: (u171) :: (u172) :: (u173) :: (u174) :: (u175) :: (u176) :: (u177) :: (u178) :: (u179) :: (u180) :: (u181) :: (u182) :: (u183) :: (u184) :: (u185) :: (u186) :: (u187) :: (u188) :: (u189) :: (u190) :: (u191) :: (u192) :: (u193) :: (u194) :: (u195) :: (u196) :: (u197) :: (u198) :: (u199) :: (u200) :: (u201) :: (u202) :: (u203) :: (u204) :: (u205) :: (u206) :: (u207) :: (u208) :: (u209) :: (u210) :: (u211) :: (u212) :: (u213) :: (u214) :: (u215) :: (u216) :: (u217) :: (u218) :: (u219) :: (u220) :: (u221) :: (u222) :: (u223) :: (u224) :: (u225) :: (u226) :: (u227) :: (u228) :: List.nil)), []⟩ W) :
  Code.wp Try.prog (Code.seq (Code.region 16 #[{ dst := some 102, op := Op.load 72 (Operand.tmp 6), type := 72, pos := "ref.go:141", after := #[], guard := none }, { dst := some 103, op := Op.move (Operand.tmp 0), type := 77, pos := "ref.go:141", after := #[], guard := none }, { dst := some 104, op := Op.nilCheck (Operand.tmp 103), type := 0, pos := "ref.go:141", after := #[{ on := 1, ground := Ground.data }], guard := none }, { dst := some 105, op := Op.fieldAddr 31 (Operand.tmp 104) 3, type := 0, pos := "ref.go:141", after := #[{ on := 2, ground := Ground.data }], guard := none }, { dst := some 106, op := Op.load 3 (Operand.tmp 105), type := 3, pos := "ref.go:141", after := #[{ on := 3, ground := Ground.data }], guard := none }, { dst := some 107, op := Op.move (Operand.tmp 0), type := 77, pos := "ref.go:141", after := #[], guard := none }, { dst := some 108, op := Op.nilCheck (Operand.tmp 107), type := 0, pos := "ref.go:141", after := #[{ on := 5, ground := Ground.data }], guard := none }, { dst := some 109, op := Op.fieldAddr 31 (Operand.tmp 108) 2, type := 0, pos := "ref.go:141", after := #[{ on := 6, ground := Ground.data }], guard := none }, { dst := some 110, op := Op.load 3 (Operand.tmp 109), type := 3, pos := "ref.go:141", after := #[{ on := 7, ground := Ground.data }], guard := none }, { dst := some 111, op := Op.binOp BinOp.add 3 (Operand.tmp 106) (Operand.tmp 110) 3, type := 3, pos := "ref.go:141", after := #[{ on := 4, ground := Ground.data }, { on := 8, ground := Ground.data }], guard := none }, { dst := some 112, op := Op.build 79 #[(0, Operand.tmp 102), (2, Operand.tmp 111)], type := 79, pos := "ref.go:141", after := #[{ on := 0, ground := Ground.data }, { on := 9, ground := Ground.data }], guard := none }, fpz35o5, { dst := none, op := Op.store 79 (Operand.tmp 9) (Operand.tmp 112), type := 0, pos := "ref.go:141", after := #[{ on := 11, ground := Ground.data }, { on := 10, ground := Ground.data }, { on := 0, ground := Ground.phase }, { on := 1, ground := Ground.phase }, { on := 2, ground := Ground.phase }, { on := 3, ground := Ground.phase }, { on := 4, ground := Ground.phase }, { on := 5, ground := Ground.phase }, { on := 6, ground := Ground.phase }, { on := 7, ground := Ground.phase }, { on := 8, ground := Ground.phase }, { on := 9, ground := Ground.phase }, { on := 10, ground := Ground.phase }, { on := 11, ground := Ground.phase }], guard := none }] true) T) Q ⟨(List.toArray ((.pointer (some ⟨tb, 0, none⟩)) :: (.agg #[.int .i64 f, .int .i64 sf, .int .u64 sh, .int .u64 sl, .int .i64 df, .int .u64 dh, .int .u64 dl, .int .i64 pr, .int .i64 ho, .bool true, .int .u32 id, .int .i64 of, .bool mo, .slice xa xn xc, .slice da dn dc]) :: (u2) :: (.pointer (some ⟨bx, 0, none⟩)) :: (.pointer (some ⟨ob, 0, none⟩)) :: (.int .i64 0) :: (.pointer (some ⟨nb, 0, none⟩)) :: (.int .i64 v) :: (u8) :: (u9) :: (u10) :: (u11) :: (u12) :: (u13) :: (u14) :: (u15) :: (u16) :: (u17) :: (u18) :: (u19) :: (u20) :: (u21) :: (u22) :: (u23) :: (u24) :: (u25) :: (u26) :: (u27) :: (u28) :: (u29) :: (u30) :: (u31) :: (u32) :: (u33) :: (u34) :: (u35) :: (u36) :: (u37) :: (u38) :: (u39) :: (u40) :: (u41) :: (u42) :: (u43) :: (u44) :: (u45) :: (u46) :: (u47) :: (u48) :: (u49) :: (u50) :: (u51) :: (u52) :: (u53) :: (u54) :: (u55) :: (u56) :: (u57) :: (u58) :: (u59) :: (u60) :: (u61) :: (u62) :: (u63) :: (u64) :: (u65) :: (u66) :: (u67) :: (u68) :: (u69) :: (u70) :: (u71) :: (u72) :: (u73) :: (u74) :: (u75) :: (u76) :: (u77) :: (u78) :: (u79) :: (u80) :: (u81) :: (u82) :: (u83) :: (u84) :: (u85) :: (u86) :: (u87) :: (u88) :: (u89) :: (u90) :: (u91) :: (u92) :: (u93) :: (u94) :: (u95) :: (u96) :: (u97) :: (u98) :: (u99) :: (u100) :: (u101) :: (u102) :: (u103) :: (u104) :: (u105) :: (u106) :: (u107) :: (u108) :: (u109) :: (u110) :: (u111) :: (u112) :: (u113) :: (u114) :: (u115) :: (u116) :: (u117) :: (u118) :: (u119) :: (u120) :: (u121) :: (u122) :: (u123) :: (u124) :: (u125) :: (u126) :: (u127) :: (u128) :: (u129) :: (u130) :: (u131) :: (u132) :: (u133) :: (u134) :: (u135) :: (u136) :: (u137) :: (u138) :: (u139) :: (u140) :: (u141) :: (u142) :: (u143) :: (u144) :: (u145) :: (u146) :: (u147) :: (u148) :: (u149) :: (u150) :: (u151) :: (u152) :: (u153) :: (u154) :: (u155) :: (u156) :: (u157) :: (u158) :: (u159) :: (u160) :: (u161) :: (u162) :: (u163) :: (u164) :: (u165) :: (u166) :: (u167) :: (u168) :: (u169) :: (u170) :: (u171) :: (u172) :: (u173) :: (u174) :: (u175) :: (u176) :: (u177) :: (u178) :: (u179) :: (u180) :: (u181) :: (u182) :: (u183) :: (u184) :: (u185) :: (u186) :: (u187) :: (u188) :: (u189) :: (u190) :: (u191) :: (u192) :: (u193) :: (u194) :: (u195) :: (u196) :: (u197) :: (u198) :: (u199) :: (u200) :: (u201) :: (u202) :: (u203) :: (u204) :: (u205) :: (u206) :: (u207) :: (u208) :: (u209) :: (u210) :: (u211) :: (u212) :: (u213) :: (u214) :: (u215) :: (u216) :: (u217) :: (u218) :: (u219) :: (u220) :: (u221) :: (u222) :: (u223) :: (u224) :: (u225) :: (u226) :: (u227) :: (u228) :: List.nil)), []⟩ w := by
 have HHT : Hid _ := @HT
 clear HT
 have hwr : IntKind.i64.wrap (cl + li) = en := by rw [hen, IntKind.wrap_i64]; omega
 clear hen he0 he1
 go_wp2_with fail
 have D2 : w.drew.cell? ⟨tb, 2, none⟩ = some (.int .i64 li) := kept (Below.refl _ _).drew t2
 have D3 : w.drew.cell? ⟨tb, 3, none⟩ = some (.int .i64 cl) := kept (Below.refl _ _).drew t3
 have DN := hnb.drew
 have bd : Below w.heap.size w w.drew := (Below.refl _ _).drew
 have htb : tb < w.heap.size := World.block_lt_of_cell? w _ t2
 have hnl := hnb.lt
 have T2 := t2
 have T3 := t3
 have TN := hnb
 clear t2 t3 hnb bd
 refine wp_region_noPanic ?_
 refine wp_region_held_drew (S := fun w' => w'.cell? ⟨tb, 2, none⟩ = some (.int .i64 li) ∧ w'.cell? ⟨tb, 3, none⟩ = some (.int .i64 cl) ∧ Blk w' nb 72 (nmV ⟨sf, sh, sl⟩ ⟨df, dh, dl⟩ np id)) (by kernel_rfl) (by exact ⟨D2, D3, DN⟩) (fun hHeld => ?_)
 refine qty (i := 0) (oi := { dst := some 102, op := Op.load 72 (.tmp 6), type := 72, pos := "ref.go:141", after := #[], guard := none }) (v := (.agg (nmV ⟨sf, sh, sl⟩ ⟨df, dh, dl⟩ np id))) (yieldsIf_blk_w (by kernel_rfl) _ _ rfl nb (by rfl) _ (fun _ hSw => hSw.2.2) Try.underlying72 (by kernel_rfl)) hHeld ?_
 try simp only [qpu]
 refine qtk (i := 1) (oi := { dst := some 103, op := Op.move (.tmp 0), type := 77, pos := "ref.go:141", after := #[], guard := none }) (v := (.pointer (some ⟨tb, 0, none⟩))) hHeld ?_ ?_
 ·intro w9 hSw
  try dsimp only at hSw
  go_simp
 try simp only [qpu]
 refine qtk (i := 2) (oi := { dst := some 104, op := Op.nilCheck (.tmp 103), type := 0, pos := "ref.go:141", after := #[{ on := 1, ground := Ground.data }], guard := none }) (v := (.pointer (some ⟨tb, 0, none⟩))) hHeld ?_ ?_
 ·intro w9 hSw
  try dsimp only at hSw
  go_simp
 try simp only [qpu]
 refine qtk (i := 3) (oi := { dst := some 105, op := Op.fieldAddr 31 (.tmp 104) 3, type := 0, pos := "ref.go:141", after := #[{ on := 2, ground := Ground.data }], guard := none }) (v := (.pointer (some ⟨tb, 3, none⟩))) hHeld ?_ ?_
 ·intro w9 hSw
  try dsimp only at hSw
  go_simp
 try simp only [qpu]
 refine qtk (i := 4) (oi := { dst := some 106, op := Op.load 3 (.tmp 105), type := 3, pos := "ref.go:141", after := #[{ on := 3, ground := Ground.data }], guard := none }) (v := (.int .i64 cl)) hHeld ?_ ?_
 ·intro w9 hSw
  try dsimp only at hSw
  have hcc := hSw.2.1
  go_simp
 try simp only [qpu]
 refine qtk (i := 5) (oi := { dst := some 107, op := Op.move (.tmp 0), type := 77, pos := "ref.go:141", after := #[], guard := none }) (v := (.pointer (some ⟨tb, 0, none⟩))) hHeld ?_ ?_
 ·intro w9 hSw
  try dsimp only at hSw
  go_simp
 try simp only [qpu]
 refine qtk (i := 6) (oi := { dst := some 108, op := Op.nilCheck (.tmp 107), type := 0, pos := "ref.go:141", after := #[{ on := 5, ground := Ground.data }], guard := none }) (v := (.pointer (some ⟨tb, 0, none⟩))) hHeld ?_ ?_
 ·intro w9 hSw
  try dsimp only at hSw
  go_simp
 try simp only [qpu]
 refine qtk (i := 7) (oi := { dst := some 109, op := Op.fieldAddr 31 (.tmp 108) 2, type := 0, pos := "ref.go:141", after := #[{ on := 6, ground := Ground.data }], guard := none }) (v := (.pointer (some ⟨tb, 2, none⟩))) hHeld ?_ ?_
 ·intro w9 hSw
  try dsimp only at hSw
  go_simp
 try simp only [qpu]
 refine qtk (i := 8) (oi := { dst := some 110, op := Op.load 3 (.tmp 109), type := 3, pos := "ref.go:141", after := #[{ on := 7, ground := Ground.data }], guard := none }) (v := (.int .i64 li)) hHeld ?_ ?_
 ·intro w9 hSw
  try dsimp only at hSw
  have hcc := hSw.1
  go_simp
 try simp only [qpu]
 refine qtk (i := 9) (oi := { dst := some 111, op := Op.binOp BinOp.add 3 (.tmp 106) (.tmp 110) 3, type := 3, pos := "ref.go:141", after := #[{ on := 4, ground := Ground.data }, { on := 8, ground := Ground.data }], guard := none }) (v := (.int .i64 en)) hHeld ?_ ?_
 ·intro w9 hSw
  try dsimp only at hSw
  go_simp
 try simp only [qpu]
 refine qtk (i := 10) (oi := { dst := some 112, op := Op.build 79 #[(0, .tmp 102), (2, .tmp 111)], type := 79, pos := "ref.go:141", after := #[{ on := 0, ground := Ground.data }, { on := 9, ground := Ground.data }], guard := none }) (v := (.agg #[.int .i64 sf, .int .u64 sh, .int .u64 sl, .int .i64 df, .int .u64 dh, .int .u64 dl, .int .i64 np, .int .u32 id, .slice none 0 0, .int .i64 en, .bool false])) hHeld ?_ ?_
 ·intro w9 hSw
  try dsimp only at hSw
  go_simp
 try simp only [qpu]
 refine wpAnyH_ready (rs := [11]) (by kernel_rfl) (by simp) ?_
 refine AllReadyH.cons (o := fpz35o5) rfl (fun K hK => ?_) AllReadyH.nil
 go_simp
 have bz : Below w.heap.size w (w.alloc (.cells #[.int .i64 0, .int .u64 0, .int .u64 0, .int .i64 0, .int .u64 0, .int .u64 0, .int .i64 0, .int .u32 0, .slice none 0 0, .int .i64 0, .bool false] 79)).drew := ((Below.refl _ _).alloc (Nat.le_refl _) _).drew
 have hZ := (blk_new w #[.int .i64 0, .int .u64 0, .int .u64 0, .int .i64 0, .int .u64 0, .int .u64 0, .int .i64 0, .int .u32 0, .slice none 0 0, .int .i64 0, .bool false] 79).drew
 refine hK.out _ _ (by exact ⟨kept bz T2, kept bz T3, TN.kept bz⟩) (fun hHeld => ?_)
 clear hK K
 generalize (w.alloc (.cells #[.int .i64 0, .int .u64 0, .int .u64 0, .int .i64 0, .int .u64 0, .int .u64 0, .int .i64 0, .int .u32 0, .slice none 0 0, .int .i64 0, .bool false] 79)).drew = W5 at *
 try simp only [qpu]
 refine wpAnyH_ready (rs := [12]) (by kernel_rfl) (by simp) ?_
 refine AllReadyH.cons (o := { dst := none, op := Op.store 79 (.tmp 9) (.tmp 112), type := 0, pos := "ref.go:141", after := #[{ on := 11, ground := Ground.data }, { on := 10, ground := Ground.data }, { on := 0, ground := Ground.phase }, { on := 1, ground := Ground.phase }, { on := 2, ground := Ground.phase }, { on := 3, ground := Ground.phase }, { on := 4, ground := Ground.phase }, { on := 5, ground := Ground.phase }, { on := 6, ground := Ground.phase }, { on := 7, ground := Ground.phase }, { on := 8, ground := Ground.phase }, { on := 9, ground := Ground.phase }, { on := 10, ground := Ground.phase }, { on := 11, ground := Ground.phase }], guard := none }) rfl (fun K hK => ?_) AllReadyH.nil
 refine step_store_blk rfl 79 _ _ rfl w.heap.size #[.int .i64 sf, .int .u64 sh, .int .u64 sl, .int .i64 df, .int .u64 dh, .int .u64 dl, .int .i64 np, .int .u32 id, .slice none 0 0, .int .i64 en, .bool false] #[.int .i64 0, .int .u64 0, .int .u64 0, .int .i64 0, .int .u64 0, .int .u64 0, .int .i64 0, .int .u32 0, .slice none 0 0, .int .i64 0, .bool false] (by rfl) (by rfl) hZ (by kernel_rfl) rfl (by simp [Value.oneCell']) ?_
 have bs : Below w.heap.size W5 (W5.setRow w.heap.size #[.int .i64 sf, .int .u64 sh, .int .u64 sl, .int .i64 df, .int .u64 dh, .int .u64 dl, .int .i64 np, .int .u32 id, .slice none 0 0, .int .i64 en, .bool false]) := below_setRow ((Below.refl _ _).mono bz.size) (Nat.le_refl _) _
 refine hK.out _ _ (by exact ⟨(bs.cell (p := ⟨tb, 2, none⟩) htb).trans hHeld.1, (bs.cell (p := ⟨tb, 3, none⟩) htb).trans hHeld.2.1, hHeld.2.2.below bs hnl⟩) (fun hHeld => ?_)
 clear hK K
 try simp only [qpu]
 refine wpAnyH_done (by kernel_rfl) ?_ _
 refine NoPanic.normal ?_
 go_wp2_with fail
 exact HHT.out _ w.heap.size (bz.trans bs) (hZ.set _) (Nat.le_refl _)
end Go.Proofs.Ytkeeidfpgfdldaa
