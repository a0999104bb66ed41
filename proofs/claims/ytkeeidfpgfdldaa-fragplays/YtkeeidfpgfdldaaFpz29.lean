/- Texts joined: FpQf -/
import Derived.Test.YtkeeidfpgfdldaaFpz28
namespace Go.Proofs.Ytkeeidfpgfdldaa
abbrev fpz29o0 : Oper := { dst := none, op := Op.store 54 (.tmp 187) (.tmp 186), type := 0, pos := "ref.go:156", after := #[{ on := 6, ground := Ground.data }, { on := 5, ground := Ground.data }, { on := 5, ground := Ground.chain }, { on := 0, ground := Ground.phase }, { on := 1, ground := Ground.phase }, { on := 2, ground := Ground.phase }, { on := 3, ground := Ground.phase }, { on := 4, ground := Ground.phase }, { on := 5, ground := Ground.phase }], guard := none }
abbrev fpz29o1 : Oper := { dst := some 187, op := Op.fieldAddr 79 (.tmp 9) 1, type := 0, pos := "ref.go:156", after := #[{ on := 0, ground := Ground.phase }, { on := 1, ground := Ground.phase }, { on := 2, ground := Ground.phase }, { on := 3, ground := Ground.phase }, { on := 4, ground := Ground.phase }, { on := 5, ground := Ground.phase }], guard := none }
abbrev fpz29o2 : Oper := { dst := some 186, op := Op.call { callee := Callee.builtin Builtin.append, args := #[.tmp 183, .tmp 185], argTypes := #[54, 54] }, type := 54, pos := "ref.go:156", after := #[{ on := 2, ground := Ground.data }, { on := 4, ground := Ground.data }, { on := 2, ground := Ground.chain }], guard := none }
abbrev fpz29o3 : Oper := { dst := some 183, op := Op.call { callee := Callee.builtin Builtin.append, args := #[.const (Value.slice none 0 0), .tmp 182], argTypes := #[54, 54] }, type := 54, pos := "ref.go:156", after := #[{ on := 1, ground := Ground.data }], guard := none }
abbrev fpz29o4 : Oper := { dst := some 185, op := Op.buildSlice 54 1 #[(0, .tmp 184)], type := 54, pos := "ref.go:156", after := #[{ on := 3, ground := Ground.data }], guard := none }
abbrev fpz29o8 : Oper := { dst := some 182, op := Op.load 54 (.tmp 181), type := 54, pos := "ref.go:156", after := #[{ on := 0, ground := Ground.data }], guard := none }
end Go.Proofs.Ytkeeidfpgfdldaa
namespace Go.Proofs.Ytkeeidfpgfdldaa
open Go.RowKit
set_option linter.unusedVariables false
set_option linter.unusedSimpArgs false
theorem ownP_far {w : World} {a : Option Addr} {c gb i : Nat} {L : List PkIn} {v : Value} (h : ownP w a c L) (hf : ∀ x, a = some x → x.block ≠ gb) : ownP (w.setCell ⟨gb, i, none⟩ v) a c L :=
 h.but ((But.refl (fun b => b = gb) w).setCell gb i (.inl rfl) v) (fun x hx e => hf x hx e)
set_option maxRecDepth 100000 in
set_option maxHeartbeats 16000000 in
theorem put_D2 (T : Code) (Q : Exit → Act → World → Prop) (tb bx ob nb gb qb : Nat) (v : Int) (g : DgIn) (q : PkIn) (f sf sh sl df dh dl pr ho : Int) (id of : Int) (mo : Bool) (xa : Option Addr) (xn xc : Nat) (da : Option Addr) (dn dc : Nat) (w : World) (hgb : Blk w gb 79 #[.int .i64 g.ns.fam, .int .u64 g.ns.hi, .int .u64 g.ns.lo, .int .i64 g.nd.fam, .int .u64 g.nd.hi, .int .u64 g.nd.lo, .int .i64 g.np, .int .u32 g.ni, .slice g.pa g.ps.length g.pc, .int .i64 g.ends, .bool g.dead]) (hqb : Blk w qb 42 q.v) (hrow : RowN 15 PkIn.v PkIn.ok w g.pa g.ps) (hnil : g.ps = [] → g.pa = none ∧ g.pc = 0) (hfew : g.ps.length ≤ 65536) (hne : qb ≠ gb) {u2 u8 u11 u12 u13 u14 u15 u16 u17 u18 u19 u20 u21 u22 u23 u24 u25 u26 u27 u28 u29 u30 u31 u32 u33 u34 u35 u36 u37 u38 u39 u40 u41 u42 u43 u44 u45 u46 u47 u48 u49 u50 u51 u52 u53 u54 u55 u56 u57 u58 u59 u60 u61 u62 u63 u64 u65 u66 u67 u68 u69 u70 u71 u72 u73 u74 u75 u76 u77 u78 u79 u80 u81 u82 u83 u84 u85 u86 u87 u88 u89 u90 u91 u92 u93 u94 u95 u96 u97 u98 u99 u100 u101 u102 u103 u104 u105 u106 u107 u108 u109 u110 u111 u112 u113 u114 u115 u116 u117 u118 u119 u120 u121 u122 u123 u124 u125 u126 u127 u128 u129 u130 u131 u132 u133 u134 u135 u136 u137 u138 u139 u140 u141 u142 u143 u144 u145 u146 u147 u148 u149 u150 u151 u152 u153 u154 u155 u156 u157 u158 u159 u160 u161 u162 u163 u164 u165 u166 u167 u168 u169 u170 u171 u172 u173 u174 u175 u176 u177 u178 u179 u180 u181 u182 u183 u184 u185 u186 u187 u188 u189 u190 u191 u192 u193 u194 u195 u196 u197 u198 u199 u200 u201 u202 u203 u204 u205 u206 u207 u208 u209 u210 u211 u212 u213 u214 u215 u216 u217 u218 u219 u220 u221 u222 u223 u224 u225 u226 u227 u228 : Value} (HT : ∀ {u2 u8 u11 u12 u13 u14 u15 u16 u17 u18 u19 u20 u21 u22 u23 u24 u25 u26 u27 u28 u29 u30 u31 u32 u33 u34 u35 u36 u37 u38 u39 u40 u41 u42 u43 u44 u45 u46 u47 u48 u49 u50 u51 u52 u53 u54 u55 u56 u57 u58 u59 u60 u61 u62 u63 u64 u65 u66 u67 u68 u69 u70 u71 u72 u73 u74 u75 u76 u77 u78 u79 u80 u81 u82 u83 u84 u85 u86 u87 u88 u89 u90 u91 u92 u93 u94 u95 u96 u97 u98 u99 u100 u101 u102 u103 u104 u105 u106 u107 u108 u109 u110 u111 u112 u113 u114 u115 u116 u117 u118 u119 u120 u121 u122 u123 u124 u125 u126 u127 u128 u129 u130 u131 u132 u133 u134 u135 u136 u137 u138 u139 u140 u141 u142 u143 u144 u145 u146 u147 u148 u149 u150 u151 u152 u153 u154 u155 u156 u157 u158 u159 u160 u161 u162 u163 u164 u165 u166 u167 u168 u169 u170 u171 u172 u173 u174 u175 u176 u177 u178 u179 u180 u181 u182 u183 u184 u185 u186 u187 u188 u189 u190 u191 u192 u193 u194 u195 u196 u197 u198 u199 u200 u201 u202 u203 u204 u205 u206 u207 u208 u209 u210 u211 u212 u213 u214 u215 u216 u217 u218 u219 u220 u221 u222 u223 u224 u225 u226 u227 u228 : Value} (W : World) (pa2 : Option Addr) (pc2 : Nat), But (fun b => b = gb) w W → Blk W gb 79 #[.int .i64 g.ns.fam, .int .u64 g.ns.hi, .int .u64 g.ns.lo, .int .i64 g.nd.fam, .int .u64 g.nd.hi, .int .u64 g.nd.lo, .int .i64 g.np, .int .u32 g.ni, .slice pa2 (g.ps.length + 1) pc2, .int .i64 g.ends, .bool g.dead] → ownP W pa2 pc2 (g.ps ++ [q]) → (∀ x, pa2 = some x → w.heap.size ≤ x.block) → Code.wp Try.prog T Q ⟨(List.toArray ((.pointer (some ⟨tb, 0, none⟩)) :: (.agg #[.int .i64 f, .int .i64 sf, .int .u64 sh, .int .u64 sl, .int .i64 df, .int .u64 dh, .int .u64 dl, .int .i64 pr, .int .i64 ho, .bool true, .int .u32 id, .int .i64 of, .bool mo, .slice xa xn xc, .slice da dn dc]) :: (u2) :: (.pointer (some ⟨bx, 0, none⟩)) :: (.pointer (some ⟨ob, 0, none⟩)) :: (.int .i64 0) :: (.pointer (some ⟨nb, 0, none⟩)) :: (.int .i64 v) :: (u8) :: (.pointer (some ⟨gb, 0, none⟩)) :: (.pointer (some ⟨qb, 0, none⟩)) :: (u11) :: (u12) :: (u13) :: (u14) :: (u15) :: (u16) :: (u17) :: (u18) :: (u19) :: (u20) :: (u21) :: (u22) :: (u23) :: (u24) :: (u25) :: (u26) :: (u27) :: (u28) :: (u29) :: (u30) :: (u31) :: (u32) :: (u33) :: (u34) :: (u35) :: (u36) :: (u37) :: (u38) :: (u39) :: (u40) :: (u41) :: (u42) :: (u43) :: (u44) :: (u45) :: (u46) :: (u47) :: (u48) :: (u49) :: (u50) :: (u51) :: (u52) :: (u53) :: (u54) :: (u55) :: (u56) :: (u57) :: (u58) :: (u59) :: (u60) :: (u61) :: (u62) :: (u63) :: (u64) :: (u65) :: (u66) :: (u67) :: (u68) :: (u69) :: (u70) :: (u71) :: (u72) :: (u73) :: (u74) :: (u75) :: (u76) :: (u77) :: (u78) :: (u79) :: (u80) :: (u81) :: (u82) :: (u83) :: (u84) :: (u85) :: (u86) :: (u87) :: (u88) :: (u89) :: (u90) :: (u91) :: (u92) :: (u93) :: (u94) :: (u95) :: (u96) :: (u97) :: (u98) :: (u99) :: (u100) :: (u101) :: (u102) :: (u103) :: (u104) :: (u105) :: (u106) :: (u107) :: (u108) :: (u109) :: (u110) :: (u111) :: (u112) :: (u113) :: (u114) :: (u115) :: (u116) :: (u117) :: (u118) :: (u119) :: (u120) :: (u121) :: (u122) :: (u123) :: (u124) :: (u125) :: (u126) :: (u127) :: (u128) :: (u129) :: (u130) :: (u131) :: (u132) :: (u133) :: (u134) :: (u135) :: (u136) :: (u137) :: (u138) :: (u139) :: (u140) :: (u141) :: (u142) :: (u143) :: (u144) :: (u145) :: (u146) :: (u147) :: (u148) :: (u149) :: (u150) :: (u151) :: (u152) :: (u153) :: (u154) :: (u155) :: (u156) :: (u157) :: (u158) :: (u159) :: (u160) :: (u161) :: (u162) :: (u163) :: (u164) :: (u165) :: (u166) :: (u167) :: (u168) :: (u169) :: (u170) :: (u171) :: (u172) :: (u173) :: (u174) :: (u175) :: (u176) :: (u177) :: (u178) :: (u179) :: (u180) :: (u181) :: (u182) :: (u183) :: (u184) :: (u185) :: (u186) :: (u187) :: (u188) :: (u189) :: (u190) :: (u191) :: (u192) :: (u193) :: (u194) :: (u195) :: (u196) :: (u197) :: (u198) :: (u199) :: (u200) :: (u201) :: (u202) :: (u203) :: (u204) :: (u205) :: (u206) :: (u207) :: (u208) :: (u209) :: (u210) :: (u211) :: (u212) :: (u213) :: (u214) :: (u215) :: (u216) :: (u217) :: (u218) :: (u219) :: (u220) :: (u221) :: (u222) :: (u223) :: (u224) :: (u225) :: (u226) :: (u227) :: (u228) :: List.nil)), []⟩ W) :
  Code.wp Try.prog (Code.seq (Code.region 28 #[{ dst := some 181, op := Op.fieldAddr 79 (Operand.tmp 9) 1, type := 0, pos := "ref.go:156", after := #[], guard := none }, { dst := some 182, op := Op.load 54 (Operand.tmp 181), type := 54, pos := "ref.go:156", after := #[{ on := 0, ground := Ground.data }], guard := none }, { dst := some 183, op := Op.call { callee := Callee.builtin Builtin.append, args := #[Operand.const (Value.slice none 0 0), Operand.tmp 182], argTypes := #[54, 54] }, type := 54, pos := "ref.go:156", after := #[{ on := 1, ground := Ground.data }], guard := none }, { dst := some 184, op := Op.load 42 (Operand.tmp 10), type := 42, pos := "ref.go:156", after := #[], guard := none }, { dst := some 185, op := Op.buildSlice 54 1 #[(0, Operand.tmp 184)], type := 54, pos := "ref.go:156", after := #[{ on := 3, ground := Ground.data }], guard := none }, { dst := some 186, op := Op.call { callee := Callee.builtin Builtin.append, args := #[Operand.tmp 183, Operand.tmp 185], argTypes := #[54, 54] }, type := 54, pos := "ref.go:156", after := #[{ on := 2, ground := Ground.data }, { on := 4, ground := Ground.data }, { on := 2, ground := Ground.chain }], guard := none }, { dst := some 187, op := Op.fieldAddr 79 (Operand.tmp 9) 1, type := 0, pos := "ref.go:156", after := #[{ on := 0, ground := Ground.phase }, { on := 1, ground := Ground.phase }, { on := 2, ground := Ground.phase }, { on := 3, ground := Ground.phase }, { on := 4, ground := Ground.phase }, { on := 5, ground := Ground.phase }], guard := none }, { dst := none, op := Op.store 54 (Operand.tmp 187) (Operand.tmp 186), type := 0, pos := "ref.go:156", after := #[{ on := 6, ground := Ground.data }, { on := 5, ground := Ground.data }, { on := 5, ground := Ground.chain }, { on := 0, ground := Ground.phase }, { on := 1, ground := Ground.phase }, { on := 2, ground := Ground.phase }, { on := 3, ground := Ground.phase }, { on := 4, ground := Ground.phase }, { on := 5, ground := Ground.phase }], guard := none }] true) T) Q ⟨(List.toArray ((.pointer (some ⟨tb, 0, none⟩)) :: (.agg #[.int .i64 f, .int .i64 sf, .int .u64 sh, .int .u64 sl, .int .i64 df, .int .u64 dh, .int .u64 dl, .int .i64 pr, .int .i64 ho, .bool true, .int .u32 id, .int .i64 of, .bool mo, .slice xa xn xc, .slice da dn dc]) :: (u2) :: (.pointer (some ⟨bx, 0, none⟩)) :: (.pointer (some ⟨ob, 0, none⟩)) :: (.int .i64 0) :: (.pointer (some ⟨nb, 0, none⟩)) :: (.int .i64 v) :: (u8) :: (.pointer (some ⟨gb, 0, none⟩)) :: (.pointer (some ⟨qb, 0, none⟩)) :: (u11) :: (u12) :: (u13) :: (u14) :: (u15) :: (u16) :: (u17) :: (u18) :: (u19) :: (u20) :: (u21) :: (u22) :: (u23) :: (u24) :: (u25) :: (u26) :: (u27) :: (u28) :: (u29) :: (u30) :: (u31) :: (u32) :: (u33) :: (u34) :: (u35) :: (u36) :: (u37) :: (u38) :: (u39) :: (u40) :: (u41) :: (u42) :: (u43) :: (u44) :: (u45) :: (u46) :: (u47) :: (u48) :: (u49) :: (u50) :: (u51) :: (u52) :: (u53) :: (u54) :: (u55) :: (u56) :: (u57) :: (u58) :: (u59) :: (u60) :: (u61) :: (u62) :: (u63) :: (u64) :: (u65) :: (u66) :: (u67) :: (u68) :: (u69) :: (u70) :: (u71) :: (u72) :: (u73) :: (u74) :: (u75) :: (u76) :: (u77) :: (u78) :: (u79) :: (u80) :: (u81) :: (u82) :: (u83) :: (u84) :: (u85) :: (u86) :: (u87) :: (u88) :: (u89) :: (u90) :: (u91) :: (u92) :: (u93) :: (u94) :: (u95) :: (u96) :: (u97) :: (u98) :: (u99) :: (u100) :: (u101) :: (u102) :: (u103) :: (u104) :: (u105) :: (u106) :: (u107) :: (u108) :: (u109) :: (u110) :: (u111) :: (u112) :: (u113) :: (u114) :: (u115) :: (u116) :: (u117) :: (u118) :: (u119) :: (u120) :: (u121) :: (u122) :: (u123) :: (u124) :: (u125) :: (u126) :: (u127) :: (u128) :: (u129) :: (u130) :: (u131) :: (u132) :: (u133) :: (u134) :: (u135) :: (u136) :: (u137) :: (u138) :: (u139) :: (u140) :: (u141) :: (u142) :: (u143) :: (u144) :: (u145) :: (u146) :: (u147) :: (u148) :: (u149) :: (u150) :: (u151) :: (u152) :: (u153) :: (u154) :: (u155) :: (u156) :: (u157) :: (u158) :: (u159) :: (u160) :: (u161) :: (u162) :: (u163) :: (u164) :: (u165) :: (u166) :: (u167) :: (u168) :: (u169) :: (u170) :: (u171) :: (u172) :: (u173) :: (u174) :: (u175) :: (u176) :: (u177) :: (u178) :: (u179) :: (u180) :: (u181) :: (u182) :: (u183) :: (u184) :: (u185) :: (u186) :: (u187) :: (u188) :: (u189) :: (u190) :: (u191) :: (u192) :: (u193) :: (u194) :: (u195) :: (u196) :: (u197) :: (u198) :: (u199) :: (u200) :: (u201) :: (u202) :: (u203) :: (u204) :: (u205) :: (u206) :: (u207) :: (u208) :: (u209) :: (u210) :: (u211) :: (u212) :: (u213) :: (u214) :: (u215) :: (u216) :: (u217) :: (u218) :: (u219) :: (u220) :: (u221) :: (u222) :: (u223) :: (u224) :: (u225) :: (u226) :: (u227) :: (u228) :: List.nil)), []⟩ w := by
 have HHT : Hid _ := @HT
 clear HT
 have HRW : Hid (RowN 15 PkIn.v PkIn.ok w g.pa g.ps) := hrow
 have HNL : Hid (g.ps = [] → g.pa = none ∧ g.pc = 0) := hnil
 have hqs := info_ip q
 have hgl := hgb.lt
 have hql := hqb.lt
 clear hrow hnil
 go_wp2_with fail
 have G := hgb.drew
 have QB := hqb.drew
 have bc : Below w.heap.size w w.drew := (Below.refl _ _).drew
 clear hgb hqb
 refine wp_region_noPanic ?_
 refine wp_region_held_drew (S := fun w' => Blk w' qb 42 q.v) (by kernel_rfl) (by exact QB) (fun hHeld => ?_)
 generalize w.drew = Wc at *
 refine qtk (i := 0) (oi := { dst := some 181, op := Op.fieldAddr 79 (.tmp 9) 1, type := 0, pos := "ref.go:156", after := #[], guard := none }) (v := (.pointer (some ⟨gb, 8, none⟩))) hHeld ?_ ?_
 ·intro w9 hSw
  try dsimp only at hSw
  go_simp
 try simp only [qpu]
 refine qty (i := 3) (oi := { dst := some 184, op := Op.load 42 (.tmp 10), type := 42, pos := "ref.go:156", after := #[], guard := none }) (v := (.agg q.v)) (yieldsIf_blk_w (by kernel_rfl) _ _ rfl qb (by rfl) _ (fun _ hSw => hSw) Try.underlying42 hqs) hHeld ?_
 try simp only [qpu]
 refine wpAnyH_ready (rs := [1, 4]) (by kernel_rfl) (by simp) ?_
 refine AllReadyH.cons (o := fpz29o8) rfl (fun K hK => ?_) (AllReadyH.cons (o := fpz29o4) rfl (fun K hK => ?_) AllReadyH.nil)
 ·have hcc := G.cell 8 (.slice g.pa g.ps.length g.pc) rfl
  go_simp
  refine hK.out _ _ (by exact QB) (fun hHeld => ?_)
  clear hK K hcc
  try simp only [qpu]
  refine wpAnyH_ready (rs := [2, 4]) (by kernel_rfl) (by simp) ?_
  refine AllReadyH.cons (o := fpz29o3) rfl (fun K hK => ?_) (AllReadyH.cons (o := fpz29o4) rfl (fun K hK => ?_) AllReadyH.nil)
  ·obtain ⟨a1, c1, Wn, r1, O, bb, fa⟩ := run_copyP Wc 54 g.pa g.pc g.ps (HRW.out.low bc) HNL.out hfew
   refine step_run_app rfl 54 _ _ rfl _ _ (by rfl) (by rfl) _ _ r1 ?_
   replace G := G.kept bb
   replace QB := QB.kept bb
   have fa1 : ∀ x, a1 = some x → w.heap.size ≤ x.block := fun x hx => Nat.le_trans bc.size (fa x hx)
   replace bc := bc.trans (bb.mono bc.size)
   refine hK.out _ _ (by exact QB) (fun hHeld => ?_)
   clear hK K r1 fa bb
   try simp only [qpu]
   refine wpAnyH_ready (rs := [4]) (by kernel_rfl) (by simp) ?_
   refine AllReadyH.cons (o := fpz29o4) rfl (fun K hK => ?_) AllReadyH.nil
   go_simp
   have BQ := (blk_new Wn q.v 42).at_
   replace G := G.alloc (.cells q.v 42)
   replace QB := QB.alloc (.cells q.v 42)
   replace O := O.below ((Below.refl _ _).alloc (Nat.le_refl _) (.cells q.v 42))
   replace bc := bc.alloc bc.size (.cells q.v 42)
   refine hK.out _ _ (by exact QB) (fun hHeld => ?_)
   clear hK K
   try simp only [qpu]
   refine wpAnyH_ready (rs := [5]) (by kernel_rfl) (by simp) ?_
   refine AllReadyH.cons (o := fpz29o2) rfl (fun K hK => ?_) AllReadyH.nil
   obtain ⟨a2, c2, Wp, r2, O2, bt, f2⟩ := run_appP (Wn.alloc (.cells q.v 42)) 54 a1 c1 g.ps Wn.heap.size q O BQ (by omega)
   refine step_run_app rfl 54 _ _ rfl _ _ (by rfl) (by rfl) _ _ r2 ?_
   have nf : ∀ b, b < w.heap.size → ¬ ∃ x, a1 = some x ∧ x.block = b := fun b hb => by
    rintro ⟨x, hx, e⟩
    have := fa1 x hx
    omega
   replace G := (bt.block gb G.lt (nf gb hgl)).trans G
   replace QB := (bt.block qb QB.lt (nf qb hql)).trans QB
   have bt2 : But (fun b => b = gb) w Wp := (But.of_below bc _).trans bt (fun n hn hx => absurd hx (nf n hn))
   have f3 : ∀ x, a2 = some x → w.heap.size ≤ x.block := fun x hx => by
    rcases f2 x hx with ⟨y, hy, e⟩ | h
    ·rw [← e]; exact fa1 y hy
    ·exact Nat.le_trans bc.size h
   refine hK.out _ _ (by exact QB) (fun hHeld => ?_)
   clear hK K r2 bt f2 nf O BQ bc fa1
   try simp only [qpu]
   refine qtk (i := 6) (oi := fpz29o1) (v := (.pointer (some ⟨gb, 8, none⟩))) hHeld ?_ ?_
   ·intro w9 hSw
    try dsimp only at hSw
    go_simp
   try simp only [qpu]
   refine wpAnyH_ready (rs := [7]) (by kernel_rfl) (by simp) ?_
   refine AllReadyH.cons (o := fpz29o0) rfl (fun K hK => ?_) AllReadyH.nil
   have hcc : Wp.cell? ⟨gb, 8, none⟩ = some (.slice g.pa g.ps.length g.pc) := Blk.cell G 8 (.slice g.pa g.ps.length g.pc) rfl
   have hfz := Blk.frozen G 8
   go_simp
   refine hK.out _ _ (by exact Blk.set_far QB hne) (fun hHeld => ?_)
   clear hK K hcc hfz
   try simp only [qpu]
   refine wpAnyH_done (by kernel_rfl) ?_ _
   refine NoPanic.normal ?_
   go_wp2_with fail
   exact HHT.out _ a2 c2 (bt2.setCell gb 8 (.inl rfl) _) (Blk.put G 8 _) (ownP_far O2 (fun x hx => by have := f3 x hx; omega)) f3
  ·go_simp
   have BQ := (blk_new Wc q.v 42).at_
   replace G := G.alloc (.cells q.v 42)
   replace QB := QB.alloc (.cells q.v 42)
   replace bc := bc.alloc bc.size (.cells q.v 42)
   refine hK.out _ _ (by exact QB) (fun hHeld => ?_)
   clear hK K
   try simp only [qpu]
   refine wpAnyH_ready (rs := [2]) (by kernel_rfl) (by simp) ?_
   refine AllReadyH.cons (o := fpz29o3) rfl (fun K hK => ?_) AllReadyH.nil
   obtain ⟨a1, c1, Wn, r1, O, bb, fa⟩ := run_copyP (Wc.alloc (.cells q.v 42)) 54 g.pa g.pc g.ps (HRW.out.low bc) HNL.out hfew
   refine step_run_app rfl 54 _ _ rfl _ _ (by rfl) (by rfl) _ _ r1 ?_
   replace G := G.kept bb
   replace QB := QB.kept bb
   have fa1 : ∀ x, a1 = some x → w.heap.size ≤ x.block := fun x hx => Nat.le_trans bc.size (fa x hx)
   replace bc := bc.trans (bb.mono bc.size)
   replace BQ := BQ.below bb
   refine hK.out _ _ (by exact QB) (fun hHeld => ?_)
   clear hK K r1 fa bb
   try simp only [qpu]
   refine wpAnyH_ready (rs := [5]) (by kernel_rfl) (by simp) ?_
   refine AllReadyH.cons (o := fpz29o2) rfl (fun K hK => ?_) AllReadyH.nil
   obtain ⟨a2, c2, Wp, r2, O2, bt, f2⟩ := run_appP Wn 54 a1 c1 g.ps Wc.heap.size q O BQ (by omega)
   refine step_run_app rfl 54 _ _ rfl _ _ (by rfl) (by rfl) _ _ r2 ?_
   have nf : ∀ b, b < w.heap.size → ¬ ∃ x, a1 = some x ∧ x.block = b := fun b hb => by
    rintro ⟨x, hx, e⟩
    have := fa1 x hx
    omega
   replace G := (bt.block gb G.lt (nf gb hgl)).trans G
   replace QB := (bt.block qb QB.lt (nf qb hql)).trans QB
   have bt2 : But (fun b => b = gb) w Wp := (But.of_below bc _).trans bt (fun n hn hx => absurd hx (nf n hn))
   have f3 : ∀ x, a2 = some x → w.heap.size ≤ x.block := fun x hx => by
    rcases f2 x hx with ⟨y, hy, e⟩ | h
    ·rw [← e]; exact fa1 y hy
    ·exact Nat.le_trans bc.size h
   refine hK.out _ _ (by exact QB) (fun hHeld => ?_)
   clear hK K r2 bt f2 nf O BQ bc fa1
   try simp only [qpu]
   refine qtk (i := 6) (oi := fpz29o1) (v := (.pointer (some ⟨gb, 8, none⟩))) hHeld ?_ ?_
   ·intro w9 hSw
    try dsimp only at hSw
    go_simp
   try simp only [qpu]
   refine wpAnyH_ready (rs := [7]) (by kernel_rfl) (by simp) ?_
   refine AllReadyH.cons (o := fpz29o0) rfl (fun K hK => ?_) AllReadyH.nil
   have hcc : Wp.cell? ⟨gb, 8, none⟩ = some (.slice g.pa g.ps.length g.pc) := Blk.cell G 8 (.slice g.pa g.ps.length g.pc) rfl
   have hfz := Blk.frozen G 8
   go_simp
   refine hK.out _ _ (by exact Blk.set_far QB hne) (fun hHeld => ?_)
   clear hK K hcc hfz
   try simp only [qpu]
   refine wpAnyH_done (by kernel_rfl) ?_ _
   refine NoPanic.normal ?_
   go_wp2_with fail
   exact HHT.out _ a2 c2 (bt2.setCell gb 8 (.inl rfl) _) (Blk.put G 8 _) (ownP_far O2 (fun x hx => by have := f3 x hx; omega)) f3
 ·go_simp
  have BQ := (blk_new Wc q.v 42).at_
  replace G := G.alloc (.cells q.v 42)
  replace QB := QB.alloc (.cells q.v 42)
  replace bc := bc.alloc bc.size (.cells q.v 42)
  refine hK.out _ _ (by exact QB) (fun hHeld => ?_)
  clear hK K
  try simp only [qpu]
  refine wpAnyH_ready (rs := [1]) (by kernel_rfl) (by simp) ?_
  refine AllReadyH.cons (o := fpz29o8) rfl (fun K hK => ?_) AllReadyH.nil
  have hcc := G.cell 8 (.slice g.pa g.ps.length g.pc) rfl
  go_simp
  refine hK.out _ _ (by exact QB) (fun hHeld => ?_)
  clear hK K hcc
  try simp only [qpu]
  refine wpAnyH_ready (rs := [2]) (by kernel_rfl) (by simp) ?_
  refine AllReadyH.cons (o := fpz29o3) rfl (fun K hK => ?_) AllReadyH.nil
  obtain ⟨a1, c1, Wn, r1, O, bb, fa⟩ := run_copyP (Wc.alloc (.cells q.v 42)) 54 g.pa g.pc g.ps (HRW.out.low bc) HNL.out hfew
  refine step_run_app rfl 54 _ _ rfl _ _ (by rfl) (by rfl) _ _ r1 ?_
  replace G := G.kept bb
  replace QB := QB.kept bb
  have fa1 : ∀ x, a1 = some x → w.heap.size ≤ x.block := fun x hx => Nat.le_trans bc.size (fa x hx)
  replace bc := bc.trans (bb.mono bc.size)
  replace BQ := BQ.below bb
  refine hK.out _ _ (by exact QB) (fun hHeld => ?_)
  clear hK K r1 fa bb
  try simp only [qpu]
  refine wpAnyH_ready (rs := [5]) (by kernel_rfl) (by simp) ?_
  refine AllReadyH.cons (o := fpz29o2) rfl (fun K hK => ?_) AllReadyH.nil
  obtain ⟨a2, c2, Wp, r2, O2, bt, f2⟩ := run_appP Wn 54 a1 c1 g.ps Wc.heap.size q O BQ (by omega)
  refine step_run_app rfl 54 _ _ rfl _ _ (by rfl) (by rfl) _ _ r2 ?_
  have nf : ∀ b, b < w.heap.size → ¬ ∃ x, a1 = some x ∧ x.block = b := fun b hb => by
   rintro ⟨x, hx, e⟩
   have := fa1 x hx
   omega
  replace G := (bt.block gb G.lt (nf gb hgl)).trans G
  replace QB := (bt.block qb QB.lt (nf qb hql)).trans QB
  have bt2 : But (fun b => b = gb) w Wp := (But.of_below bc _).trans bt (fun n hn hx => absurd hx (nf n hn))
  have f3 : ∀ x, a2 = some x → w.heap.size ≤ x.block := fun x hx => by
   rcases f2 x hx with ⟨y, hy, e⟩ | h
   ·rw [← e]; exact fa1 y hy
   ·exact Nat.le_trans bc.size h
  refine hK.out _ _ (by exact QB) (fun hHeld => ?_)
  clear hK K r2 bt f2 nf O BQ bc fa1
  try simp only [qpu]
  refine qtk (i := 6) (oi := fpz29o1) (v := (.pointer (some ⟨gb, 8, none⟩))) hHeld ?_ ?_
  ·intro w9 hSw
   try dsimp only at hSw
   go_simp
  try simp only [qpu]
  refine wpAnyH_ready (rs := [7]) (by kernel_rfl) (by simp) ?_
  refine AllReadyH.cons (o := fpz29o0) rfl (fun K hK => ?_) AllReadyH.nil
  have hcc : Wp.cell? ⟨gb, 8, none⟩ = some (.slice g.pa g.ps.length g.pc) := Blk.cell G 8 (.slice g.pa g.ps.length g.pc) rfl
  have hfz := Blk.frozen G 8
  go_simp
  refine hK.out _ _ (by exact Blk.set_far QB hne) (fun hHeld => ?_)
  clear hK K hcc hfz
  try simp only [qpu]
  refine wpAnyH_done (by kernel_rfl) ?_ _
  refine NoPanic.normal ?_
  go_wp2_with fail
  exact HHT.out _ a2 c2 (bt2.setCell gb 8 (.inl rfl) _) (Blk.put G 8 _) (ownP_far O2 (fun x hx => by have := f3 x hx; omega)) f3
end Go.Proofs.Ytkeeidfpgfdldaa
