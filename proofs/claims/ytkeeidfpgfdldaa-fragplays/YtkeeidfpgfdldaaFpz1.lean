/- Texts joined: Parts Byt Anys Ip4M Ip4T Room Ip4Q -/
import Derived.Test.YtkeeidfpgfdldaaFpz0
import Derived.Laws.BytesArg
import Derived.Laws.MakeOwn
import Derived.Laws.OwnMore
namespace Go.Proofs.Ytkeeidfpgfdldaa
open Go.RowKit
set_option linter.unusedVariables false
/-- A value that the call made: a slice of the bytes l in memory of its own. -/
structure Fresh (w w' : World) (a : Option Addr) (c : Nat) (l : List Int) : Prop where
 owns : Owns w' w.heap.size (.slice a l.length c) l
 room : l.length ≤ c
 nil : a = none → c = 0
 row : Row w' a l
 below : Below w.heap.size w w'
theorem conv_row {w : World} {a : Option Addr} {l : List Int} (h : Row w a l) (c : Nat) : (convert 40 9 (.slice a l.length c)).run Try.prog w = .ok (.string (strOfNums l)) w := by
 cases a with
 | none =>
  have hl : l = [] := by
   cases l with
   | nil => rfl
   | cons y l => obtain ⟨b, off, hh, _⟩ := h.cells (by simp); cases hh
  subst hl
  exact run_convert_bytes_nil w _ 5 Try.underlying40 Try.underlying5 _ _ _ Try.underlying9
 | some x =>
  by_cases hp : 0 < l.length
  ·obtain ⟨b, off, hh, hc⟩ := h.cells hp
   cases hh
   exact run_convert_bytes_arg w _ 5 Try.underlying40 Try.underlying5 b off _ _ l rfl hc _ Try.underlying9
  ·have hl : l = [] := by cases l with | nil => rfl | cons _ _ => simp at hp
   subst hl
   rw [run_convert_bytes_string w _ _ 5 _ _ _ Try.underlying40 Try.underlying5 Try.underlying9]
   show Sem.run _ (Conv.bytesToString (.slice (some x) 0 c)) w = _
   rw [run_bytesToString w x 0 c [] (by
    have := run_loadCells_list (P := Try.prog) w x [] (fun j v hj => by simp at hj)
    simpa using this)]
   rfl
set_option maxHeartbeats 400000 in
theorem same_any (a b : Option Addr) (c d : Nat) (l : List Int) (w : World) (h : Row w a l) (h' : Row w b l) :
  Calls Try.prog 38 #[.slice a l.length c, .slice b l.length d] w fun e w' => e = .returned (.bool true) ∧ w' = w := by
 have e1 := conv_row h c
 have e2 := conv_row h' d
 go_enter Try.func38, Try.ntmps38
 go_wp2
 go_ret
 exact ⟨rfl, rfl⟩
/-- The n bytes from x on. -/
def part (l : List Int) (x n : Int) : List Int := (l.drop x.toNat).take n.toNat
end Go.Proofs.Ytkeeidfpgfdldaa
namespace Go.Proofs.Ytkeeidfpgfdldaa
open Go.RowKit
set_option linter.unusedVariables false
set_option linter.unusedSimpArgs false
/-- The n lowest bytes of two words, the highest first. -/
def bytesGo : Nat → Int → Int → List Int
 | 0, _, _ => []
 | n + 1, h, l => bytesGo n (h / 256) (l / 256 + h * 72057594037927936 % 18446744073709551616) ++ [l % 256]
def Ad.bytes (a : Ad) : List Int := if a.right then bytesGo (if a.fam = 4 then 4 else 16) a.hi a.lo else []
theorem owns_new {w : World} {B g : Nat} {l : List Int} (hb : B ≤ g) (hm : l.length ≤ maxLen) (hg : w.heap[g]? = some (.cells (l.map (Value.int .u8)).toArray 5 (0, 0))) :
  Owns w B (.slice (some ⟨g, 0, none⟩) l.length l.length) l :=
 ⟨by simp, .inr ⟨g, l.length, _, rfl, hb, hg, Nat.le_refl _, hm, by simp, by rw [Nat.mul_one]; exact List.take_of_length_le (by simp)⟩⟩
theorem put_other {w : World} {a b : Addr} {v : Value} (h : a ≠ b) : (w.setCell a v).cell? b = w.cell? b := by
 apply World.cell?_setCell_other
 exact h
theorem put_same {w : World} {a : Addr} {v u : Value} (h : w.cell? a = some u) : (w.setCell a v).cell? a = some v := by
 apply World.cell?_setCell_same
 exact h
theorem World.heap_new (w : World) (o : Obj) : (w.alloc o).heap[w.heap.size]? = some o := by
 show (w.heap.push o)[w.heap.size]? = _
 simp
end Go.Proofs.Ytkeeidfpgfdldaa
namespace Go.Proofs.Ytkeeidfpgfdldaa
open Go.RowKit
set_option linter.unusedVariables false
theorem Fresh.none (w : World) : Fresh w w none 0 [] := ⟨Owns.nil _ _, Nat.le_refl _, fun _ => rfl, ⟨by simp, M.Bytes.nil, fun h => by simp at h⟩, Below.refl _ _⟩
end Go.Proofs.Ytkeeidfpgfdldaa
namespace Go.Proofs.Ytkeeidfpgfdldaa
set_option linter.unusedVariables false
set_option linter.unusedSimpArgs false
structure Pk where
 fam : Int
 src : Ad
 dst : Ad
 proto : Int
 hop : Int
 frag : Bool
 id : Int
 off : Int
 more : Bool
 data : List Int
def Pk.none : Pk := ⟨0, ⟨0, 0, 0⟩, ⟨0, 0, 0⟩, 0, 0, false, 0, 0, false, []⟩
/-- A header's options: 0, or the error at the first one that may not be. -/
def optsGo : Nat → List Int → Int
 | 0, _ => 0
 | _ + 1, [] => 0
 | n + 1, x :: r => if x = 0 then 0 else if x = 1 then optsGo n r else if x = 131 ∨ x = 137 then 8
   else if r.length < 1 ∨ r.getD 0 0 < 2 ∨ r.getD 0 0 > r.length + 1 then 7 else optsGo n ((x :: r).drop (r.getD 0 0).toNat)
def opts (b : List Int) : Int := optsGo b.length b
def hd (b : List Int) : Int := b.getD 0 0 % 16 * 4
def sz (b : List Int) : Int := u16 b 2
def pl (b : List Int) : Int := u16 b 6
def mr (b : List Int) : Bool := decide (pl b / 8192 % 2 = 1)
def ofs (b : List Int) : Int := pl b % 8192 * 8
def fr (b : List Int) : Bool := mr b || decide (ofs b ≠ 0)
/-- The first error of bytes, or 0. -/
def perr (b : List Int) : Int :=
 if b.length < 20 then 2
 else if b.getD 0 0 / 16 ≠ 4 then 3
 else if hd b < 20 ∨ hd b > b.length then 4
 else if sz b < hd b ∨ sz b > b.length then 5
 else if M.sumOf [b.take (hd b).toNat] ≠ 65535 then 6
 else if b.getD 8 0 = 0 then 26
 else if pl b / 32768 % 2 ≠ 0 then 10
 else if opts ((b.take (hd b).toNat).drop 20) ≠ 0 then opts ((b.take (hd b).toNat).drop 20)
 else if mr b = true ∧ (sz b - hd b) % 8 ≠ 0 then 5
 else if ofs b + (sz b - hd b) > 65515 then 11 else 0
structure Reads (b : List Int) : Prop where
 long : 20 ≤ b.length
 ver : b.getD 0 0 / 16 = 4
 head0 : 20 ≤ hd b
 head1 : hd b ≤ b.length
 len0 : hd b ≤ sz b
 len1 : sz b ≤ b.length
 sum : M.sumOf [b.take (hd b).toNat] = 65535
 hop : b.getD 8 0 ≠ 0
 flag : pl b / 32768 % 2 = 0
 opt : opts ((b.take (hd b).toNat).drop 20) = 0
 mult : mr b = true → (sz b - hd b) % 8 = 0
 over : ofs b + (sz b - hd b) ≤ 65515
theorem perr_zero {b : List Int} : perr b = 0 ↔ Reads b := by
 constructor
 ·intro h
  unfold perr at h
  split at h
  ·omega
  split at h
  ·omega
  split at h
  ·omega
  split at h
  ·omega
  split at h
  ·omega
  split at h
  ·omega
  split at h
  ·omega
  split at h
  ·next h8 => exact absurd h h8
  split at h
  ·omega
  split at h
  ·omega
  ·next h1 h2 h3 h4 h5 h6 h7 h8 h9 h10 =>
   exact ⟨by omega, by omega, by omega, by omega, by omega, by omega, by simpa using h5, h6, by omega, by simpa using h8, fun hm => by
    have := not_and.1 h9 hm
    omega, by omega⟩
 ·rintro ⟨h1, h2, h3, h4, h5, h6, h7, h8, h9, h10, h11, h12⟩
  unfold perr
  rw [if_neg (by omega), if_neg (by omega), if_neg (by omega), if_neg (by omega), if_neg (by simpa using h7), if_neg h8, if_neg (by omega), if_neg (by simpa using h10), if_neg (fun h => h.2 (h11 h.1)), if_neg (by omega)]
def pkt (b : List Int) : Pk :=
 ⟨4, (fromB (part b 12 4)).1, (fromB (part b 16 4)).1, b.getD 9 0, b.getD 8 0, fr b, if fr b then u16 b 4 else 0, ofs b, mr b, part b (hd b) (sz b - hd b)⟩
def Ad.four (a : Ad) : Bool := (a.fam == 4) && a.right
def Pk.mayHead (p : Pk) (exts : Nat) : Bool :=
 (p.fam == 4) && (p.src.four && (p.dst.four && ((exts == 0) && (decide (0 ≤ p.proto) && (decide (p.proto ≤ 255) && (decide (1 ≤ p.hop) && decide (p.hop ≤ 255)))))))
def Pk.mayPlace (p : Pk) : Bool :=
 decide (p.id ≤ 65535) && (decide (0 ≤ p.off) && (decide (p.off % 8 = 0) && (decide (p.off ≤ 65515 - p.data.length) && ((!p.frag || (p.more || decide (p.off ≠ 0))) && (!p.more || decide ((p.data.length : Int) % 8 = 0))))))
structure Pk.ok (p : Pk) : Prop where
 fam : -9223372036854775808 ≤ p.fam ∧ p.fam ≤ 9223372036854775807
 src : p.src.ok
 dst : p.dst.ok
 proto : -9223372036854775808 ≤ p.proto ∧ p.proto ≤ 9223372036854775807
 hop : -9223372036854775808 ≤ p.hop ∧ p.hop ≤ 9223372036854775807
 id : 0 ≤ p.id ∧ p.id ≤ 4294967295
 off : -9223372036854775808 ≤ p.off ∧ p.off ≤ 9223372036854775807
 data : M.Bytes p.data
 len : p.data.length ≤ 140737488351232
def Pk.may (p : Pk) (exts : Nat) : Bool := p.mayHead exts && p.mayPlace
def Pk.place (p : Pk) : Int := p.off / 8 + (if p.more then 8192 else 0)
def Pk.front (p : Pk) : List Int :=
 [69, 0] ++ [(20 + (p.data.length : Int)) / 256 % 256, (20 + (p.data.length : Int)) % 256] ++ [p.id / 256 % 256, p.id % 256] ++ [p.place / 256 % 256, p.place % 256] ++ [p.hop, p.proto]
def Pk.chk (p : Pk) : Int := 65535 - M.sumOf [p.front, p.src.bytes, p.dst.bytes]
def Pk.hdr (p : Pk) : List Int := p.front ++ [p.chk / 256 % 256, p.chk % 256] ++ p.src.bytes ++ p.dst.bytes
def Pk.made (p : Pk) : List Int := p.hdr ++ p.data
structure May (p : Pk) : Prop where
 fam : p.fam = 4
 sf : p.src.fam = 4
 sr : p.src.right = true
 df : p.dst.fam = 4
 dr : p.dst.right = true
 proto : 0 ≤ p.proto ∧ p.proto ≤ 255
 hop : 1 ≤ p.hop ∧ p.hop ≤ 255
 id : p.id ≤ 65535
 off0 : 0 ≤ p.off
 off8 : p.off % 8 = 0
 over : p.off ≤ 65515 - p.data.length
 kind : p.frag = true → p.more = true ∨ p.off ≠ 0
 mult : p.more = true → (p.data.length : Int) % 8 = 0
theorem getD_left (l m : List Int) (i : Nat) (h : i < l.length) : (l ++ m).getD i 0 = l.getD i 0 := by
 simp only [List.getD_eq_getElem?_getD, List.getElem?_append_left h]
/-- The first twenty bytes are alike. -/
def Alike (b c : List Int) : Prop := ∀ i, i < 20 → b.getD i 0 = c.getD i 0
theorem alike_hd {b c : List Int} (h : Alike b c) : hd b = hd c := by unfold hd; rw [h 0 (by omega)]
theorem alike_sz {b c : List Int} (h : Alike b c) : sz b = sz c := by
 show 256 * b.getD 2 0 + b.getD 3 0 = 256 * c.getD 2 0 + c.getD 3 0
 rw [h 2 (by omega), h 3 (by omega)]
theorem alike_pl {b c : List Int} (h : Alike b c) : pl b = pl c := by
 show 256 * b.getD 6 0 + b.getD 7 0 = 256 * c.getD 6 0 + c.getD 7 0
 rw [h 6 (by omega), h 7 (by omega)]
theorem take_app {b m : List Int} {k : Nat} (h : k ≤ b.length) : (b ++ m).take k = b.take k := by
 rw [List.take_append_of_le_length h]
theorem part_app {b m : List Int} {x n : Int} (hx : 0 ≤ x) (hn : 0 ≤ n) (h : x + n ≤ b.length) : part (b ++ m) x n = part b x n := by
 unfold part
 rw [List.drop_append_of_le_length (by omega), List.take_append_of_le_length (by rw [List.length_drop]; omega)]
theorem alike_app {b : List Int} (m : List Int) (h : 20 ≤ b.length) : Alike (b ++ m) b := fun i hi => getD_left b m i (by omega)
/-- What stands behind turns nothing. -/
theorem behind {b : List Int} (m : List Int) (h : perr b = 0) : perr (b ++ m) = 0 ∧ pkt (b ++ m) = pkt b := by
 obtain ⟨h1, h2, h3, h4, h5, h6, h7, h8, h9, h10, h11, h12⟩ := perr_zero.1 h
 have al := alike_app m h1
 have e1 := alike_hd al
 have e2 := alike_sz al
 have e3 := alike_pl al
 have e4 : mr (b ++ m) = mr b := by unfold mr; rw [e3]
 have e5 : ofs (b ++ m) = ofs b := by unfold ofs; rw [e3]
 have e6 : (b ++ m).take (hd b).toNat = b.take (hd b).toNat := take_app (by omega)
 refine ⟨perr_zero.2 ⟨by rw [List.length_append]; omega, by rw [al 0 (by omega)]; exact h2, by rw [e1]; exact h3, by rw [e1, List.length_append]; omega, by rw [e1, e2]; exact h5, by rw [e2, List.length_append]; omega, by rw [e1, e6]; exact h7, by rw [al 8 (by omega)]; exact h8, by rw [e3]; exact h9, by rw [e1, e6]; exact h10, by rw [e1, e2, e4]; exact h11, by rw [e1, e2, e5]; exact h12⟩, ?_⟩
 have e7 : fr (b ++ m) = fr b := by unfold fr; rw [e4, e5]
 have e8 : u16 (b ++ m) 4 = u16 b 4 := by
  show 256 * (b ++ m).getD 4 0 + (b ++ m).getD 5 0 = 256 * b.getD 4 0 + b.getD 5 0
  rw [al 4 (by omega), al 5 (by omega)]
 unfold pkt
 rw [part_app (by omega) (by omega) (by omega), part_app (by omega) (by omega) (by omega), al 9 (by omega), al 8 (by omega), e7, e8, e5, e4, e1, e2, part_app (by omega) (by omega) (by omega)]
end Go.Proofs.Ytkeeidfpgfdldaa
namespace Go.Proofs.Ytkeeidfpgfdldaa
open Go.RowKit
set_option linter.unusedVariables false
theorem made_zero (N : Nat) : (madeCells #[Value.int .u8 0] N).toList = List.replicate N (Value.int .u8 0) := by
 apply List.ext_getElem
 ·simp [madeCells]
 ·intro i h1 h2
  simp [madeCells, Nat.mod_one]
theorem Owns.other {w : World} {B : Nat} {v : Value} {l : List Int} (h : Owns w B v l) {ad : Addr} (ha : ad.block < B) (u : Value) : Owns (w.setCell ad u) B v l := ownsRow_setCell_below h ha u
end Go.Proofs.Ytkeeidfpgfdldaa
namespace Go.Proofs.Ytkeeidfpgfdldaa
open Go.RowKit
set_option linter.unusedVariables false
set_option linter.unusedSimpArgs false
/-- The value of a packet without extension headers. -/
abbrev Pk.v (p : Pk) (x d : Value) : Value :=
 .agg #[.int .i64 p.fam, .int .i64 p.src.fam, .int .u64 p.src.hi, .int .u64 p.src.lo, .int .i64 p.dst.fam, .int .u64 p.dst.hi, .int .u64 p.dst.lo, .int .i64 p.proto, .int .i64 p.hop, .bool p.frag, .int .u32 p.id, .int .i64 p.off, .bool p.more, x, d]
/-- A block of fifteen cells that nobody has written yet. -/
structure ZIp (W : World) (g : Nat) : Prop where
 c0 : W.cell? ⟨g, 0, none⟩ = some (.int .i64 0)
 c1 : W.cell? ⟨g, 1, none⟩ = some (.int .i64 0)
 c2 : W.cell? ⟨g, 2, none⟩ = some (.int .u64 0)
 c3 : W.cell? ⟨g, 3, none⟩ = some (.int .u64 0)
 c4 : W.cell? ⟨g, 4, none⟩ = some (.int .i64 0)
 c5 : W.cell? ⟨g, 5, none⟩ = some (.int .u64 0)
 c6 : W.cell? ⟨g, 6, none⟩ = some (.int .u64 0)
 c7 : W.cell? ⟨g, 7, none⟩ = some (.int .i64 0)
 c8 : W.cell? ⟨g, 8, none⟩ = some (.int .i64 0)
 c9 : W.cell? ⟨g, 9, none⟩ = some (.bool false)
 c10 : W.cell? ⟨g, 10, none⟩ = some (.int .u32 0)
 c11 : W.cell? ⟨g, 11, none⟩ = some (.int .i64 0)
 c12 : W.cell? ⟨g, 12, none⟩ = some (.bool false)
 c13 : W.cell? ⟨g, 13, none⟩ = some (.slice none 0 0)
 c14 : W.cell? ⟨g, 14, none⟩ = some (.slice none 0 0)
 fz : ∀ o, W.frozen? ⟨g, o, none⟩ = false
theorem ZIp.below {W W' : World} {g B : Nat} (h : ZIp W g) (hg : g < B) (hb : Below B W W') : ZIp W' g :=
 have k : ∀ o, W'.cell? ⟨g, o, none⟩ = W.cell? ⟨g, o, none⟩ := fun o => hb.cell (p := ⟨g, o, none⟩) hg
 ⟨(k _).trans h.c0, (k _).trans h.c1, (k _).trans h.c2, (k _).trans h.c3, (k _).trans h.c4, (k _).trans h.c5, (k _).trans h.c6, (k _).trans h.c7, (k _).trans h.c8, (k _).trans h.c9, (k _).trans h.c10, (k _).trans h.c11, (k _).trans h.c12, (k _).trans h.c13, (k _).trans h.c14, fun o => (hb.frozen (p := ⟨g, o, none⟩) hg).trans (h.fz o)⟩
theorem put_oth {W : World} {g i j : Nat} {v : Value} (h : i ≠ j) : (W.setCell ⟨g, i, none⟩ v).cell? ⟨g, j, none⟩ = W.cell? ⟨g, j, none⟩ := put_other (by simp [h])
/-- A block that holds these fifteen values. -/
structure SIp (W : World) (g : Nat) (v0 v1 v2 v3 v4 v5 v6 v7 v8 v9 v10 v11 v12 v13 v14 : Value) : Prop where
 c0 : W.cell? ⟨g, 0, none⟩ = some v0
 c1 : W.cell? ⟨g, 1, none⟩ = some v1
 c2 : W.cell? ⟨g, 2, none⟩ = some v2
 c3 : W.cell? ⟨g, 3, none⟩ = some v3
 c4 : W.cell? ⟨g, 4, none⟩ = some v4
 c5 : W.cell? ⟨g, 5, none⟩ = some v5
 c6 : W.cell? ⟨g, 6, none⟩ = some v6
 c7 : W.cell? ⟨g, 7, none⟩ = some v7
 c8 : W.cell? ⟨g, 8, none⟩ = some v8
 c9 : W.cell? ⟨g, 9, none⟩ = some v9
 c10 : W.cell? ⟨g, 10, none⟩ = some v10
 c11 : W.cell? ⟨g, 11, none⟩ = some v11
 c12 : W.cell? ⟨g, 12, none⟩ = some v12
 c13 : W.cell? ⟨g, 13, none⟩ = some v13
 c14 : W.cell? ⟨g, 14, none⟩ = some v14
/-- What Parse holds on its way: the bytes, the box that its functions look into, the answer not yet written. -/
structure PF (w : World) (g : Nat) (a : Option Addr) (c : Nat) (l : List Int) (W : World) : Prop where
 row : Row W a l
 box : W.cell? ⟨w.heap.size, 0, none⟩ = some (.slice a l.length c)
 z : ZIp W g
 bel : Below w.heap.size w W
 size : w.heap.size + 2 ≤ W.heap.size
 lt : g < W.heap.size
 ge : w.heap.size ≤ g
theorem PF.step {w : World} {g : Nat} {a : Option Addr} {c : Nat} {l : List Int} {W W' : World} (p : PF w g a c l W) (hb : Below W.heap.size W W') : PF w g a c l W' :=
 ⟨p.row.below hb, (hb.cell (p := ⟨w.heap.size, 0, none⟩) (by have := p.size; show w.heap.size < _; omega)).trans p.box, p.z.below p.lt hb, p.bel.trans (hb.mono (by have := p.size; omega)), Nat.le_trans p.size hb.size, Nat.lt_of_lt_of_le p.lt hb.size, p.ge⟩
theorem sIp_new (w : World) (v0 v1 v2 v3 v4 v5 v6 v7 v8 v9 v10 v11 v12 v13 v14 : Value) : SIp (w.alloc (.cells #[v0, v1, v2, v3, v4, v5, v6, v7, v8, v9, v10, v11, v12, v13, v14] 42)) w.heap.size v0 v1 v2 v3 v4 v5 v6 v7 v8 v9 v10 v11 v12 v13 v14 := by
 constructor <;> simp
theorem SIp.below {W W' : World} {g B : Nat} {v0 v1 v2 v3 v4 v5 v6 v7 v8 v9 v10 v11 v12 v13 v14 : Value} (h : SIp W g v0 v1 v2 v3 v4 v5 v6 v7 v8 v9 v10 v11 v12 v13 v14) (hg : g < B) (hb : Below B W W') : SIp W' g v0 v1 v2 v3 v4 v5 v6 v7 v8 v9 v10 v11 v12 v13 v14 :=
 have k : ∀ o, W'.cell? ⟨g, o, none⟩ = W.cell? ⟨g, o, none⟩ := fun o => hb.cell (p := ⟨g, o, none⟩) hg
 ⟨(k _).trans h.c0, (k _).trans h.c1, (k _).trans h.c2, (k _).trans h.c3, (k _).trans h.c4, (k _).trans h.c5, (k _).trans h.c6, (k _).trans h.c7, (k _).trans h.c8, (k _).trans h.c9, (k _).trans h.c10, (k _).trans h.c11, (k _).trans h.c12, (k _).trans h.c13, (k _).trans h.c14⟩
end Go.Proofs.Ytkeeidfpgfdldaa
