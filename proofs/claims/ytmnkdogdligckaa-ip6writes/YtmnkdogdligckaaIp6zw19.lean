/- Texts joined: Ip6H Ip6I -/
import Derived.Test.YtmnkdogdligckaaIp6zw17
import Derived.BigRegion
namespace Go.Proofs.Ytmnkdogdligckaa
open Go.RowKit
set_option linter.unusedVariables false
set_option linter.unusedSimpArgs false
theorem ZIp.lt {W : World} {g : Nat} (z : ZIp W g) : g < W.heap.size := World.block_lt_of_cell? W _ z.c0
/-- A slice of the call's own memory, above all blocks below B. -/
structure FB (W3 W : World) (B : Nat) (a : Option Addr) (c : Nat) (l : List Int) : Prop where
  owns : Owns W B (.slice a l.length c) l
  room : l.length ≤ c
  nil : a = none → c = 0
  small : l.length ≤ 140737488355328
  bytes : M.Bytes l
  below : Below W3.heap.size W3 W
  ge : W3.heap.size ≤ B
theorem FB.put {W3 W : World} {B c g : Nat} {a : Option Addr} {l : List Int} (f : FB W3 W B a c l) (hg : g < B) (h3 : W3.heap.size ≤ g) (i : Nat) (v : Value) : FB W3 (W.setCell ⟨g, i, none⟩ v) B a c l :=
  ⟨f.owns.other hg v, f.room, f.nil, f.small, f.bytes, f.below.setCell h3 v, f.ge⟩
set_option maxRecDepth 100000 in
set_option maxHeartbeats 4000000 in
theorem Fresh.kept {W3 W W' : World} {c : Nat} {a : Option Addr} {l : List Int} (f : Fresh W3 W a c l) (hb : Below W.heap.size W W') : Fresh W3 W' a c l :=
  ⟨f.owns.below hb, f.room, f.nil, f.row.below hb, f.below.trans (hb.mono f.below.size)⟩
end Go.Proofs.Ytmnkdogdligckaa
