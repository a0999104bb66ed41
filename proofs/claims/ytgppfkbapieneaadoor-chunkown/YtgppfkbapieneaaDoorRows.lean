/-
  NARROWER THAN 'FOR EVERY INPUT', by the rows' own cells (each row's printed sentence says how): ChunkCuts: laid · ChunkSpots: laid · ChunkFinds: laid · ChunkHolds: laid · ChunkFew: laid · ChunkMore: laid · ChunkOwn: laid.
  DERIVED. THE GIVEN ROWS OF THIS SEAT. 7 by the template 'for every input the law returns true; each argument reads behind the call as it read before'; 0 by the template 'total and deterministic' (their statements: YtgppfkbapieneaaDoorTotals.lean).
  GIVEN WITH THE SEED: the statements are not yours to turn. If you find one false, say at which input.
  Laid BY PROGRAM, IN A SANDBOX (cutbox-rows.mjs): the forced cells as the released guide's own fill.sh prints them over the translation f89df6aa4ae69105… (all of the seat's roots in one cut). By AI agents, Wed Nov 11 2026. No macro, syntax, notation, axiom, sorry.
-/
import Derived.Test.YtgppfkbapieneaaDoorChecked
import GoSem.Claim
import GoSem.ClaimJoined
import GoSem.ClaimMapViews
import Derived.JoinedTies
import Derived.KernelRfl
namespace Go.Proofs.YtgppfkbapieneaaDoor
/- THE CELL 'sum', in the pinned program and in every row, IS THE sha256 OF THE DUMP (.gsa) THAT YtgppfkbapieneaaDoorProg.lean LOADS. Nothing in Lean hashes anything: it is a label: what it is worth is what the hold of that sum in a sandbox is worth. -/
noncomputable def Tryd.pinned : Pinned := { name := "ytgppfkbapieneaadoor", sum := "f89df6aa4ae69105bd071a1d4440beb7fa9d0a0b2c2062a3dceb62cde252d5f8", checked := Tryd.checked }
namespace Rows
def none {H : Type} : Left H := { results := [], args := [] }

/- WHAT THE LISTED PACKAGE-LEVEL VARIABLES READ AS WHEN THE CALL BEGINS. Each datum BY PROGRAM (the guide's laid-datum.mjs) off the statement by which the dump's own 'gosem.cut.vars' lays the variable. In a bare row this is a premise. The card (YtgppfkbapieneaaDoorCards.lean) ties it to the program's text. -/
def laid_stockade_chunk_greatest {H : Type} : DataW H := .agg [.lit (.int .u64 18446744073709551615), .lit (.int .u64 18446744073709551615), .lit (.int .u64 18446744073709551615)]

/-- 'stockadelaw11.ChunkCuts': WHATEVER THE INPUT: true; the input reads as it did. -/
def chunkCutsSpec : ChangeSpec := { name := "chunkCuts", fn := fun _ => fun
  | [d1, d2] => { results := [.lit (.bool true)], args := [d1, d2] }
  | _ => none }
def chunkCutsRow : OpenClaim := { program := "ytgppfkbapieneaadoor", sum := "f89df6aa4ae69105bd071a1d4440beb7fa9d0a0b2c2062a3dceb62cde252d5f8", func := "stockade/stockadelaw11.ChunkCuts", spec := "chunkCuts", unfollowed := true, recurses := true, named := ["stockade/chunk.greatest"], apart := false, laid := [("stockade/chunk.greatest", laid_stockade_chunk_greatest)] }
def ChunkCutsSaid : Prop := chunkCutsRow.holds Tryd.pinned (OpenSpec.ofChange chunkCutsSpec)

/-- ITS FALSE NEIGHBOUR: 'it returns false'. Refute it at one input. -/
def chunkCutsWrong : ChangeSpec := { name := "chunkCuts", fn := fun _ => fun
  | [d1, d2] => { results := [.lit (.bool false)], args := [d1, d2] }
  | _ => none }
def ChunkCutsWrongFalsely : Prop := chunkCutsRow.holds Tryd.pinned (OpenSpec.ofChange chunkCutsWrong)

/-- 'stockadelaw11.ChunkSpots': WHATEVER THE INPUT: true; the input reads as it did. -/
def chunkSpotsSpec : ChangeSpec := { name := "chunkSpots", fn := fun _ => fun
  | [d1, d2] => { results := [.lit (.bool true)], args := [d1, d2] }
  | _ => none }
def chunkSpotsRow : OpenClaim := { program := "ytgppfkbapieneaadoor", sum := "f89df6aa4ae69105bd071a1d4440beb7fa9d0a0b2c2062a3dceb62cde252d5f8", func := "stockade/stockadelaw11.ChunkSpots", spec := "chunkSpots", unfollowed := true, recurses := true, named := ["stockade/chunk.greatest"], apart := false, laid := [("stockade/chunk.greatest", laid_stockade_chunk_greatest)] }
def ChunkSpotsSaid : Prop := chunkSpotsRow.holds Tryd.pinned (OpenSpec.ofChange chunkSpotsSpec)

/-- ITS FALSE NEIGHBOUR: 'it returns false'. Refute it at one input. -/
def chunkSpotsWrong : ChangeSpec := { name := "chunkSpots", fn := fun _ => fun
  | [d1, d2] => { results := [.lit (.bool false)], args := [d1, d2] }
  | _ => none }
def ChunkSpotsWrongFalsely : Prop := chunkSpotsRow.holds Tryd.pinned (OpenSpec.ofChange chunkSpotsWrong)

/-- 'stockadelaw11.ChunkFinds': WHATEVER THE INPUT: true; the input reads as it did. -/
def chunkFindsSpec : ChangeSpec := { name := "chunkFinds", fn := fun _ => fun
  | [d1, d2, d3] => { results := [.lit (.bool true)], args := [d1, d2, d3] }
  | _ => none }
def chunkFindsRow : OpenClaim := { program := "ytgppfkbapieneaadoor", sum := "f89df6aa4ae69105bd071a1d4440beb7fa9d0a0b2c2062a3dceb62cde252d5f8", func := "stockade/stockadelaw11.ChunkFinds", spec := "chunkFinds", unfollowed := true, recurses := true, named := ["stockade/chunk.greatest"], apart := false, laid := [("stockade/chunk.greatest", laid_stockade_chunk_greatest)] }
def ChunkFindsSaid : Prop := chunkFindsRow.holds Tryd.pinned (OpenSpec.ofChange chunkFindsSpec)

/-- ITS FALSE NEIGHBOUR: 'it returns false'. Refute it at one input. -/
def chunkFindsWrong : ChangeSpec := { name := "chunkFinds", fn := fun _ => fun
  | [d1, d2, d3] => { results := [.lit (.bool false)], args := [d1, d2, d3] }
  | _ => none }
def ChunkFindsWrongFalsely : Prop := chunkFindsRow.holds Tryd.pinned (OpenSpec.ofChange chunkFindsWrong)

/-- 'stockadelaw11.ChunkHolds': WHATEVER THE INPUT: true; the input reads as it did. -/
def chunkHoldsSpec : ChangeSpec := { name := "chunkHolds", fn := fun _ => fun
  | [d1, d2, d3] => { results := [.lit (.bool true)], args := [d1, d2, d3] }
  | _ => none }
def chunkHoldsRow : OpenClaim := { program := "ytgppfkbapieneaadoor", sum := "f89df6aa4ae69105bd071a1d4440beb7fa9d0a0b2c2062a3dceb62cde252d5f8", func := "stockade/stockadelaw11.ChunkHolds", spec := "chunkHolds", unfollowed := true, recurses := true, named := ["stockade/chunk.greatest"], apart := false, laid := [("stockade/chunk.greatest", laid_stockade_chunk_greatest)] }
def ChunkHoldsSaid : Prop := chunkHoldsRow.holds Tryd.pinned (OpenSpec.ofChange chunkHoldsSpec)

/-- ITS FALSE NEIGHBOUR: 'it returns false'. Refute it at one input. -/
def chunkHoldsWrong : ChangeSpec := { name := "chunkHolds", fn := fun _ => fun
  | [d1, d2, d3] => { results := [.lit (.bool false)], args := [d1, d2, d3] }
  | _ => none }
def ChunkHoldsWrongFalsely : Prop := chunkHoldsRow.holds Tryd.pinned (OpenSpec.ofChange chunkHoldsWrong)

/-- 'stockadelaw11.ChunkFew': WHATEVER THE INPUT: true; the input reads as it did. -/
def chunkFewSpec : ChangeSpec := { name := "chunkFew", fn := fun _ => fun
  | [d1, d2] => { results := [.lit (.bool true)], args := [d1, d2] }
  | _ => none }
def chunkFewRow : OpenClaim := { program := "ytgppfkbapieneaadoor", sum := "f89df6aa4ae69105bd071a1d4440beb7fa9d0a0b2c2062a3dceb62cde252d5f8", func := "stockade/stockadelaw11.ChunkFew", spec := "chunkFew", unfollowed := true, recurses := true, named := ["stockade/chunk.greatest"], apart := false, laid := [("stockade/chunk.greatest", laid_stockade_chunk_greatest)] }
def ChunkFewSaid : Prop := chunkFewRow.holds Tryd.pinned (OpenSpec.ofChange chunkFewSpec)

/-- ITS FALSE NEIGHBOUR: 'it returns false'. Refute it at one input. -/
def chunkFewWrong : ChangeSpec := { name := "chunkFew", fn := fun _ => fun
  | [d1, d2] => { results := [.lit (.bool false)], args := [d1, d2] }
  | _ => none }
def ChunkFewWrongFalsely : Prop := chunkFewRow.holds Tryd.pinned (OpenSpec.ofChange chunkFewWrong)

/-- 'stockadelaw11.ChunkMore': WHATEVER THE INPUT: true; the input reads as it did. -/
def chunkMoreSpec : ChangeSpec := { name := "chunkMore", fn := fun _ => fun
  | [d1, d2] => { results := [.lit (.bool true)], args := [d1, d2] }
  | _ => none }
def chunkMoreRow : OpenClaim := { program := "ytgppfkbapieneaadoor", sum := "f89df6aa4ae69105bd071a1d4440beb7fa9d0a0b2c2062a3dceb62cde252d5f8", func := "stockade/stockadelaw11.ChunkMore", spec := "chunkMore", unfollowed := true, recurses := true, named := ["stockade/chunk.greatest"], apart := false, laid := [("stockade/chunk.greatest", laid_stockade_chunk_greatest)] }
def ChunkMoreSaid : Prop := chunkMoreRow.holds Tryd.pinned (OpenSpec.ofChange chunkMoreSpec)

/-- ITS FALSE NEIGHBOUR: 'it returns false'. Refute it at one input. -/
def chunkMoreWrong : ChangeSpec := { name := "chunkMore", fn := fun _ => fun
  | [d1, d2] => { results := [.lit (.bool false)], args := [d1, d2] }
  | _ => none }
def ChunkMoreWrongFalsely : Prop := chunkMoreRow.holds Tryd.pinned (OpenSpec.ofChange chunkMoreWrong)

/-- 'stockadelaw11.ChunkOwn': WHATEVER THE INPUT: true; the input reads as it did. -/
def chunkOwnSpec : ChangeSpec := { name := "chunkOwn", fn := fun _ => fun
  | [d1, d2] => { results := [.lit (.bool true)], args := [d1, d2] }
  | _ => none }
def chunkOwnRow : OpenClaim := { program := "ytgppfkbapieneaadoor", sum := "f89df6aa4ae69105bd071a1d4440beb7fa9d0a0b2c2062a3dceb62cde252d5f8", func := "stockade/stockadelaw11.ChunkOwn", spec := "chunkOwn", unfollowed := true, recurses := true, named := ["stockade/chunk.greatest"], apart := false, laid := [("stockade/chunk.greatest", laid_stockade_chunk_greatest)] }
def ChunkOwnSaid : Prop := chunkOwnRow.holds Tryd.pinned (OpenSpec.ofChange chunkOwnSpec)

/-- ITS FALSE NEIGHBOUR: 'it returns false'. Refute it at one input. -/
def chunkOwnWrong : ChangeSpec := { name := "chunkOwn", fn := fun _ => fun
  | [d1, d2] => { results := [.lit (.bool false)], args := [d1, d2] }
  | _ => none }
def ChunkOwnWrongFalsely : Prop := chunkOwnRow.holds Tryd.pinned (OpenSpec.ofChange chunkOwnWrong)

/- THE SECOND FORM. 'bulk': how many values and letters a reading holds, each counted each time it is reached (what is shared counts as often as it is met; a slice's spare places count too). A statement '..UptoSaid' is the law's where the arguments, and the package variables that the reading takes, are together of bulk at most 1048576: NARROWER than '..Said'. Prove '..Said' where nothing that the law and all that it calls make is longer than what came in: it says more and counts as full. Else prove '..UptoSaid'. A law counts once. -/
mutual
def uptoBulk {H : Type} : DataW H → Nat
  | .lit (.string bytes) => bytes.length + 1
  | .lit _ => 1
  | .nil => 1
  | .ptr d => uptoBulk d + 1
  | .slice elems spare => uptoBulkAll elems + uptoBulkAll spare + 1
  | .agg parts => uptoBulkAll parts + 1
  | .iface _ d => uptoBulk d + 1
  | .map entries => uptoBulkEntries entries + 1
  | .held _ => 1
def uptoBulkAll {H : Type} : List (DataW H) → Nat
  | [] => 0
  | d :: r => uptoBulk d + uptoBulkAll r
def uptoBulkEntries {H : Type} : List (Lit × DataW H) → Nat
  | [] => 0
  | x :: r => uptoBulkEntry x + uptoBulkEntries r
def uptoBulkEntry {H : Type} : Lit × DataW H → Nat
  | (.string bytes, d) => bytes.length + uptoBulk d + 1
  | (_, d) => uptoBulk d + 1
 end
def uptoSmall : (H : Type) → List (DataW H) → Bool := fun _ ds => decide (uptoBulkAll ds ≤ 1048576)
def OpenSpec.upto (s : _root_.Go.ChangeSpec) : _root_.Go.OpenSpec := { _root_.Go.OpenSpec.ofChange s with cond := some uptoSmall }

/-- 'stockadelaw11.ChunkCuts', WHERE WHAT IT READS IS OF BULK AT MOST 1048576: true; the input reads as it did. -/
def chunkCutsUptoRow : OpenClaim := { program := "ytgppfkbapieneaadoor", sum := "f89df6aa4ae69105bd071a1d4440beb7fa9d0a0b2c2062a3dceb62cde252d5f8", func := "stockade/stockadelaw11.ChunkCuts", spec := "chunkCuts", unfollowed := true, recurses := true, named := ["stockade/chunk.greatest"], apart := false, laid := [("stockade/chunk.greatest", laid_stockade_chunk_greatest)], narrowed := true }
def ChunkCutsUptoSaid : Prop := chunkCutsUptoRow.holds Tryd.pinned (OpenSpec.upto chunkCutsSpec)

/-- 'stockadelaw11.ChunkSpots', WHERE WHAT IT READS IS OF BULK AT MOST 1048576: true; the input reads as it did. -/
def chunkSpotsUptoRow : OpenClaim := { program := "ytgppfkbapieneaadoor", sum := "f89df6aa4ae69105bd071a1d4440beb7fa9d0a0b2c2062a3dceb62cde252d5f8", func := "stockade/stockadelaw11.ChunkSpots", spec := "chunkSpots", unfollowed := true, recurses := true, named := ["stockade/chunk.greatest"], apart := false, laid := [("stockade/chunk.greatest", laid_stockade_chunk_greatest)], narrowed := true }
def ChunkSpotsUptoSaid : Prop := chunkSpotsUptoRow.holds Tryd.pinned (OpenSpec.upto chunkSpotsSpec)

/-- 'stockadelaw11.ChunkFinds', WHERE WHAT IT READS IS OF BULK AT MOST 1048576: true; the input reads as it did. -/
def chunkFindsUptoRow : OpenClaim := { program := "ytgppfkbapieneaadoor", sum := "f89df6aa4ae69105bd071a1d4440beb7fa9d0a0b2c2062a3dceb62cde252d5f8", func := "stockade/stockadelaw11.ChunkFinds", spec := "chunkFinds", unfollowed := true, recurses := true, named := ["stockade/chunk.greatest"], apart := false, laid := [("stockade/chunk.greatest", laid_stockade_chunk_greatest)], narrowed := true }
def ChunkFindsUptoSaid : Prop := chunkFindsUptoRow.holds Tryd.pinned (OpenSpec.upto chunkFindsSpec)

/-- 'stockadelaw11.ChunkHolds', WHERE WHAT IT READS IS OF BULK AT MOST 1048576: true; the input reads as it did. -/
def chunkHoldsUptoRow : OpenClaim := { program := "ytgppfkbapieneaadoor", sum := "f89df6aa4ae69105bd071a1d4440beb7fa9d0a0b2c2062a3dceb62cde252d5f8", func := "stockade/stockadelaw11.ChunkHolds", spec := "chunkHolds", unfollowed := true, recurses := true, named := ["stockade/chunk.greatest"], apart := false, laid := [("stockade/chunk.greatest", laid_stockade_chunk_greatest)], narrowed := true }
def ChunkHoldsUptoSaid : Prop := chunkHoldsUptoRow.holds Tryd.pinned (OpenSpec.upto chunkHoldsSpec)

/-- 'stockadelaw11.ChunkFew', WHERE WHAT IT READS IS OF BULK AT MOST 1048576: true; the input reads as it did. -/
def chunkFewUptoRow : OpenClaim := { program := "ytgppfkbapieneaadoor", sum := "f89df6aa4ae69105bd071a1d4440beb7fa9d0a0b2c2062a3dceb62cde252d5f8", func := "stockade/stockadelaw11.ChunkFew", spec := "chunkFew", unfollowed := true, recurses := true, named := ["stockade/chunk.greatest"], apart := false, laid := [("stockade/chunk.greatest", laid_stockade_chunk_greatest)], narrowed := true }
def ChunkFewUptoSaid : Prop := chunkFewUptoRow.holds Tryd.pinned (OpenSpec.upto chunkFewSpec)

/-- 'stockadelaw11.ChunkMore', WHERE WHAT IT READS IS OF BULK AT MOST 1048576: true; the input reads as it did. -/
def chunkMoreUptoRow : OpenClaim := { program := "ytgppfkbapieneaadoor", sum := "f89df6aa4ae69105bd071a1d4440beb7fa9d0a0b2c2062a3dceb62cde252d5f8", func := "stockade/stockadelaw11.ChunkMore", spec := "chunkMore", unfollowed := true, recurses := true, named := ["stockade/chunk.greatest"], apart := false, laid := [("stockade/chunk.greatest", laid_stockade_chunk_greatest)], narrowed := true }
def ChunkMoreUptoSaid : Prop := chunkMoreUptoRow.holds Tryd.pinned (OpenSpec.upto chunkMoreSpec)

/-- 'stockadelaw11.ChunkOwn', WHERE WHAT IT READS IS OF BULK AT MOST 1048576: true; the input reads as it did. -/
def chunkOwnUptoRow : OpenClaim := { program := "ytgppfkbapieneaadoor", sum := "f89df6aa4ae69105bd071a1d4440beb7fa9d0a0b2c2062a3dceb62cde252d5f8", func := "stockade/stockadelaw11.ChunkOwn", spec := "chunkOwn", unfollowed := true, recurses := true, named := ["stockade/chunk.greatest"], apart := false, laid := [("stockade/chunk.greatest", laid_stockade_chunk_greatest)], narrowed := true }
def ChunkOwnUptoSaid : Prop := chunkOwnUptoRow.holds Tryd.pinned (OpenSpec.upto chunkOwnSpec)

end Rows
end Go.Proofs.YtgppfkbapieneaaDoor
