/-
  NARROWER THAN 'FOR EVERY INPUT', by the rows' own cells (each row's printed sentence says how): SchemaWith: loops · SchemaTypes: loops.
  DERIVED. THE GIVEN ROWS OF THIS SEAT. 2 by the template 'for every input the law returns true; each argument reads behind the call as it read before'; 0 by the template 'total and deterministic' (their statements: YtabanbpnghidhaaTotals.lean).
  GIVEN WITH THE SEED: the statements are not yours to turn. If you find one false, say at which input.
  Laid BY PROGRAM, IN A SANDBOX (cutbox-rows.mjs): the forced cells as the released guide's own fill.sh prints them over the translation f4b404736ed566bd… (all of the seat's roots in one cut). By AI agents, Wed Nov 11 2026. No macro, syntax, notation, axiom, sorry.
-/
import Derived.Test.YtabanbpnghidhaaChecked
import GoSem.Claim
import GoSem.ClaimJoined
import GoSem.ClaimMapViews
import Derived.JoinedTies
import Derived.KernelRfl
namespace Go.Proofs.Ytabanbpnghidhaa
/- THE CELL 'sum', in the pinned program and in every row, IS THE sha256 OF THE DUMP (.gsa) THAT YtabanbpnghidhaaProg.lean LOADS. Nothing in Lean hashes anything: it is a label: what it is worth is what the hold of that sum in a sandbox is worth. -/
noncomputable def Try.pinned : Pinned := { name := "ytabanbpnghidhaa", sum := "f4b404736ed566bd92b8ec932336e3303386d08e1cab7c337c46d4d9f59c1d92", checked := Try.checked }
namespace Rows
def none {H : Type} : Left H := { results := [], args := [] }

/-- 'askancekeep.SchemaWith': WHATEVER THE INPUT: true; the input reads as it did. -/
def schemaWithSpec : ChangeSpec := { name := "schemaWith", fn := fun _ => fun
  | [d1, d2] => { results := [.lit (.bool true)], args := [d1, d2] }
  | _ => none }
def schemaWithRow : OpenClaim := { program := "ytabanbpnghidhaa", sum := "f4b404736ed566bd92b8ec932336e3303386d08e1cab7c337c46d4d9f59c1d92", func := "askance/askancekeep.SchemaWith", spec := "schemaWith", inPlace := ["slices.overlaps[askance/api.Table]", "slices.overlaps[askance/api.Index]"], unfollowed := true, recurses := true, loops := true, apart := false }
def SchemaWithSaid : Prop := schemaWithRow.holds Try.pinned (OpenSpec.ofChange schemaWithSpec)

/-- ITS FALSE NEIGHBOUR: 'it returns false'. Refute it at one input. -/
def schemaWithWrong : ChangeSpec := { name := "schemaWith", fn := fun _ => fun
  | [d1, d2] => { results := [.lit (.bool false)], args := [d1, d2] }
  | _ => none }
def SchemaWithWrongFalsely : Prop := schemaWithRow.holds Try.pinned (OpenSpec.ofChange schemaWithWrong)

/-- 'askancekeep.SchemaTypes': WHATEVER THE INPUT: true; the input reads as it did. -/
def schemaTypesSpec : ChangeSpec := { name := "schemaTypes", fn := fun _ => fun
  | [d1, d2, d3] => { results := [.lit (.bool true)], args := [d1, d2, d3] }
  | _ => none }
def schemaTypesRow : OpenClaim := { program := "ytabanbpnghidhaa", sum := "f4b404736ed566bd92b8ec932336e3303386d08e1cab7c337c46d4d9f59c1d92", func := "askance/askancekeep.SchemaTypes", spec := "schemaTypes", unfollowed := true, recurses := true, loops := true, apart := false }
def SchemaTypesSaid : Prop := schemaTypesRow.holds Try.pinned (OpenSpec.ofChange schemaTypesSpec)

/-- ITS FALSE NEIGHBOUR: 'it returns false'. Refute it at one input. -/
def schemaTypesWrong : ChangeSpec := { name := "schemaTypes", fn := fun _ => fun
  | [d1, d2, d3] => { results := [.lit (.bool false)], args := [d1, d2, d3] }
  | _ => none }
def SchemaTypesWrongFalsely : Prop := schemaTypesRow.holds Try.pinned (OpenSpec.ofChange schemaTypesWrong)

/- THE SECOND FORM. 'bulk': how many values and letters a reading holds, each counted each time it is reached (what is shared counts as often as it is met; a slice's spare places count too). A statement '..UptoSaid' is the law's where the arguments, and the package variables that the reading takes, are together of bulk at most 1048576: NARROWER than '..Said'. Prove '..Said' where nothing that the law and all that it calls make is longer than what came in: it says more and counts as full. Else prove '..UptoSaid'. A law counts once. -/
mutual
def uptoBulk {H : Type} : DataW H → Nat
  | .lit (.string bytes) => bytes.length + 1
  | .lit _ => 1
  | .nil => 1
  | .ptr d => uptoBulk d + 1
  | .slice elems spare => uptoBulkAll elems + uptoBulkAll spare + 1
  | .agg parts => uptoBulkAll parts + 1
  | .iface _ d => uptoBulk d + 1
  | .map entries => uptoBulkEntries entries + 1
  | .held _ => 1
def uptoBulkAll {H : Type} : List (DataW H) → Nat
  | [] => 0
  | d :: r => uptoBulk d + uptoBulkAll r
def uptoBulkEntries {H : Type} : List (Lit × DataW H) → Nat
  | [] => 0
  | x :: r => uptoBulkEntry x + uptoBulkEntries r
def uptoBulkEntry {H : Type} : Lit × DataW H → Nat
  | (.string bytes, d) => bytes.length + uptoBulk d + 1
  | (_, d) => uptoBulk d + 1
 end
def uptoSmall : (H : Type) → List (DataW H) → Bool := fun _ ds => decide (uptoBulkAll ds ≤ 1048576)
def OpenSpec.upto (s : _root_.Go.ChangeSpec) : _root_.Go.OpenSpec := { _root_.Go.OpenSpec.ofChange s with cond := some uptoSmall }

/-- 'askancekeep.SchemaWith', WHERE WHAT IT READS IS OF BULK AT MOST 1048576: true; the input reads as it did. -/
def schemaWithUptoRow : OpenClaim := { program := "ytabanbpnghidhaa", sum := "f4b404736ed566bd92b8ec932336e3303386d08e1cab7c337c46d4d9f59c1d92", func := "askance/askancekeep.SchemaWith", spec := "schemaWith", inPlace := ["slices.overlaps[askance/api.Table]", "slices.overlaps[askance/api.Index]"], unfollowed := true, recurses := true, loops := true, apart := false, narrowed := true }
def SchemaWithUptoSaid : Prop := schemaWithUptoRow.holds Try.pinned (OpenSpec.upto schemaWithSpec)

/-- 'askancekeep.SchemaTypes', WHERE WHAT IT READS IS OF BULK AT MOST 1048576: true; the input reads as it did. -/
def schemaTypesUptoRow : OpenClaim := { program := "ytabanbpnghidhaa", sum := "f4b404736ed566bd92b8ec932336e3303386d08e1cab7c337c46d4d9f59c1d92", func := "askance/askancekeep.SchemaTypes", spec := "schemaTypes", unfollowed := true, recurses := true, loops := true, apart := false, narrowed := true }
def SchemaTypesUptoSaid : Prop := schemaTypesUptoRow.holds Try.pinned (OpenSpec.upto schemaTypesSpec)

end Rows
end Go.Proofs.Ytabanbpnghidhaa
