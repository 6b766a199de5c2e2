/-
  Closed facts on the row of TopRuns.
-/
import Derived.Test.YtocegbpmmiabmaaGreatDoorRows
import Derived.ProofKit
import Derived.JoinedCond
import Derived.Test.YtocegbpmmiabmaaGreatDoorJ25
set_option linter.unusedSimpArgs false
set_option linter.unusedVariables false
set_option maxRecDepth 100000
set_option maxHeartbeats 0
namespace Go.Proofs.YtocegbpmmiabmaaGreatDoor
open Go.RowKit
theorem A67:(Rows.topRunsRow.plainKeys==Tryz.prog.plainKeys)=true:=by kernel_rfl
theorem A60:(Rows.topRunsRow.inPlace==Tryz.prog.inPlace 5)=true:=by kernel_rfl
theorem A6d:(Rows.topRunsRow.unfollowed==Tryz.prog.unfollowed 5)=true:=by kernel_rfl
theorem A6l:(Rows.topRunsRow.recurses==Tryz.prog.recurses 5)=true:=by kernel_rfl
theorem A61:(Rows.topRunsRow.named==Tryz.prog.varsNamed 5)=true:=by kernel_rfl
theorem A58:joinedFacts Tryz.prog 5 Tryz.f5 (OpenSpec.ofChange Rows.topRunsSpec).bare Rows.topRunsRow=true:=by
 unfold joinedFacts;rw[Nu,Ax6,A60,A6d,A6l,A61,A67,Arp,Arq]
 kernel_rfl
end Go.Proofs.YtocegbpmmiabmaaGreatDoor
