/-
  Closed facts on the row of TopWhole.
-/
import Derived.Test.YtocegbpmmiabmaaGreatDoorRows
import Derived.ProofKit
import Derived.JoinedCond
import Derived.Test.YtocegbpmmiabmaaGreatDoorJ25
set_option linter.unusedSimpArgs false
set_option linter.unusedVariables false
set_option maxRecDepth 100000
set_option maxHeartbeats 0
namespace Go.Proofs.YtocegbpmmiabmaaGreatDoor
open Go.RowKit
theorem A65:(Rows.topWholeRow.plainKeys==Tryz.prog.plainKeys)=true:=by kernel_rfl
theorem A6x:(Rows.topWholeRow.inPlace==Tryz.prog.inPlace 3)=true:=by kernel_rfl
theorem A6a:(Rows.topWholeRow.unfollowed==Tryz.prog.unfollowed 3)=true:=by kernel_rfl
theorem A6k:(Rows.topWholeRow.recurses==Tryz.prog.recurses 3)=true:=by kernel_rfl
theorem A6y:(Rows.topWholeRow.named==Tryz.prog.varsNamed 3)=true:=by kernel_rfl
theorem A5z:joinedFacts Tryz.prog 3 Tryz.f3 (OpenSpec.ofChange Rows.topWholeSpec).bare Rows.topWholeRow=true:=by
 unfold joinedFacts;rw[Nu,Ax6,A6x,A6a,A6k,A6y,A65,Arp,Arq]
 kernel_rfl
end Go.Proofs.YtocegbpmmiabmaaGreatDoor
