/-
  Closed facts on the row of TopEnds.
-/
import Derived.Test.YtocegbpmmiabmaaGreatDoorRows
import Derived.ProofKit
import Derived.JoinedCond
import Derived.Test.YtocegbpmmiabmaaGreatDoorJ08
set_option linter.unusedSimpArgs false
set_option linter.unusedVariables false
set_option maxRecDepth 100000
set_option maxHeartbeats 0
namespace Go.Proofs.YtocegbpmmiabmaaGreatDoor
open Go.RowKit
theorem A3j:(Rows.topEndsRow.plainKeys==Tryz.prog.plainKeys)=true:=by kernel_rfl
theorem A07:(Rows.topEndsRow.inPlace==Tryz.prog.inPlace 6)=true:=by kernel_rfl
theorem Ajy:(Rows.topEndsRow.unfollowed==Tryz.prog.unfollowed 6)=true:=by kernel_rfl
theorem Ap9:(Rows.topEndsRow.recurses==Tryz.prog.recurses 6)=true:=by kernel_rfl
theorem A08:(Rows.topEndsRow.named==Tryz.prog.varsNamed 6)=true:=by kernel_rfl
theorem Agq:joinedFacts Tryz.prog 6 Tryz.f6 (OpenSpec.ofChange Rows.topEndsSpec).bare Rows.topEndsRow=true:=by
 unfold joinedFacts;rw[Nu,Ax6,A07,Ajy,Ap9,A08,A3j,Arp,Arq]
 kernel_rfl
end Go.Proofs.YtocegbpmmiabmaaGreatDoor
