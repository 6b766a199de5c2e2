/-
  Closed facts on the row of TopReads.
-/
import Derived.Test.YtocegbpmmiabmaaGreatDoorRows
import Derived.ProofKit
import Derived.JoinedCond
import Derived.Test.YtocegbpmmiabmaaGreatDoorJ08
set_option linter.unusedSimpArgs false
set_option linter.unusedVariables false
set_option maxRecDepth 100000
set_option maxHeartbeats 0
namespace Go.Proofs.YtocegbpmmiabmaaGreatDoor
open Go.RowKit
theorem A3l:(Rows.topReadsRow.plainKeys==Tryz.prog.plainKeys)=true:=by kernel_rfl
theorem A1a:(Rows.topReadsRow.inPlace==Tryz.prog.inPlace 4)=true:=by kernel_rfl
theorem Aj0:(Rows.topReadsRow.unfollowed==Tryz.prog.unfollowed 4)=true:=by kernel_rfl
theorem Aqc:(Rows.topReadsRow.recurses==Tryz.prog.recurses 4)=true:=by kernel_rfl
theorem A1b:(Rows.topReadsRow.named==Tryz.prog.varsNamed 4)=true:=by kernel_rfl
theorem Afg:joinedFacts Tryz.prog 4 Tryz.f4 (OpenSpec.ofChange Rows.topReadsSpec).bare Rows.topReadsRow=true:=by
 unfold joinedFacts;rw[Nu,Ax6,A1a,Aj0,Aqc,A1b,A3l,Arp,Arq]
 kernel_rfl
end Go.Proofs.YtocegbpmmiabmaaGreatDoor
