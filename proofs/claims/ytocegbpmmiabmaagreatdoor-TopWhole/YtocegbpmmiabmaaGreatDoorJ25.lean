/-
  Closed facts on the program.
-/
import Derived.Test.YtocegbpmmiabmaaGreatDoorRows
import Derived.ProofKit
import Derived.JoinedCond
set_option linter.unusedSimpArgs false
set_option linter.unusedVariables false
set_option maxRecDepth 100000
set_option maxHeartbeats 0
namespace Go.Proofs.YtocegbpmmiabmaaGreatDoor
open Go.RowKit
theorem Nu:laidOutB Tryz.prog=true:=by kernel_rfl
theorem Ax6:mapsRowed Tryz.prog=true:=by kernel_rfl
theorem Arp:Tryz.prog.stopsHeard=true:=by kernel_rfl
theorem Arq:Tryz.prog.mayEnter=true:=by kernel_rfl
end Go.Proofs.YtocegbpmmiabmaaGreatDoor
