/-
  6 texts of this proof in one, in build order: RFactA, RFactB, RFactC, RFactD, RFactE, RFacts.
-/
import Derived.Test.YtifjaegfpdjikaaGreatDoorRows
import Derived.ProofKit
import Derived.JoinedCond
set_option linter.unusedSimpArgs false
set_option linter.unusedVariables false
namespace Go.Proofs.YtifjaegfpdjikaaGreatDoor
open Go.RowKit
theorem syntaxScripts_laidOut :laidOutB Tryz.prog=true :=by kernel_rfl
theorem Acp :mapsRowed Tryz.prog=true :=by kernel_rfl
theorem Acq : (Rows.syntaxScriptsRow.plainKeys==Tryz.prog.plainKeys) =true :=by kernel_rfl
theorem Abq :Tryz.prog.stopsHeard=true :=by kernel_rfl
theorem Abr :Tryz.prog.mayEnter=true :=by kernel_rfl
end Go.Proofs.YtifjaegfpdjikaaGreatDoor

namespace Go.Proofs.YtifjaegfpdjikaaGreatDoor
open Go.RowKit
theorem Abs : (Rows.syntaxScriptsRow.inPlace==Tryz.prog.inPlace 3) =true :=by kernel_rfl
end Go.Proofs.YtifjaegfpdjikaaGreatDoor

namespace Go.Proofs.YtifjaegfpdjikaaGreatDoor
open Go.RowKit
theorem Tj : (Rows.syntaxScriptsRow.unfollowed==Tryz.prog.unfollowed 3) =true :=by kernel_rfl
end Go.Proofs.YtifjaegfpdjikaaGreatDoor

namespace Go.Proofs.YtifjaegfpdjikaaGreatDoor
open Go.RowKit
theorem Wi : (Rows.syntaxScriptsRow.recurses==Tryz.prog.recurses 3) =true :=by kernel_rfl
end Go.Proofs.YtifjaegfpdjikaaGreatDoor

namespace Go.Proofs.YtifjaegfpdjikaaGreatDoor
open Go.RowKit
theorem Abt : (Rows.syntaxScriptsRow.named==Tryz.prog.varsNamed 3) =true :=by kernel_rfl
end Go.Proofs.YtifjaegfpdjikaaGreatDoor

namespace Go.Proofs.YtifjaegfpdjikaaGreatDoor
open Go.RowKit
theorem syntaxScripts_closed :joinedFacts Tryz.prog 3 Tryz.f3 (OpenSpec.ofChange Rows.syntaxScriptsSpec).bare Rows.syntaxScriptsRow=true :=by
 unfold joinedFacts
 rw [syntaxScripts_laidOut,Acp,Abs,Tj,Wi,Abt,Acq,Abq,Abr]
 kernel_rfl
end Go.Proofs.YtifjaegfpdjikaaGreatDoor

