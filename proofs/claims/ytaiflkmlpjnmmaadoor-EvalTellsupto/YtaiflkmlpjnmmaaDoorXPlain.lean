/-
  Plain data: an expression of package api. Nothing of the program.
-/
import Derived.Test.YtaiflkmlpjnmmaaDoorPlain
namespace Go.Proofs.YtaiflkmlpjnmmaaDoor

abbrev Wd := ByteArray

/-- An expression: api.Expr. -/
inductive E where
  | mk (op : Int) (v : V) (s name : Wd) (n : Int) (l : List E) : E

abbrev noW : Wd := ⟨#[]⟩
def E.nil : E := .mk 0 zero noW noW 0 []
def litE (v : V) : E := .mk 1 v noW noW 0 []
def refE (s name : Wd) : E := .mk 2 zero s name 0 []
def nodeE (op : Int) (l : List E) : E := .mk op zero noW noW 0 l

end Go.Proofs.YtaiflkmlpjnmmaaDoor
