/- CutEdge of the program. -/
import Derived.Test.YtdilimdicanbjaaPutM
namespace Go.Proofs.Ytdilimdicanbjaa
open Go.RowKit Go.BigFrame Go.Deep
set_option linter.unusedVariables false
set_option linter.unusedSimpArgs false

/-- The edges without the one in a place. -/
def kL (es : List Ed) (a b : Int) : List Ed := es.take (lbE es a b) ++ es.drop (lbE es a b + 1)
def kB (n : Int) (es : List Ed) (a b : Int) : Bool := gVal n es && fdE es a b
def kN (n : Int) (es : List Ed) (a b : Int) : Int := if kB n es a b = true then n else 0
def kR (n : Int) (es : List Ed) (a b : Int) : List Ed := if kB n es a b = true then kL es a b else []

end Go.Proofs.Ytdilimdicanbjaa
