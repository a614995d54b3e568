/-
  What BinaryInv answers, plainly.
-/
import Derived.Test.YtjofghelenfklaaWord
namespace Go.Proofs.Ytjofghelenfklaa

def invC (op b : Int) : Int := binC op (cm b)
def invV (op a b : Int) : Int := if invC op b = 0 then cm (binV op (cm a) (cm b)) else 0
end Go.Proofs.Ytjofghelenfklaa
