/- A code under way: numbers, places, diagonals, slants, roles. -/
import Derived.Test.YtcbkdbnpcpgadaaDoorSwA
namespace Go.Proofs.YtcbkdbnpcpgadaaDoor
open Go.RowKit Go.Shelf
set_option linter.unusedSimpArgs false

/-- What a column is. -/
def roleN (d x : Int) : Int := if x = d then 2 else if x = d + 1 then 3 else if x = d + 2 then 4 else 1
end Go.Proofs.YtcbkdbnpcpgadaaDoor
