/- All codes, as the program and as the document tell them; the law's num and told. -/
import Derived.Test.YtggdlklkjnbbjaaGreatDoorSwG
namespace Go.Proofs.YtggdlklkjnbbjaaGreatDoor
open Go.RowKit Go.Shelf
set_option linter.unusedSimpArgs false
set_option linter.unusedVariables false

/-- What told tells. -/
def toldB (n e no want : Int) : Bool := n == (if no = 0 then want else 0) && e == no
end Go.Proofs.YtggdlklkjnbbjaaGreatDoor
