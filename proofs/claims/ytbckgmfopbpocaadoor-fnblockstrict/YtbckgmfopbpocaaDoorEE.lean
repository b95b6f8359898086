/-
  RunKeys, the model's and the program's.
-/
import Derived.Test.YtbckgmfopbpocaaDoorED
namespace Go.Proofs.YtbckgmfopbpocaaDoor.W
open Go.RowKit K R

def keysO (l : List En) : List ByteArray := if runB l = true then keysL l else []

end Go.Proofs.YtbckgmfopbpocaaDoor.W
