/-
  A world with the same memory lies as the first one does.
-/
import Derived.Test.YtakadkhgcjndmaaY3
namespace Go.Proofs.Ytakadkhgcjndmaa.W
open Go.RowKit K

theorem bel_to {b a W : World} (h : Below b.heap.size b a) (h1 : W.heap = a.heap) (h2 : W.os = a.os) (h3 : W.tape = a.tape) (h4 : W.output = a.output) : Below b.heap.size b W := h.trans ((bel_same h1 h2 h3 h4).mono h.size)

end Go.Proofs.Ytakadkhgcjndmaa.W
