/- More on slices that read as lists. -/
import Derived.Test.YtmnfikfncbppfaaSl
namespace Go.Proofs.Ytmnfikfncbppfaa
open Go.ChangeShapes Go.WideShapes Go.ChangeAt Go.RowKit

theorem Sl.held {W w' : World} {A : Option Addr} {vs : List Value} (h : Sl W W.heap.size A vs) (hz : W.heap.size ≤ w'.heap.size) (hc : ∀ b o, b < W.heap.size → w'.cell? ⟨b, o, none⟩ = W.cell? ⟨b, o, none⟩) : Sl w' w'.heap.size A vs := by
  rcases h with h | ⟨b, off, e, hlt, hq⟩
  · exact Or.inl h
  · exact Or.inr ⟨b, off, e, by omega, fun k v hv => (hc b (off + k) hlt).trans (hq k v hv)⟩

end Go.Proofs.Ytmnfikfncbppfaa
