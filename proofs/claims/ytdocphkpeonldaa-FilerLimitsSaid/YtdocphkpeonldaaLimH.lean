/- Layer 40: objects that are too great, or too many, are refused; the argument opened. -/
import Derived.Test.YtdocphkpeonldaaLimG
namespace Go.Proofs.Ytdocphkpeonldaa.fil
open Go.ChangeShapes Go.WideShapes Go.ChangeAt Go.RowKit kit
set_option maxRecDepth 100000
theorem limits_open {H : Type} {enc : TypeId × Value → H} {W : World} {base : Nat} {v0 : Value} {d0 : DataW H} {p0 : List MemPlace}
    (o0 : Value.okWide Try.prog W .any base 3 v0) (h0 : DataW.Trod enc Try.prog W 0 (fun _ => true) true 3 v0 d0 p0) :
    Calls Try.prog 14 #[v0] W fun e w' => e = .returned (.bool true) ∧ Below W.heap.size W w' := by
  obtain ⟨x, rfl, _, _, _⟩ := open_int Try.underlying3 o0 h0
  exact limits_law x W
end Go.Proofs.Ytdocphkpeonldaa.fil
