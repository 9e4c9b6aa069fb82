/- Layer 4: a parameter's argument opened. -/
import Derived.Test.YtlpklnjnfeodaaaPutP
import Derived.Test.YtlpklnjnfeodaaaParO
namespace Go.Proofs.Ytlpklnjnfeodaaa.par
open Go.ChangeShapes Go.WideShapes Go.ChangeAt Go.RowKit kit oct
set_option maxRecDepth 100000

theorem puts_open {H : Type} {enc : TypeId × Value → H} {W : World} {base : Nat} {v0 : Value} {d0 : DataW H} {p0 : List MemPlace}
    (o0 : Value.okWide Try.prog W .any base 23 v0) (h0 : DataW.Trod enc Try.prog W 0 (fun _ => true) true 23 v0 d0 p0) :
    Calls Try.prog 3 #[v0] W fun e w' => e = .returned (.bool true) ∧ Below W.heap.size W w' := by
  obtain ⟨t, s, rfl, hs, _, _⟩ := open_param o0 h0
  exact puts_law t s W hs
end Go.Proofs.Ytlpklnjnfeodaaa.par
