/- What is waited behind an answer that did not come. -/
import Derived.Test.YtoaocppdbgphgaaRtoB
namespace Go.Proofs.Ytoaocppdbgphgaa.rto
open Go.ChangeShapes Go.WideShapes Go.ChangeAt Go.RowKit kit
set_option maxRecDepth 100000 in
theorem longer_open {H : Type} {enc : TypeId × Value → H} {W : World} {base : Nat} {v0 : Value} {d0 : DataW H} {p0 : List MemPlace}
    (o0 : Value.okWide Try.prog W .any base 24 v0) (h0 : DataW.Trod enc Try.prog W 0 (fun _ => true) true 24 v0 d0 p0) :
    Calls Try.prog 4 #[v0] W fun e w' => e = .returned (.bool true) ∧ Below W.heap.size W w' := by
  obtain ⟨l, rfl, hl⟩ := open_struct (enc := enc) 4 (sh := [.int .i64, .int .i64, .int .i64, .bool]) Try.underlying24 (by kernel_rfl) (by kernel_rfl) o0 h0
  obtain ⟨a, t, rfl, _, hl⟩ := FlatOK.int _ _ _ _ _ _ hl
  obtain ⟨b, t, rfl, _, hl⟩ := FlatOK.int _ _ _ _ _ _ hl
  obtain ⟨c, t, rfl, _, hl⟩ := FlatOK.int _ _ _ _ _ _ hl
  obtain ⟨k, t, rfl, hk⟩ := FlatOK.bool _ _ _ _ _ _ hl
  obtain rfl := FlatOK.nil _ _ _ _ _ _ hk
  exact longer_law a b c k W
set_option maxRecDepth 100000 in
theorem rules_open {H : Type} {enc : TypeId × Value → H} {W : World} {base : Nat} {v0 : Value} {d0 : DataW H} {p0 : List MemPlace}
    (o0 : Value.okWide Try.prog W .any base 3 v0) (h0 : DataW.Trod enc Try.prog W 0 (fun _ => true) true 3 v0 d0 p0) (f : Nat) (h : ∀ t : Int, Calls Try.prog f #[.int .i64 t] W fun e w' => e = .returned (.bool true) ∧ Below W.heap.size W w') :
    Calls Try.prog f #[v0] W fun e w' => e = .returned (.bool true) ∧ Below W.heap.size W w' := by
  obtain ⟨a, rfl, _, _, _⟩ := open_int Try.underlying3 o0 h0
  exact h a
end Go.Proofs.Ytoaocppdbgphgaa.rto
