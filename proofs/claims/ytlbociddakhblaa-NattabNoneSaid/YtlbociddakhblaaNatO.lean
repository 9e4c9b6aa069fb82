/- Layer 11: the statement's arguments opened. -/
import Derived.Test.YtlbociddakhblaaNatE
namespace Go.Proofs.Ytlbociddakhblaa.nat
open Go.ChangeShapes Go.WideShapes Go.ChangeAt Go.RowKit kit
set_option maxRecDepth 100000

theorem none_open {H : Type} {enc : TypeId × Value → H} {W : World} {base : Nat} {v0 v1 : Value} {d0 d1 : DataW H} {p0 p1 : List MemPlace}
    (o0 : Value.okWide Try.prog W .any base 58 v0) (o1 : Value.okWide Try.prog W .any base 3 v1) (h0 : DataW.Trod enc Try.prog W 0 (fun _ => true) true 58 v0 d0 p0) (h1 : DataW.Trod enc Try.prog W 0 (fun _ => true) true 3 v1 d1 p1) :
    Calls Try.prog 14 #[v0, v1] W fun e w' => e = .returned (.bool true) ∧ Below W.heap.size W w' := by
  obtain ⟨n, rfl, _, _, _⟩ := open_int Try.underlying3 o1 h1
  obtain ⟨l, rfl, hF⟩ := open_struct 4 (sh := [.int .u32, .int .i64, .int .u32, .int .i64, .int .u32, .int .u32, .int .i64]) Try.underlying58 (by kernel_rfl) (by kernel_rfl) o0 h0
  obtain ⟨a, l1, rfl, _, hF⟩ := hF.int
  obtain ⟨b, l2, rfl, _, hF⟩ := hF.int
  obtain ⟨c, l3, rfl, _, hF⟩ := hF.int
  obtain ⟨d, l4, rfl, _, hF⟩ := hF.int
  obtain ⟨i, l5, rfl, wi, hF⟩ := hF.int
  obtain ⟨o, l6, rfl, _, hF⟩ := hF.int
  obtain ⟨s, l7, rfl, _, hF⟩ := hF.int
  obtain rfl := hF.nil
  obtain ⟨z1, z2⟩ := bounds_u32 wi
  obtain ⟨j, rfl⟩ : ∃ j : Nat, i = j := ⟨i.toNat, by omega⟩
  exact none_law a b c d o s n j (by omega) W
end Go.Proofs.Ytlbociddakhblaa.nat
