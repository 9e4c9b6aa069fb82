/- Layer 11: the statement's arguments opened (an entry, an address, a time). -/
import Derived.Test.YtjjekknceeebcaaNclB
namespace Go.Proofs.Ytjjekknceeebcaa.nat
open Go.ChangeShapes Go.WideShapes Go.ChangeAt Go.RowKit kit
set_option maxRecDepth 100000

theorem clash_open {H : Type} {enc : TypeId × Value → H} {W : World} {base : Nat} {v0 v1 v2 : Value} {d0 d1 d2 : DataW H} {p0 p1 p2 : List MemPlace}
    (o0 : Value.okWide Try.prog W .any base 25 v0) (o1 : Value.okWide Try.prog W .any base 23 v1) (o2 : Value.okWide Try.prog W .any base 3 v2)
    (h0 : DataW.Trod enc Try.prog W 0 (fun _ => true) true 25 v0 d0 p0) (h1 : DataW.Trod enc Try.prog W 0 (fun _ => true) true 23 v1 d1 p1) (h2 : DataW.Trod enc Try.prog W 0 (fun _ => true) true 3 v2 d2 p2) :
    Calls Try.prog 3 #[v0, v1, v2] W fun e w' => e = .returned (.bool true) ∧ Below W.heap.size W w' := by
  obtain ⟨m, rfl, _, _, wm⟩ := open_int Try.underlying23 o1 h1
  obtain ⟨n, rfl, _, _, _⟩ := open_int Try.underlying3 o2 h2
  obtain ⟨l, rfl, hF⟩ := open_struct 4 (sh := [.int .u32, .int .i64, .int .u32, .int .i64, .int .u32, .int .u32, .int .i64]) Try.underlying25 (by kernel_rfl) (by kernel_rfl) o0 h0
  obtain ⟨a, l1, rfl, wa, hF⟩ := hF.int
  obtain ⟨b, l2, rfl, _, hF⟩ := hF.int
  obtain ⟨c, l3, rfl, _, hF⟩ := hF.int
  obtain ⟨d, l4, rfl, _, hF⟩ := hF.int
  obtain ⟨i, l5, rfl, wi, hF⟩ := hF.int
  obtain ⟨o, l6, rfl, _, hF⟩ := hF.int
  obtain ⟨s, l7, rfl, _, hF⟩ := hF.int
  obtain rfl := hF.nil
  obtain ⟨z1, z2⟩ := bounds_u32 wi
  obtain ⟨z3, z4⟩ := bounds_u32 wa
  obtain ⟨z5, z6⟩ := bounds_u32 wm
  obtain ⟨j, rfl⟩ : ∃ j : Nat, i = j := ⟨i.toNat, by omega⟩
  obtain ⟨k, rfl⟩ : ∃ j : Nat, a = j := ⟨a.toNat, by omega⟩
  obtain ⟨x, rfl⟩ : ∃ j : Nat, m = j := ⟨m.toNat, by omega⟩
  exact clash_law k j x (by omega) (by omega) (by omega) b c d o s n W
end Go.Proofs.Ytjjekknceeebcaa.nat
