/- Layer 42: the arguments opened. -/
import Derived.Test.YtdocphkpeonldaaStoK
namespace Go.Proofs.Ytdocphkpeonldaa.storm
open Go.ChangeShapes Go.WideShapes Go.ChangeAt Go.RowKit kit
set_option maxRecDepth 100000

theorem fair_open {H : Type} {enc : TypeId × Value → H} {W : World} {base : Nat} {v0 v1 : Value} {d0 d1 : DataW H} {p0 p1 : List MemPlace}
    (o0 : Value.okWide Try.prog W .any base 60 v0) (o1 : Value.okWide Try.prog W .any base 56 v1) (h0 : DataW.Trod enc Try.prog W 0 (fun _ => true) true 60 v0 d0 p0) (h1 : DataW.Trod enc Try.prog W 0 (fun _ => true) true 56 v1 d1 p1) :
    Calls Try.prog 7 #[v0, v1] W fun e w' => e = .returned (.bool true) ∧ Below W.heap.size W w' := by
  obtain ⟨l, rfl, F0⟩ := open_struct 4 (sh := [.int .u64, .int .i64, .int .i64, .int .i64, .int .i64]) Try.underlying60 (by kernel_rfl) (by kernel_rfl) o0 h0
  obtain ⟨x1, l1, rfl, _, F1⟩ := F0.int
  obtain ⟨x2, l2, rfl, _, F2⟩ := F1.int
  obtain ⟨x3, l3, rfl, _, F3⟩ := F2.int
  obtain ⟨x4, l4, rfl, _, F4⟩ := F3.int
  obtain ⟨x5, l5, rfl, _, F5⟩ := F4.int
  obtain rfl := F5.nil
  obtain ⟨oa, a, len, cap, E, rfl, hlc, hcm, hoa, hr, hwf⟩ := open_items o1 h1
  exact fair_law x1 x2 x3 x4 x5 oa a len cap E W hlc hcm hoa hr hwf
end Go.Proofs.Ytdocphkpeonldaa.storm
