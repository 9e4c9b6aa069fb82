/- Layer 28: the arguments opened. -/
import Derived.Test.YtdocphkpeonldaaRecM
namespace Go.Proofs.Ytdocphkpeonldaa.rec_
open Go.ChangeShapes Go.WideShapes Go.ChangeAt Go.RowKit kit oct
set_option maxRecDepth 100000

theorem params_open {H : Type} {enc : TypeId × Value → H} {W : World} {base : Nat} {v0 v1 v2 : Value} {d0 d1 d2 : DataW H} {p0 p1 p2 : List MemPlace}
    (o0 : Value.okWide Try.prog W .any base 23 v0) (o1 : Value.okWide Try.prog W .any base 24 v1) (o2 : Value.okWide Try.prog W .any base 3 v2) (h0 : DataW.Trod enc Try.prog W 0 (fun _ => true) true 23 v0 d0 p0) (h1 : DataW.Trod enc Try.prog W 0 (fun _ => true) true 24 v1 d1 p1) (h2 : DataW.Trod enc Try.prog W 0 (fun _ => true) true 3 v2 d2 p2) :
    Calls Try.prog 3 #[v0, v1, v2] W fun e w' => e = .returned (.bool true) ∧ Below W.heap.size W w' := by
  obtain ⟨l, rfl, F0⟩ := open_struct 4 (sh := [.int .i64, .str]) Try.underlying23 (by kernel_rfl) (by kernel_rfl) o0 h0
  obtain ⟨t, l0, rfl, wt, F1⟩ := F0.int
  obtain ⟨s, l1, rfl, hs, F2⟩ := F1.str
  obtain rfl := F2.nil
  obtain ⟨n, rfl, _, _, wn⟩ := open_int Try.underlying24 o1 h1
  obtain ⟨u1, u2⟩ := bounds_u32 wn
  obtain ⟨k, rfl, _, _, _⟩ := open_int Try.underlying3 o2 h2
  obtain ⟨m, rfl⟩ : ∃ m : Nat, n = m := ⟨n.toNat, by omega⟩
  exact law_any t s hs m (by omega) k W
end Go.Proofs.Ytdocphkpeonldaa.rec_
