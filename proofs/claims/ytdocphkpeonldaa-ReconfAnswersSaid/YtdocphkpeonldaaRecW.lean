/- Layer 28: the arguments opened (ReconfAnswers). -/
import Derived.Test.YtdocphkpeonldaaRecV
namespace Go.Proofs.Ytdocphkpeonldaa.rec_
open Go.ChangeShapes Go.WideShapes Go.ChangeAt Go.RowKit kit oct
set_option maxRecDepth 100000

theorem answers_open {H : Type} {enc : TypeId × Value → H} {W : World} {base : Nat} {v0 v1 v2 : Value} {d0 d1 d2 : DataW H} {p0 p1 p2 : List MemPlace}
    (o0 : Value.okWide Try.prog W .any base 24 v0) (o1 : Value.okWide Try.prog W .any base 33 v1) (o2 : Value.okWide Try.prog W .any base 3 v2) (h0 : DataW.Trod enc Try.prog W 0 (fun _ => true) true 24 v0 d0 p0) (h1 : DataW.Trod enc Try.prog W 0 (fun _ => true) true 33 v1 d1 p1) (h2 : DataW.Trod enc Try.prog W 0 (fun _ => true) true 3 v2 d2 p2) :
    Calls Try.prog 5 #[v0, v1, v2] W fun e w' => e = .returned (.bool true) ∧ Below W.heap.size W w' := by
  obtain ⟨n, rfl, _, _, wn⟩ := open_int Try.underlying24 o0 h0
  obtain ⟨u1, u2⟩ := bounds_u32 wn
  obtain ⟨m, rfl⟩ : ∃ m : Nat, n = m := ⟨n.toNat, by omega⟩
  obtain ⟨oa, a, len, cap, v, rfl, hlc, hcm, hoa, hab, hv⟩ := open_nums o1 h1
  obtain ⟨k, rfl, _, _, _⟩ := open_int Try.underlying3 o2 h2
  exact answers_walk m (by omega) oa a len cap v k W hlc hcm hoa hab hv
end Go.Proofs.Ytdocphkpeonldaa.rec_
