/- Layer 28: the arguments opened (ReconfAsks). -/
import Derived.Test.YtdocphkpeonldaaRecR
namespace Go.Proofs.Ytdocphkpeonldaa.rec_
open Go.ChangeShapes Go.WideShapes Go.ChangeAt Go.RowKit kit oct
set_option maxRecDepth 100000

theorem open_nums {H : Type} {enc : TypeId × Value → H} {W : World} {base : Nat} {v0 : Value} {d0 : DataW H} {p0 : List MemPlace}
    (o0 : Value.okWide Try.prog W .any base 33 v0) (h0 : DataW.Trod enc Try.prog W 0 (fun _ => true) true 33 v0 d0 p0) :
    ∃ (oa : Option Addr) (a : Addr) (len cap : Nat) (v : Nat → Int), v0 = .slice oa len cap ∧ len ≤ cap ∧ cap ≤ maxLen ∧ (0 < len → oa = some a) ∧ (0 < len → a.block < W.heap.size) ∧ ∀ i, i < len → W.cell? (a.add i) = some (.int .i64 (v i)) := by
  rcases open_row 2 (sh := [.int .i64]) Try.underlying33 (by kernel_rfl) (by kernel_rfl) (by decide) o0 h0 with rfl | ⟨a, len, cap, C, rfl, hlc, hcm, hab, hC⟩
  · exact ⟨none, ⟨0, 0, none⟩, 0, 0, fun _ => 0, rfl, Nat.le_refl _, Nat.zero_le _, fun h => absurd h (by omega), fun h => absurd h (by omega), fun i h => absurd h (by omega)⟩
  · have hx : ∀ i, ∃ x : Int, i < len → W.cell? (a.add i) = some (.int .i64 x) := by
      intro i
      by_cases hi : i < len
      · obtain ⟨hF, hc⟩ := hC i hi
        obtain ⟨x, t, e, _, hF'⟩ := hF.int
        refine ⟨x, fun _ => ?_⟩
        have := hc 0 (.int .i64 x) (by rw [e]; rfl)
        simpa using this
      · exact ⟨0, fun h => absurd h hi⟩
    have hs := fun i => Classical.choose_spec (hx i)
    exact ⟨some a, a, len, cap, fun i => Classical.choose (hx i), rfl, hlc, hcm, fun _ => rfl, hab, fun i hi => hs i hi⟩
theorem asks_open {H : Type} {enc : TypeId × Value → H} {W : World} {base : Nat} {v0 v1 : Value} {d0 d1 : DataW H} {p0 p1 : List MemPlace}
    (o0 : Value.okWide Try.prog W .any base 24 v0) (o1 : Value.okWide Try.prog W .any base 33 v1) (h0 : DataW.Trod enc Try.prog W 0 (fun _ => true) true 24 v0 d0 p0) (h1 : DataW.Trod enc Try.prog W 0 (fun _ => true) true 33 v1 d1 p1) :
    Calls Try.prog 4 #[v0, v1] W fun e w' => e = .returned (.bool true) ∧ Below W.heap.size W w' := by
  obtain ⟨n, rfl, _, _, wn⟩ := open_int Try.underlying24 o0 h0
  obtain ⟨u1, u2⟩ := bounds_u32 wn
  obtain ⟨m, rfl⟩ : ∃ m : Nat, n = m := ⟨n.toNat, by omega⟩
  obtain ⟨oa, a, len, cap, v, rfl, hlc, hcm, hoa, hab, hv⟩ := open_nums o1 h1
  exact asks_walk m (by omega) oa a len cap v W hlc hcm hoa hab hv
end Go.Proofs.Ytdocphkpeonldaa.rec_
