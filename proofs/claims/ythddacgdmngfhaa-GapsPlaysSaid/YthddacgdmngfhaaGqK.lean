/- Layer 16: the arguments opened (GapsPlays). -/
import Derived.Test.YthddacgdmngfhaaGqH
namespace Go.Proofs.Ythddacgdmngfhaa.gap
open Go.ChangeShapes Go.WideShapes Go.ChangeAt Go.RowKit kit
set_option maxRecDepth 100000
theorem plays_open {H : Type} {enc : TypeId × Value → H} {W : World} {base : Nat} {v0 v1 v2 : Value} {d0 d1 d2 : DataW H} {p0 p1 p2 : List MemPlace}
    (o0 : Value.okWide Try.prog W .any base 28 v0) (o1 : Value.okWide Try.prog W .any base 38 v1) (o2 : Value.okWide Try.prog W .any base 3 v2) (h0 : DataW.Trod enc Try.prog W 0 (fun _ => true) true 28 v0 d0 p0) (h1 : DataW.Trod enc Try.prog W 0 (fun _ => true) true 38 v1 d1 p1) (h2 : DataW.Trod enc Try.prog W 0 (fun _ => true) true 3 v2 d2 p2) :
    Calls Try.prog 6 #[v0, v1, v2] W fun e w' => e = .returned (.bool true) ∧ Below W.heap.size W w' := by
  obtain ⟨c, rfl, _, _, wf⟩ := open_int Try.underlying28 o0 h0
  have hb : IntKind.u32.min ≤ c ∧ c ≤ IntKind.u32.max := by simpa [Lit.wf] using wf
  have hb : 0 ≤ c ∧ c ≤ 4294967295 := hb
  obtain ⟨C, rfl⟩ : ∃ C : Nat, c = C := ⟨c.toNat, by omega⟩
  obtain ⟨ask, rfl, _, _, _⟩ := open_int Try.underlying3 o2 h2
  rcases open_row 2 (sh := [.int .u32]) Try.underlying38 (by kernel_rfl) (by kernel_rfl) (by decide) o1 h1 with rfl | ⟨a, len, cap, K, rfl, hlc, hcm, hab, hC⟩
  · exact plays_walk C (by omega) none ⟨0, 0, none⟩ 0 0 ask (fun _ => 0) W (Nat.le_refl _) (Nat.zero_le _) (fun h => absurd h (by omega)) (fun h => absurd h (by omega)) (fun i h => absurd h (by omega))
  · have hx : ∀ i, ∃ x : Nat, i < len → x < 4294967296 ∧ W.cell? (a.add i) = some (.int .u32 x) := by
      intro i
      by_cases hi : i < len
      · obtain ⟨hF, hc⟩ := hC i hi
        obtain ⟨x, t, e, wf, hF'⟩ := hF.int
        have hb : IntKind.u32.min ≤ x ∧ x ≤ IntKind.u32.max := by simpa [Lit.wf] using wf
        have hb : 0 ≤ x ∧ x ≤ 4294967295 := hb
        obtain ⟨y, rfl⟩ : ∃ y : Nat, x = y := ⟨x.toNat, by omega⟩
        refine ⟨y, fun _ => ⟨by omega, ?_⟩⟩
        have := hc 0 (.int .u32 y) (by rw [e]; rfl)
        simpa using this
      · exact ⟨0, fun h => absurd h hi⟩
    have hs := fun i => Classical.choose_spec (hx i)
    exact plays_walk C (by omega) (some a) a len cap ask (fun i => Classical.choose (hx i)) W hlc hcm (fun _ => rfl) hab (fun i hi => hs i hi)
end Go.Proofs.Ythddacgdmngfhaa.gap
