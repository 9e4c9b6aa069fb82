/- Layer 32: a topology as an argument, opened. -/
import Derived.Test.YthjhiogbnacmdaaToF
namespace Go.Proofs.Ythjhiogbnacmdaa.top
open Go.ChangeShapes Go.WideShapes Go.ChangeAt Go.RowKit kit
set_option maxRecDepth 100000

section
variable {H : Type} {enc : TypeId × Value → H} {W : World} {b0 : Nat} {sp : Nat → Bool} {hd : Bool}
theorem plr_of {v : Value} (h : FlatRow enc Try.prog W b0 sp hd [.int .u32, .int .i64] v) : ∃ (oa : Option Addr) (a : Addr) (n c : Nat) (E : Nat → Int × Int), v = .slice oa n c ∧ PlR W W.heap.size oa a n c E := by
  rcases h with rfl | ⟨a, len, cap, C, rfl, hlc, hcm, hab, hC⟩
  · exact ⟨none, ⟨0, 0, none⟩, 0, 0, fun _ => (0, 0), rfl, ⟨Nat.le_refl _, by unfold maxLen; omega, fun h => absurd h (Nat.lt_irrefl _), fun h => absurd h (Nat.lt_irrefl _), fun i h => absurd h (Nat.not_lt_zero i)⟩⟩
  · have hx : ∀ i, ∃ x : Int × Int, i < len → ∀ (j : Nat) u, (pl x)[j]? = some u → W.cell? ((a.add (i * 2)).add j) = some u := by
      intro i
      by_cases hi : i < len
      · obtain ⟨hF, hc⟩ := hC i hi
        generalize C i = l at *
        obtain ⟨x1, l1, rfl, _, hF⟩ := hF.int
        obtain ⟨x2, l2, rfl, _, hF⟩ := hF.int
        obtain rfl := hF.nil
        refine ⟨(x1, x2), fun _ j u hu => ?_⟩
        rw [Addr.add_add]
        exact hc j u (by simpa [pl] using hu)
      · exact ⟨(0, 0), fun h => absurd h hi⟩
    have hs := fun i => Classical.choose_spec (hx i)
    exact ⟨some a, a, len, cap, fun i => Classical.choose (hx i), rfl, ⟨hlc, hcm, fun _ => rfl, hab, fun i hi => hs i hi⟩⟩
def ho0 : HoA := ⟨none, ⟨0, 0, none⟩, 0, 0, fun _ => (0, 0), ⟨#[]⟩, .slice none 0 0⟩
theorem hor_of {v : Value} (h : FlatRow enc Try.prog W b0 sp hd [.other 47, .str, .other 48] v) : ∃ (oa : Option Addr) (a : Addr) (n c : Nat) (E : Nat → HoA), v = .slice oa n c ∧ HoR W W.heap.size oa a n c E := by
  rcases h with rfl | ⟨a, len, cap, C, rfl, hlc, hcm, hab, hC⟩
  · exact ⟨none, ⟨0, 0, none⟩, 0, 0, fun _ => ho0, rfl, ⟨Nat.le_refl _, by unfold maxLen; omega, fun h => absurd h (Nat.lt_irrefl _), fun h => absurd h (Nat.lt_irrefl _), fun i h => absurd h (Nat.not_lt_zero i), fun i h => absurd h (Nat.not_lt_zero i)⟩⟩
  · have hx : ∀ i, ∃ x : HoA, i < len → (∀ (j : Nat) u, (hoa x)[j]? = some u → W.cell? ((a.add (i * 3)).add j) = some u) ∧ PlR W W.heap.size x.oP x.aP x.nP x.cP x.EP := by
      intro i
      by_cases hi : i < len
      · obtain ⟨hF, hc⟩ := hC i hi
        generalize C i = l at *
        obtain ⟨vP, l1, rfl, hP, hF⟩ := hF.other
        obtain ⟨key, l2, rfl, _, hF⟩ := hF.str
        obtain ⟨vD, l3, rfl, _, hF⟩ := hF.other
        obtain rfl := hF.nil
        obtain ⟨oP, aP, nP, cP, EP, rfl, HP⟩ := plr_of (open_rowT 3 (sh := [.int .u32, .int .i64]) Try.underlying47 (by kernel_rfl) (by kernel_rfl) (by decide) hP)
        refine ⟨⟨oP, aP, nP, cP, EP, key, vD⟩, fun _ => ⟨fun j u hu => ?_, HP⟩⟩
        rw [Addr.add_add]
        exact hc j u (by simpa [hoa] using hu)
      · exact ⟨ho0, fun h => absurd h hi⟩
    have hs := fun i => Classical.choose_spec (hx i)
    exact ⟨some a, a, len, cap, fun i => Classical.choose (hx i), rfl, ⟨hlc, hcm, fun _ => rfl, hab, fun i hi => (hs i hi).1, fun i hi => (hs i hi).2⟩⟩
end
/-- A topology: its hosts and those between. -/
theorem open_topo {H : Type} {enc : TypeId × Value → H} {W : World} {base : Nat} {v0 : Value} {d0 : DataW H} {p0 : List MemPlace}
    (o0 : Value.okWide Try.prog W .any base 42 v0) (h0 : DataW.Trod enc Try.prog W 0 (fun _ => true) true 42 v0 d0 p0) :
    ∃ (oH oN : Option Addr) (aH aN : Addr) (nH cH nN cN : Nat) (E : Nat → HoA) (EN : Nat → Int × Int), v0 = .agg #[.slice oH nH cH, .slice oN nN cN] ∧ HoR W W.heap.size oH aH nH cH E ∧ PlR W W.heap.size oN aN nN cN EN := by
  obtain ⟨l, rfl, hF⟩ := open_struct 4 (sh := [.other 39, .other 40]) Try.underlying42 (by kernel_rfl) (by kernel_rfl) o0 h0
  obtain ⟨vH, l1, rfl, hH, hF⟩ := hF.other
  obtain ⟨vN, l2, rfl, hN, hF⟩ := hF.other
  obtain rfl := hF.nil
  obtain ⟨oH, aH, nH, cH, E, rfl, HH⟩ := hor_of (open_rowT 4 (sh := [.other 47, .str, .other 48]) Try.underlying39 (by kernel_rfl) (by kernel_rfl) (by decide) hH)
  obtain ⟨oN, aN, nN, cN, EN, rfl, HN⟩ := plr_of (open_rowT 4 (sh := [.int .u32, .int .i64]) Try.underlying40 (by kernel_rfl) (by kernel_rfl) (by decide) hN)
  exact ⟨oH, oN, aH, aN, nH, cH, nN, cN, E, EN, rfl, HH, HN⟩
end Go.Proofs.Ythjhiogbnacmdaa.top
