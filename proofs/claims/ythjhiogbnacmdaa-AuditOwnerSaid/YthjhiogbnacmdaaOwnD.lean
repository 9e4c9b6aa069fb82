/- Layers 6, 7, 38: a packet as an argument, opened: rows of chunks that hold rows. -/
import Derived.Test.YthjhiogbnacmdaaOwnC
namespace Go.Proofs.Ythjhiogbnacmdaa.aud
open Go.ChangeShapes Go.WideShapes Go.ChangeAt Go.RowKit kit cut
set_option maxRecDepth 100000

section
variable {H : Type} {enc : TypeId × Value → H} {W : World} {b0 : Nat} {sp : Nat → Bool} {hd : Bool}
theorem pr_of {v : Value} (h : FlatRow enc Try.prog W b0 sp hd [.int .i64, .str] v) : ∃ (oa : Option Addr) (a : Addr) (n c : Nat) (E : Nat → Int × ByteArray), v = .slice oa n c ∧ PR W W.heap.size oa a n c E := by
  rcases h with rfl | ⟨a, len, cap, C, rfl, hlc, hcm, hab, hC⟩
  · exact ⟨none, ⟨0, 0, none⟩, 0, 0, fun _ => (0, ⟨#[]⟩), rfl, ⟨Nat.le_refl _, by unfold maxLen; omega, fun h => absurd h (Nat.lt_irrefl _), fun h => absurd h (Nat.lt_irrefl _), fun i h => absurd h (Nat.not_lt_zero i), fun i h => absurd h (Nat.not_lt_zero i)⟩⟩
  · have hx : ∀ i, ∃ x : Int × ByteArray, i < len → (∀ (j : Nat) u, (#[.int .i64 x.1, .string x.2] : Array Value)[j]? = some u → W.cell? ((a.add (i * 2)).add j) = some u) ∧ x.2.size ≤ maxLen := by
      intro i
      by_cases hi : i < len
      · obtain ⟨hF, hc⟩ := hC i hi
        generalize C i = l at *
        obtain ⟨x1, l1, rfl, _, hF⟩ := hF.int
        obtain ⟨x2, l2, rfl, hz, hF⟩ := hF.str
        obtain rfl := hF.nil
        refine ⟨(x1, x2), fun _ => ⟨fun j u hu => ?_, hz⟩⟩
        rw [Addr.add_add]
        exact hc j u (by simpa using hu)
      · exact ⟨(0, ⟨#[]⟩), fun h => absurd h hi⟩
    have hs := fun i => Classical.choose_spec (hx i)
    exact ⟨some a, a, len, cap, fun i => Classical.choose (hx i), rfl, ⟨hlc, hcm, fun _ => rfl, hab, fun i hi => (hs i hi).1, fun i hi => (hs i hi).2⟩⟩
theorem sl_of {v : Value} {sh : List Sh} (h : FlatRow enc Try.prog W b0 sp hd sh v) : ∃ (oa : Option Addr) (n c : Nat), v = .slice oa n c ∧ n ≤ c ∧ c ≤ maxLen ∧ (oa = none → c = 0) := by
  rcases h with rfl | ⟨a, len, cap, C, rfl, hlc, hcm, hab, hC⟩
  · exact ⟨none, 0, 0, rfl, Nat.le_refl _, by unfold maxLen; omega, fun _ => rfl⟩
  · exact ⟨some a, len, cap, rfl, hlc, hcm, fun h => by cases h⟩
theorem chunk_of {l : List Value} (hF : FlatOK enc Try.prog W b0 sp hd [.int .i64, .int .i64, .int .u32, .int .i64, .int .i64, .int .u32, .str, .int .u32, .int .u32, .int .i64, .int .i64, .other 61, .other 62, .other 63, .other 48] l) : ∃ x : ChA, l = (chc x).toList ∧ ChOk x W W.heap.size := by
  obtain ⟨x1, l1, rfl, _, hF⟩ := hF.int
  obtain ⟨x2, l2, rfl, _, hF⟩ := hF.int
  obtain ⟨x3, l3, rfl, _, hF⟩ := hF.int
  obtain ⟨x4, l4, rfl, _, hF⟩ := hF.int
  obtain ⟨x5, l5, rfl, _, hF⟩ := hF.int
  obtain ⟨x6, l6, rfl, _, hF⟩ := hF.int
  obtain ⟨d, l7, rfl, hz, hF⟩ := hF.str
  obtain ⟨x8, l8, rfl, _, hF⟩ := hF.int
  obtain ⟨x9, l9, rfl, _, hF⟩ := hF.int
  obtain ⟨x10, l10, rfl, _, hF⟩ := hF.int
  obtain ⟨x11, l11, rfl, _, hF⟩ := hF.int
  obtain ⟨vP, l12, rfl, hP, hF⟩ := hF.other
  obtain ⟨vC, l13, rfl, hC, hF⟩ := hF.other
  obtain ⟨vG, l14, rfl, hG, hF⟩ := hF.other
  obtain ⟨vD, l15, rfl, hD, hF⟩ := hF.other
  obtain rfl := hF.nil
  obtain ⟨oP, aP, nP, cP, EP, rfl, HP⟩ := pr_of (open_rowT 3 (sh := [.int .i64, .str]) Try.underlying61 (by kernel_rfl) (by kernel_rfl) (by decide) hP)
  obtain ⟨oC, aC, nC, cC, EC, rfl, HC⟩ := pr_of (open_rowT 3 (sh := [.int .i64, .str]) Try.underlying62 (by kernel_rfl) (by kernel_rfl) (by decide) hC)
  obtain ⟨oG, nG, cG, rfl, g1, g2, g3⟩ := sl_of (open_rowT 3 (sh := [.int .i64, .int .i64]) Try.underlying63 (by kernel_rfl) (by kernel_rfl) (by decide) hG)
  obtain ⟨oD, nD, cD, rfl, d1, d2, d3⟩ := sl_of (open_rowT 3 (sh := [.int .u32]) Try.underlying48 (by kernel_rfl) (by kernel_rfl) (by decide) hD)
  exact ⟨⟨x1, x2, x3, x4, x5, x6, x8, x9, x10, x11, d, oP, oC, oG, oD, aP, aC, nP, cP, nC, cC, nG, cG, nD, cD, EP, EC⟩, rfl, ⟨hz, HP, HC, g1, g2, d1, d2, g3, d3⟩⟩
def ch0 : ChA := ⟨0, 0, 0, 0, 0, 0, 0, 0, 0, 0, ⟨#[]⟩, none, none, none, none, ⟨0, 0, none⟩, ⟨0, 0, none⟩, 0, 0, 0, 0, 0, 0, 0, 0, fun _ => (0, ⟨#[]⟩), fun _ => (0, ⟨#[]⟩)⟩
theorem kr_of {v : Value} (h : FlatRow enc Try.prog W b0 sp hd [.int .i64, .int .i64, .int .u32, .int .i64, .int .i64, .int .u32, .str, .int .u32, .int .u32, .int .i64, .int .i64, .other 61, .other 62, .other 63, .other 48] v) : ∃ (oa : Option Addr) (a : Addr) (n c : Nat) (E : Nat → ChA), v = .slice oa n c ∧ KR W W.heap.size oa a n c E := by
  rcases h with rfl | ⟨a, len, cap, C, rfl, hlc, hcm, hab, hC⟩
  · exact ⟨none, ⟨0, 0, none⟩, 0, 0, fun _ => ch0, rfl, ⟨Nat.le_refl _, by unfold maxLen; omega, fun h => absurd h (Nat.lt_irrefl _), fun h => absurd h (Nat.lt_irrefl _), fun i h => absurd h (Nat.not_lt_zero i), fun i h => absurd h (Nat.not_lt_zero i)⟩⟩
  · have hx : ∀ i, ∃ x : ChA, i < len → (∀ (j : Nat) u, (chc x)[j]? = some u → W.cell? ((a.add (i * 15)).add j) = some u) ∧ ChOk x W W.heap.size := by
      intro i
      by_cases hi : i < len
      · obtain ⟨hF, hc⟩ := hC i hi
        obtain ⟨x, hx, hok⟩ := chunk_of hF
        refine ⟨x, fun _ => ⟨fun j u hu => ?_, hok⟩⟩
        rw [Addr.add_add]
        exact hc j u (by rw [hx, Array.getElem?_toList]; exact hu)
      · exact ⟨ch0, fun h => absurd h hi⟩
    have hs := fun i => Classical.choose_spec (hx i)
    exact ⟨some a, a, len, cap, fun i => Classical.choose (hx i), rfl, ⟨hlc, hcm, fun _ => rfl, hab, fun i hi => (hs i hi).1, fun i hi => (hs i hi).2⟩⟩
end
theorem open_ents {H : Type} {enc : TypeId × Value → H} {W : World} {base : Nat} {v0 : Value} {d0 : DataW H} {p0 : List MemPlace}
    (o0 : Value.okWide Try.prog W .any base 22 v0) (h0 : DataW.Trod enc Try.prog W 0 (fun _ => true) true 22 v0 d0 p0) :
    ∃ (oa : Option Addr) (a : Addr) (len cap : Nat) (E : Nat → Ent), v0 = .slice oa len cap ∧ len ≤ cap ∧ cap ≤ maxLen ∧ (0 < len → oa = some a) ∧ RowE W a len E := by
  rcases open_row 4 (sh := [.int .u32, .int .i64, .int .u32, .int .i64, .int .u32, .int .u32, .int .i64]) Try.underlying22 (by kernel_rfl) (by kernel_rfl) (by decide) o0 h0 with rfl | ⟨a, len, cap, C, rfl, hlc, hcm, hab, hC⟩
  · exact ⟨none, ⟨0, 0, none⟩, 0, 0, (fun _ => e0), rfl, Nat.le_refl _, by unfold maxLen; omega, fun h => absurd h (Nat.lt_irrefl _), ⟨fun h => absurd h (Nat.lt_irrefl _), fun i h => absurd h (Nat.not_lt_zero i)⟩⟩
  · have hx : ∀ i, ∃ x : Ent, i < len → ∀ (j : Nat) u, (er x)[j]? = some u → W.cell? ((a.add (i * 7)).add j) = some u := by
      intro i
      by_cases hi : i < len
      · obtain ⟨hF, hc⟩ := hC i hi
        generalize C i = l at *
        obtain ⟨x1, l1, rfl, _, hF⟩ := hF.int
        obtain ⟨x2, l2, rfl, _, hF⟩ := hF.int
        obtain ⟨x3, l3, rfl, _, hF⟩ := hF.int
        obtain ⟨x4, l4, rfl, _, hF⟩ := hF.int
        obtain ⟨x5, l5, rfl, _, hF⟩ := hF.int
        obtain ⟨x6, l6, rfl, _, hF⟩ := hF.int
        obtain ⟨x7, l7, rfl, _, hF⟩ := hF.int
        obtain rfl := hF.nil
        refine ⟨(x1, x2, x3, x4, x5, x6, x7), fun _ j u hu => ?_⟩
        rw [Addr.add_add]
        exact hc j u (by simpa [er] using hu)
      · exact ⟨e0, fun h => absurd h hi⟩
    have hs := fun i => Classical.choose_spec (hx i)
    exact ⟨some a, a, len, cap, fun i => Classical.choose (hx i), rfl, hlc, hcm, fun _ => rfl, ⟨hab, fun i hi => hs i hi⟩⟩
theorem owner_open {H : Type} {enc : TypeId × Value → H} {W : World} {base : Nat} {v0 v1 v2 : Value} {d0 d1 d2 : DataW H} {p0 p1 p2 : List MemPlace}
    (o0 : Value.okWide Try.prog W .any base 22 v0) (o1 : Value.okWide Try.prog W .any base 26 v1) (o2 : Value.okWide Try.prog W .any base 4 v2)
    (h0 : DataW.Trod enc Try.prog W 0 (fun _ => true) true 22 v0 d0 p0) (h1 : DataW.Trod enc Try.prog W 0 (fun _ => true) true 26 v1 d1 p1) (h2 : DataW.Trod enc Try.prog W 0 (fun _ => true) true 4 v2 d2 p2) :
    Calls Try.prog 3 #[v0, v1, v2] W fun e w' => e = .returned (.bool true) ∧ Below W.heap.size W w' := by
  obtain ⟨oa, a, len, cap, E, rfl, hlc, hcm, hoa, hr⟩ := open_ents o0 h0
  obtain ⟨l, rfl, hF⟩ := open_struct 4 (sh := [.int .i64, .int .i64, .int .u32, .other 24]) Try.underlying26 (by kernel_rfl) (by kernel_rfl) o1 h1
  obtain ⟨pf, l1, rfl, _, hF⟩ := hF.int
  obtain ⟨pt, l2, rfl, _, hF⟩ := hF.int
  obtain ⟨pg, l3, rfl, _, hF⟩ := hF.int
  obtain ⟨vc, l4, rfl, hc, hF⟩ := hF.other
  obtain rfl := hF.nil
  obtain ⟨oc, ca, cn, cc, EK, rfl, hK⟩ := kr_of (open_rowT 4 (sh := [.int .i64, .int .i64, .int .u32, .int .i64, .int .i64, .int .u32, .str, .int .u32, .int .u32, .int .i64, .int .i64, .other 61, .other 62, .other 63, .other 48]) Try.underlying24 (by kernel_rfl) (by kernel_rfl) (by decide) hc)
  obtain ⟨m, rfl, _⟩ := open_bool Try.underlying4 o2 h2
  exact owner_law oa a len cap E m pf pt pg oc ca cn cc EK W hlc hcm hoa hr hK
end Go.Proofs.Ythjhiogbnacmdaa.aud
