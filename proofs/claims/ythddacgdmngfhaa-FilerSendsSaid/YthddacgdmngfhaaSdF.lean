/- Layer 40: the arguments opened (FilerSends). -/
import Derived.Test.YthddacgdmngfhaaSdE
import Derived.Test.YthddacgdmngfhaaTkF
namespace Go.Proofs.Ythddacgdmngfhaa.fil
open Go.ChangeShapes Go.WideShapes Go.ChangeAt Go.RowKit kit oct byt
set_option maxRecDepth 100000

theorem open_strs {H : Type} {enc : TypeId × Value → H} {W : World} {base : Nat} {v0 : Value} {d0 : DataW H} {p0 : List MemPlace}
    (o0 : Value.okWide Try.prog W .any base 51 v0) (h0 : DataW.Trod enc Try.prog W 0 (fun _ => true) true 51 v0 d0 p0) :
    ∃ (oa : Option Addr) (a : Addr) (len cap : Nat) (v : Nat → ByteArray), v0 = .slice oa len cap ∧ len ≤ cap ∧ cap ≤ maxLen ∧ (0 < len → oa = some a) ∧ (0 < len → a.block < W.heap.size) ∧ ∀ i, i < len → W.cell? (a.add i) = some (.string (v i)) ∧ (v i).size ≤ maxLen := by
  rcases open_row 2 (sh := [.str]) Try.underlying51 (by kernel_rfl) (by kernel_rfl) (by decide) o0 h0 with rfl | ⟨a, len, cap, C, rfl, hlc, hcm, hab, hC⟩
  · exact ⟨none, ⟨0, 0, none⟩, 0, 0, fun _ => ⟨#[]⟩, rfl, Nat.le_refl _, Nat.zero_le _, fun h => absurd h (by omega), fun h => absurd h (by omega), fun i h => absurd h (by omega)⟩
  · have hx : ∀ i, ∃ x : ByteArray, i < len → W.cell? (a.add i) = some (.string x) ∧ x.size ≤ maxLen := by
      intro i
      by_cases hi : i < len
      · obtain ⟨hF, hc⟩ := hC i hi
        obtain ⟨x, t, e, hsz, hF'⟩ := hF.str
        refine ⟨x, fun _ => ⟨?_, hsz⟩⟩
        have := hc 0 (.string x) (by rw [e]; rfl)
        simpa using this
      · exact ⟨⟨#[]⟩, fun h => absurd h hi⟩
    have hs := fun i => Classical.choose_spec (hx i)
    exact ⟨some a, a, len, cap, fun i => Classical.choose (hx i), rfl, hlc, hcm, fun _ => rfl, hab, fun i hi => hs i hi⟩
theorem sends_open {H : Type} {enc : TypeId × Value → H} {W : World} {base : Nat} {v0 v1 : Value} {d0 d1 : DataW H} {p0 p1 : List MemPlace}
    (o0 : Value.okWide Try.prog W .any base 51 v0) (o1 : Value.okWide Try.prog W .any base 25 v1) (h0 : DataW.Trod enc Try.prog W 0 (fun _ => true) true 51 v0 d0 p0) (h1 : DataW.Trod enc Try.prog W 0 (fun _ => true) true 25 v1 d1 p1) :
    Calls Try.prog 4 #[v0, v1] W fun e w' => e = .returned (.bool true) ∧ Below W.heap.size W w' := by
  obtain ⟨ol, al, nl, cl, sv, rfl, h1l, h2l, h3l, h4l, h5l⟩ := open_strs o0 h0
  obtain ⟨oz, az, nz, cz, zv, rfl, h1z, h2z, h3z, h4z, h5z⟩ := open_nums o1 h1
  exact sends_walk ol al nl cl sv oz az nz cz zv W h1l h2l h3l h4l h5l h1z h2z h3z h4z h5z
end Go.Proofs.Ythddacgdmngfhaa.fil
