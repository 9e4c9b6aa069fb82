/- Layer 17: the arguments opened (ReasmPlays). -/
import Derived.Test.YthddacgdmngfhaaRpG
namespace Go.Proofs.Ythddacgdmngfhaa.rea
open Go.ChangeShapes Go.WideShapes Go.ChangeAt Go.RowKit kit
set_option maxRecDepth 100000
theorem open_pzs {H : Type} {enc : TypeId × Value → H} {W : World} {base : Nat} {v1 : Value} {d1 : DataW H} {p1 : List MemPlace}
    (o1 : Value.okWide Try.prog W .any base 96 v1) (h1 : DataW.Trod enc Try.prog W 0 (fun _ => true) true 96 v1 d1 p1) :
    ∃ (oa : Option Addr) (a : Addr) (len cap : Nat) (E : Nat → Pz), v1 = .slice oa len cap ∧ len ≤ cap ∧ cap ≤ maxLen ∧ (0 < len → oa = some a) ∧ (0 < len → a.block < W.heap.size) ∧ (∀ i, i < len → ∀ (j : Nat) u, (pzc (E i))[j]? = some u → W.cell? ((a.add (i * 4)).add j) = some u) ∧ ∀ i, i < len → (E i).d.size ≤ maxLen := by
  rcases open_row 4 (sh := [.int .i64, .int .i64, .int .i64, .str]) Try.underlying96 (by kernel_rfl) (by kernel_rfl) (by decide) o1 h1 with rfl | ⟨a, len, cap, C, rfl, hlc, hcm, hab, hC⟩
  · exact ⟨none, ⟨0, 0, none⟩, 0, 0, fun _ => ⟨0, 0, 0, ⟨#[]⟩⟩, rfl, Nat.le_refl _, Nat.zero_le _, fun h => absurd h (Nat.lt_irrefl 0), fun h => absurd h (Nat.lt_irrefl 0), fun i hi => absurd hi (Nat.not_lt_zero i), fun i hi => absurd hi (Nat.not_lt_zero i)⟩
  · have hx : ∀ i, ∃ x : Pz, i < len → (∀ (j : Nat) u, (pzc x)[j]? = some u → W.cell? ((a.add (i * 4)).add j) = some u) ∧ x.d.size ≤ maxLen := by
      intro i
      by_cases hi : i < len
      · obtain ⟨hF, hc⟩ := hC i hi
        obtain ⟨x1, t1, e1, _, F1⟩ := hF.int
        obtain ⟨x2, t2, e2, _, F2⟩ := F1.int
        obtain ⟨x3, t3, e3, _, F3⟩ := F2.int
        obtain ⟨x4, t4, e4, w4, F4⟩ := F3.str
        have e9 := F4.nil
        refine ⟨⟨x1, x2, x3, x4⟩, fun _ => ⟨fun j u hu => ?_, w4⟩⟩
        have := hc j u (by rw [e1, e2, e3, e4, e9]; simpa [pzc] using hu)
        rw [Addr.add_add]
        exact this
      · exact ⟨⟨0, 0, 0, ⟨#[]⟩⟩, fun h => absurd h hi⟩
    have hs := fun i => Classical.choose_spec (hx i)
    exact ⟨some a, a, len, cap, fun i => Classical.choose (hx i), rfl, hlc, hcm, fun _ => rfl, hab, fun i hi => (hs i hi).1, fun i hi => (hs i hi).2⟩
theorem rpplays_open {H : Type} {enc : TypeId × Value → H} {W : World} {base : Nat} {v0 v1 : Value} {d0 d1 : DataW H} {p0 p1 : List MemPlace}
    (o0 : Value.okWide Try.prog W .any base 28 v0) (o1 : Value.okWide Try.prog W .any base 96 v1) (h0 : DataW.Trod enc Try.prog W 0 (fun _ => true) true 28 v0 d0 p0) (h1 : DataW.Trod enc Try.prog W 0 (fun _ => true) true 96 v1 d1 p1) :
    Calls Try.prog 9 #[v0, v1] W fun e w' => e = .returned (.bool true) ∧ Below W.heap.size W w' := by
  obtain ⟨b, rfl, _, _, hb⟩ := open_int Try.underlying28 o0 h0
  have hb' : 0 ≤ b ∧ b < 4294967296 := by
    have hb2 : IntKind.u32.min ≤ b ∧ b ≤ IntKind.u32.max := by simpa [Lit.wf] using hb
    have h1 : IntKind.u32.min = 0 := by decide
    have h2 : IntKind.u32.max = 4294967295 := by decide
    omega
  obtain ⟨T, rfl⟩ : ∃ T : Nat, b = (T : Int) := ⟨b.toNat, by omega⟩
  obtain ⟨oa, a, len, cap, E, rfl, hlc, hcm, hoa, hr, hE, hs⟩ := open_pzs o1 h1
  exact plays_walk T (by omega) oa a len cap E W hlc hcm hoa hr hE hs
end Go.Proofs.Ythddacgdmngfhaa.rea
