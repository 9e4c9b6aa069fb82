/- Layer 15: the arguments opened (PathsPlays). -/
import Derived.Test.YthddacgdmngfhaaPpK
namespace Go.Proofs.Ythddacgdmngfhaa.pat
open Go.ChangeShapes Go.WideShapes Go.ChangeAt Go.RowKit kit
set_option maxRecDepth 100000
theorem open_azs {H : Type} {enc : TypeId × Value → H} {W : World} {base : Nat} {v1 : Value} {d1 : DataW H} {p1 : List MemPlace}
    (o1 : Value.okWide Try.prog W .any base 106 v1) (h1 : DataW.Trod enc Try.prog W 0 (fun _ => true) true 106 v1 d1 p1) :
    ∃ (oa : Option Addr) (a : Addr) (len cap : Nat) (E : Nat → Az), v1 = .slice oa len cap ∧ len ≤ cap ∧ cap ≤ maxLen ∧ (0 < len → oa = some a) ∧ (0 < len → a.block < W.heap.size) ∧ (∀ i, i < len → ∀ (j : Nat) u, (azc (E i))[j]? = some u → W.cell? ((a.add (i * 4)).add j) = some u) ∧ ∀ i, i < len → -9223372036854775808 ≤ (E i).n ∧ (E i).n ≤ 9223372036854775807 := by
  rcases open_row 4 (sh := [.int .i64, .int .i64, .int .i64, .int .i64]) Try.underlying106 (by kernel_rfl) (by kernel_rfl) (by decide) o1 h1 with rfl | ⟨a, len, cap, C, rfl, hlc, hcm, hab, hC⟩
  · exact ⟨none, ⟨0, 0, none⟩, 0, 0, fun _ => ⟨0, 0, 0, 0⟩, rfl, Nat.le_refl _, Nat.zero_le _, fun h => absurd h (Nat.lt_irrefl 0), fun h => absurd h (Nat.lt_irrefl 0), fun i hi => absurd hi (Nat.not_lt_zero i), fun i hi => absurd hi (Nat.not_lt_zero i)⟩
  · have hx : ∀ i, ∃ x : Az, i < len → (∀ (j : Nat) u, (azc x)[j]? = some u → W.cell? ((a.add (i * 4)).add j) = some u) ∧ -9223372036854775808 ≤ x.n ∧ x.n ≤ 9223372036854775807 := by
      intro i
      by_cases hi : i < len
      · obtain ⟨hF, hc⟩ := hC i hi
        obtain ⟨x1, t1, e1, _, F1⟩ := hF.int
        obtain ⟨x2, t2, e2, _, F2⟩ := F1.int
        obtain ⟨x3, t3, e3, _, F3⟩ := F2.int
        obtain ⟨x4, t4, e4, w4, F4⟩ := F3.int
        have e9 := F4.nil
        have hn : -9223372036854775808 ≤ x4 ∧ x4 ≤ 9223372036854775807 := by
          have hb2 : IntKind.i64.min ≤ x4 ∧ x4 ≤ IntKind.i64.max := by simpa [Lit.wf] using w4
          have h1 : IntKind.i64.min = -9223372036854775808 := by decide
          have h2 : IntKind.i64.max = 9223372036854775807 := by decide
          omega
        refine ⟨⟨x1, x2, x3, x4⟩, fun _ => ⟨fun j u hu => ?_, hn⟩⟩
        have := hc j u (by rw [e1, e2, e3, e4, e9]; simpa [azc] using hu)
        rw [Addr.add_add]
        exact this
      · exact ⟨⟨0, 0, 0, 0⟩, fun h => absurd h hi⟩
    have hs := fun i => Classical.choose_spec (hx i)
    exact ⟨some a, a, len, cap, fun i => Classical.choose (hx i), rfl, hlc, hcm, fun _ => rfl, hab, fun i hi => (hs i hi).1, fun i hi => (hs i hi).2⟩
theorem ppplays_open {H : Type} {enc : TypeId × Value → H} {W : World} {base : Nat} {v0 : Value} {d0 : DataW H} {p0 : List MemPlace}
    (o0 : Value.okWide Try.prog W .any base 106 v0) (h0 : DataW.Trod enc Try.prog W 0 (fun _ => true) true 106 v0 d0 p0) :
    Calls Try.prog 10 #[v0] W fun e w' => e = .returned (.bool true) ∧ Below W.heap.size W w' := by
  obtain ⟨oa, a, len, cap, E, rfl, hlc, hcm, hoa, hr, hE, hs⟩ := open_azs o0 h0
  exact plays_walk oa a len cap E W hlc hcm hoa hr hE hs
end Go.Proofs.Ythddacgdmngfhaa.pat
