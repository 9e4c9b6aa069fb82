/- Layer 20: the arguments opened (SendqPlays). -/
import Derived.Test.YthddacgdmngfhaaSqI
namespace Go.Proofs.Ythddacgdmngfhaa.fra
open Go.ChangeShapes Go.WideShapes Go.ChangeAt Go.RowKit kit
set_option maxRecDepth 100000
theorem open_aqs {H : Type} {enc : TypeId × Value → H} {W : World} {base : Nat} {v1 : Value} {d1 : DataW H} {p1 : List MemPlace}
    (o1 : Value.okWide Try.prog W .any base 22 v1) (h1 : DataW.Trod enc Try.prog W 0 (fun _ => true) true 22 v1 d1 p1) :
    ∃ (oa : Option Addr) (a : Addr) (len cap : Nat) (E : Nat → Aq), v1 = .slice oa len cap ∧ len ≤ cap ∧ cap ≤ maxLen ∧ (0 < len → oa = some a) ∧ (0 < len → a.block < W.heap.size) ∧ (∀ i, i < len → ∀ (j : Nat) u, (aqc (E i))[j]? = some u → W.cell? ((a.add (i * 8)).add j) = some u) ∧ ∀ i, i < len → (E i).d.size ≤ maxLen ∧ (E i).un ≤ 9223372036854775807 := by
  rcases open_row 4 (sh := [.int .i64, .int .i64, .int .i64, .bool, .int .u32, .str, .int .i64, .int .i64]) Try.underlying22 (by kernel_rfl) (by kernel_rfl) (by decide) o1 h1 with rfl | ⟨a, len, cap, C, rfl, hlc, hcm, hab, hC⟩
  · exact ⟨none, ⟨0, 0, none⟩, 0, 0, fun _ => ⟨0, 0, 0, false, 0, ⟨#[]⟩, 0, 0⟩, rfl, Nat.le_refl _, Nat.zero_le _, fun h => absurd h (Nat.lt_irrefl 0), fun h => absurd h (Nat.lt_irrefl 0), fun i hi => absurd hi (Nat.not_lt_zero i), fun i hi => absurd hi (Nat.not_lt_zero i)⟩
  · have hx : ∀ i, ∃ x : Aq, i < len → (∀ (j : Nat) u, (aqc x)[j]? = some u → W.cell? ((a.add (i * 8)).add j) = some u) ∧ x.d.size ≤ maxLen ∧ x.un ≤ 9223372036854775807 := by
      intro i
      by_cases hi : i < len
      · obtain ⟨hF, hc⟩ := hC i hi
        obtain ⟨x1, t1, e1, _, F1⟩ := hF.int
        obtain ⟨x2, t2, e2, _, F2⟩ := F1.int
        obtain ⟨x3, t3, e3, _, F3⟩ := F2.int
        obtain ⟨x4, t4, e4, F4⟩ := F3.bool
        obtain ⟨x5, t5, e5, _, F5⟩ := F4.int
        obtain ⟨x6, t6, e6, w6, F6⟩ := F5.str
        obtain ⟨x7, t7, e7, _, F7⟩ := F6.int
        obtain ⟨x8, t8, e8, b8, F8⟩ := F7.int
        have e9 := F8.nil
        have hb8 : x8 ≤ 9223372036854775807 := by
          have hb : IntKind.i64.min ≤ x8 ∧ x8 ≤ IntKind.i64.max := by simpa [Lit.wf] using b8
          exact hb.2
        refine ⟨⟨x1, x2, x3, x4, x5, x6, x7, x8⟩, fun _ => ⟨fun j u hu => ?_, w6, hb8⟩⟩
        have := hc j u (by rw [e1, e2, e3, e4, e5, e6, e7, e8, e9]; simpa [aqc] using hu)
        rw [Addr.add_add]
        exact this
      · exact ⟨⟨0, 0, 0, false, 0, ⟨#[]⟩, 0, 0⟩, fun h => absurd h hi⟩
    have hs := fun i => Classical.choose_spec (hx i)
    exact ⟨some a, a, len, cap, fun i => Classical.choose (hx i), rfl, hlc, hcm, fun _ => rfl, hab, fun i hi => (hs i hi).1, fun i hi => (hs i hi).2⟩
theorem sqplays_open {H : Type} {enc : TypeId × Value → H} {W : World} {base : Nat} {v0 v1 : Value} {d0 d1 : DataW H} {p0 p1 : List MemPlace}
    (o0 : Value.okWide Try.prog W .any base 3 v0) (o1 : Value.okWide Try.prog W .any base 22 v1) (h0 : DataW.Trod enc Try.prog W 0 (fun _ => true) true 3 v0 d0 p0) (h1 : DataW.Trod enc Try.prog W 0 (fun _ => true) true 22 v1 d1 p1) :
    Calls Try.prog 3 #[v0, v1] W fun e w' => e = .returned (.bool true) ∧ Below W.heap.size W w' := by
  obtain ⟨b, rfl, _, _, _⟩ := open_int Try.underlying3 o0 h0
  obtain ⟨oa, a, len, cap, E, rfl, hlc, hcm, hoa, hr, hE, hs⟩ := open_aqs o1 h1
  exact plays_walk b oa a len cap E W hlc hcm hoa hr hE hs
end Go.Proofs.Ythddacgdmngfhaa.fra
