/- Layer 36: a record of acts has the document's bytes; the arguments opened. -/
import Derived.Test.YtdocphkpeonldaaTrK
namespace Go.Proofs.Ytdocphkpeonldaa.tra
open Go.ChangeShapes Go.WideShapes Go.ChangeAt Go.RowKit kit oct
set_option maxRecDepth 100000
theorem open_acts {H : Type} {enc : TypeId × Value → H} {W : World} {base : Nat} {v1 : Value} {d1 : DataW H} {p1 : List MemPlace}
    (o1 : Value.okWide Try.prog W .any base 82 v1) (h1 : DataW.Trod enc Try.prog W 0 (fun _ => true) true 82 v1 d1 p1) :
    ∃ (oa : Option Addr) (a : Addr) (len cap : Nat) (E : Nat → An), v1 = .slice oa len cap ∧ len ≤ cap ∧ cap ≤ maxLen ∧ (0 < len → oa = some a) ∧ RowE W a len E ∧ ∀ i, i < len → (E i).s.size ≤ maxLen := by
  rcases open_row 4 (sh := [.int .i64, .int .i64, .int .i64, .int .i64, .int .i64, .int .i64, .int .i64, .int .i64, .str]) Try.underlying82 (by kernel_rfl) (by kernel_rfl) (by decide) o1 h1 with rfl | ⟨a, len, cap, C, rfl, hlc, hcm, hab, hC⟩
  · exact ⟨none, ⟨0, 0, none⟩, 0, 0, fun _ => an0, rfl, Nat.le_refl _, Nat.zero_le _, fun h => absurd h (Nat.lt_irrefl 0), ⟨fun h => absurd h (Nat.lt_irrefl 0), fun i hi => absurd hi (Nat.not_lt_zero i)⟩, fun i hi => absurd hi (Nat.not_lt_zero i)⟩
  · have hx : ∀ i, ∃ x : An, i < len → (∀ (j : Nat) u, x.cells[j]? = some u → W.cell? ((a.add (i * 9)).add j) = some u) ∧ x.s.size ≤ maxLen := by
      intro i
      by_cases hi : i < len
      · obtain ⟨hF, hc⟩ := hC i hi
        obtain ⟨x1, t1, e1, _, F1⟩ := hF.int
        obtain ⟨x2, t2, e2, _, F2⟩ := F1.int
        obtain ⟨x3, t3, e3, _, F3⟩ := F2.int
        obtain ⟨x4, t4, e4, _, F4⟩ := F3.int
        obtain ⟨x5, t5, e5, _, F5⟩ := F4.int
        obtain ⟨x6, t6, e6, _, F6⟩ := F5.int
        obtain ⟨x7, t7, e7, _, F7⟩ := F6.int
        obtain ⟨x8, t8, e8, _, F8⟩ := F7.int
        obtain ⟨x9, t9, e9, w9, F9⟩ := F8.str
        have e10 := F9.nil
        refine ⟨⟨x1, x2, x3, x4, x5, x6, x7, x8, x9⟩, fun _ => ⟨fun j u hu => ?_, w9⟩⟩
        have := hc j u (by rw [e1, e2, e3, e4, e5, e6, e7, e8, e9, e10]; simpa [An.cells] using hu)
        rw [Addr.add_add]
        exact this
      · exact ⟨an0, fun h => absurd h hi⟩
    have hs := fun i => Classical.choose_spec (hx i)
    exact ⟨some a, a, len, cap, fun i => Classical.choose (hx i), rfl, hlc, hcm, fun _ => rfl, ⟨hab, fun i hi => (hs i hi).1⟩, fun i hi => (hs i hi).2⟩
theorem bytes36_open {H : Type} {enc : TypeId × Value → H} {W : World} {base : Nat} {v0 : Value} {d0 : DataW H} {p0 : List MemPlace}
    (o0 : Value.okWide Try.prog W .any base 82 v0) (h0 : DataW.Trod enc Try.prog W 0 (fun _ => true) true 82 v0 d0 p0) :
    Calls Try.prog 9 #[v0] W fun e w' => e = .returned (.bool true) ∧ Below W.heap.size W w' := by
  obtain ⟨oa, a, len, cap, E, rfl, hlc, hcm, hoa, hr, hE⟩ := open_acts o0 h0
  exact bytes36_law oa a len cap E W hlc hcm hoa hr hE
end Go.Proofs.Ytdocphkpeonldaa.tra
