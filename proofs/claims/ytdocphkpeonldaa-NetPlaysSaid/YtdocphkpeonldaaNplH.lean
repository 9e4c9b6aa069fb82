/- Layer 31: whatever is put, taken, doubled and bent; the arguments opened. -/
import Derived.Test.YtdocphkpeonldaaNplG
namespace Go.Proofs.Ytdocphkpeonldaa.npl
open Go.ChangeShapes Go.WideShapes Go.ChangeAt Go.RowKit kit storm
set_option maxRecDepth 100000
theorem plays_open {H : Type} {enc : TypeId × Value → H} {W : World} {base : Nat} {v1 : Value} {d1 : DataW H} {p1 : List MemPlace}
    (o1 : Value.okWide Try.prog W .any base 109 v1) (h1 : DataW.Trod enc Try.prog W 0 (fun _ => true) true 109 v1 d1 p1) :
    Calls Try.prog 12 #[v1] W fun e w' => e = .returned (.bool true) ∧ Below W.heap.size W w' := by
  rcases open_row 5 (sh := [.int .i64, .int .i64, .int .i64, .int .u32, .int .u32, .str, .bool, .int .i64, .int .i64]) Try.underlying109 (by kernel_rfl) (by kernel_rfl) (by decide) o1 h1 with rfl | ⟨a, len, cap, C, rfl, hlc, hcm, hab, hC⟩
  · exact plays_walk none ⟨0, 0, none⟩ 0 0 (fun _ => ac0) W (Nat.le_refl _) (Nat.zero_le _) (fun h => absurd h (Nat.lt_irrefl 0)) ⟨fun h => absurd h (Nat.lt_irrefl 0), fun i hi => absurd hi (Nat.not_lt_zero i)⟩ (fun i hi => absurd hi (Nat.not_lt_zero i))
  · have hx : ∀ i, ∃ x : Ac, i < len → (∀ (j : Nat) u, (ar x)[j]? = some u → W.cell? ((a.add (i * 9)).add j) = some u) ∧ x.x.s.size ≤ maxLen := by
      intro i
      by_cases hi : i < len
      · obtain ⟨hF, hc⟩ := hC i hi
        obtain ⟨x1, t1, e1, _, F1⟩ := hF.int
        obtain ⟨x2, t2, e2, _, F2⟩ := F1.int
        obtain ⟨x3, t3, e3, _, F3⟩ := F2.int
        obtain ⟨x4, t4, e4, _, F4⟩ := F3.int
        obtain ⟨x5, t5, e5, _, F5⟩ := F4.int
        obtain ⟨x6, t6, e6, w6, F6⟩ := F5.str
        obtain ⟨x7, t7, e7, F7⟩ := F6.bool
        obtain ⟨x8, t8, e8, _, F8⟩ := F7.int
        obtain ⟨x9, t9, e9, _, F9⟩ := F8.int
        have e10 := F9.nil
        refine ⟨⟨x1, ⟨x2, x3, x4, x5, x6, x7⟩, x8, x9⟩, fun _ => ⟨fun j u hu => ?_, w6⟩⟩
        have := hc j u (by rw [e1, e2, e3, e4, e5, e6, e7, e8, e9, e10]; simpa [ar] using hu)
        rw [Addr.add_add]
        exact this
      · exact ⟨ac0, fun h => absurd h hi⟩
    have hs := fun i => Classical.choose_spec (hx i)
    exact plays_walk (some a) a len cap (fun i => Classical.choose (hx i)) W hlc hcm (fun _ => rfl) ⟨hab, fun i hi => (hs i hi).1⟩ (fun i hi => (hs i hi).2)
end Go.Proofs.Ytdocphkpeonldaa.npl
