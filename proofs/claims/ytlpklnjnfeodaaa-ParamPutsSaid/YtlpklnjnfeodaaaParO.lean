/- Layer 4: arguments opened. -/
import Derived.Test.YtlpklnjnfeodaaaFind
namespace Go.Proofs.Ytlpklnjnfeodaaa.par
open Go.ChangeShapes Go.WideShapes Go.ChangeAt Go.RowKit kit oct
set_option maxRecDepth 100000

theorem open_u32 {H : Type} {enc : TypeId × Value → H} {W : World} {base : Nat} {v0 : Value} {d0 : DataW H} {p0 : List MemPlace}
    (o0 : Value.okWide Try.prog W .any base 37 v0) (h0 : DataW.Trod enc Try.prog W 0 (fun _ => true) true 37 v0 d0 p0) : ∃ n : Nat, v0 = .int .u32 n ∧ n ≤ 4294967295 := by
  obtain ⟨n, rfl, _, _, wn⟩ := open_int Try.underlying37 o0 h0
  obtain ⟨h1, h2⟩ := bounds_u32 wn
  exact ⟨n.toNat, by congr 1; omega, by omega⟩
theorem open_param {H : Type} {enc : TypeId × Value → H} {W : World} {base : Nat} {v0 : Value} {d0 : DataW H} {p0 : List MemPlace}
    (o0 : Value.okWide Try.prog W .any base 23 v0) (h0 : DataW.Trod enc Try.prog W 0 (fun _ => true) true 23 v0 d0 p0) : ∃ (t : Int) (s : ByteArray), v0 = .agg #[.int .i64 t, .string s] ∧ s.size ≤ maxLen ∧ -9223372036854775808 ≤ t ∧ t ≤ 9223372036854775807 := by
  obtain ⟨l, rfl, F0⟩ := open_struct 4 (sh := [.int .i64, .str]) Try.underlying23 (by kernel_rfl) (by kernel_rfl) o0 h0
  obtain ⟨t, l0, rfl, wt, F1⟩ := F0.int
  obtain ⟨s, l1, rfl, hs, F2⟩ := F1.str
  obtain rfl := F2.nil
  exact ⟨t, s, rfl, hs, (bounds_i64 wt).1, (bounds_i64 wt).2⟩

theorem tagged_open {H : Type} {enc : TypeId × Value → H} {W : World} {base : Nat} {v0 v1 v2 : Value} {d0 d1 d2 : DataW H} {p0 p1 p2 : List MemPlace}
    (o0 : Value.okWide Try.prog W .any base 23 v0) (o1 : Value.okWide Try.prog W .any base 37 v1) (o2 : Value.okWide Try.prog W .any base 52 v2) (h0 : DataW.Trod enc Try.prog W 0 (fun _ => true) true 23 v0 d0 p0) (h1 : DataW.Trod enc Try.prog W 0 (fun _ => true) true 37 v1 d1 p1) (h2 : DataW.Trod enc Try.prog W 0 (fun _ => true) true 52 v2 d2 p2) :
    Calls Try.prog 7 #[v0, v1, v2] W fun e w' => e = .returned (.bool true) ∧ Below W.heap.size W w' := by
  obtain ⟨t, s, rfl, hs, _, _⟩ := open_param o0 h0
  obtain ⟨id, rfl, hid⟩ := open_u32 o1 h1
  obtain ⟨l, rfl, F0⟩ := open_array 3 (sh := [.int .u32, .int .u32]) Try.underlying52 (by kernel_rfl) (by kernel_rfl) o2 h2
  obtain ⟨a, l0, rfl, wa, F1⟩ := F0.int
  obtain ⟨b, l1, rfl, wb, F2⟩ := F1.int
  obtain rfl := F2.nil
  obtain ⟨a0, a1⟩ := bounds_u32 wa
  obtain ⟨b0, b1⟩ := bounds_u32 wb
  obtain ⟨x, rfl⟩ : ∃ x : Nat, a = x := ⟨a.toNat, by omega⟩
  obtain ⟨y, rfl⟩ : ∃ y : Nat, b = y := ⟨b.toNat, by omega⟩
  exact tagged_law t s id x y W hs hid (by omega) (by omega)

theorem finds_open {H : Type} {enc : TypeId × Value → H} {W : World} {base : Nat} {v0 v1 : Value} {d0 d1 : DataW H} {p0 p1 : List MemPlace}
    (o0 : Value.okWide Try.prog W .any base 25 v0) (o1 : Value.okWide Try.prog W .any base 3 v1) (h0 : DataW.Trod enc Try.prog W 0 (fun _ => true) true 25 v0 d0 p0) (h1 : DataW.Trod enc Try.prog W 0 (fun _ => true) true 3 v1 d1 p1) :
    Calls Try.prog 4 #[v0, v1] W fun e w' => e = .returned (.bool true) ∧ Below W.heap.size W w' := by
  obtain ⟨t, rfl, _, _, _⟩ := open_int Try.underlying3 o1 h1
  rcases open_row 3 (sh := [.int .i64, .str]) Try.underlying25 (by kernel_rfl) (by kernel_rfl) (by decide) o0 h0 with rfl | ⟨a, len, cap, C, rfl, hlc, hcm, hab, hC⟩
  · exact finds_nil t W
  · have hx : ∀ i, ∃ x : Int × ByteArray, i < len → W.cell? (a.add (i * 2)) = some (.int .i64 x.1) ∧ W.cell? { block := (a.add (i * 2)).block, off := (a.add (i * 2)).off + 1 } = some (.string x.2) := by
      intro i
      by_cases hi : i < len
      · obtain ⟨hF, hc⟩ := hC i hi
        obtain ⟨x, t, e, hw, hF'⟩ := hF.int
        obtain ⟨y, t', e', hw', hF''⟩ := hF'.str
        refine ⟨(x, y), fun _ => ⟨?_, ?_⟩⟩
        · have := hc 0 (.int .i64 x) (by rw [e]; rfl)
          simpa using this
        · have := hc 1 (.string y) (by rw [e, e']; rfl)
          rw [show ({ block := (a.add (i * 2)).block, off := (a.add (i * 2)).off + 1 } : Addr) = (a.add (i * 2)).add 1 from rfl, Addr.add_add]
          simpa using this
      · exact ⟨(0, ByteArray.empty), fun h => absurd h hi⟩
    have hs := fun i => Classical.choose_spec (hx i)
    exact finds_law a len cap (fun i => (Classical.choose (hx i)).1) (fun i => (Classical.choose (hx i)).2) t W hlc hcm ⟨hab, fun i hi => hs i hi⟩
end Go.Proofs.Ytlpklnjnfeodaaa.par
