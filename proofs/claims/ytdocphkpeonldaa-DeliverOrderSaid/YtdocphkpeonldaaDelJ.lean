/- Layer 18: the arguments opened (DeliverOrder). -/
import Derived.Test.YtdocphkpeonldaaDelI
namespace Go.Proofs.Ytdocphkpeonldaa.del
open Go.ChangeShapes Go.WideShapes Go.ChangeAt Go.RowKit kit
set_option maxRecDepth 100000

theorem order_open {H : Type} {enc : TypeId × Value → H} {W : World} {base : Nat} {v0 : Value} {d0 : DataW H} {p0 : List MemPlace}
    (o0 : Value.okWide Try.prog W .any base 122 v0) (h0 : DataW.Trod enc Try.prog W 0 (fun _ => true) true 122 v0 d0 p0) :
    Calls Try.prog 13 #[v0] W fun e w' => e = .returned (.bool true) ∧ Below W.heap.size W w' := by
  rcases open_row 2 (sh := [.int .u8]) Try.underlying122 (by kernel_rfl) (by kernel_rfl) (by decide) o0 h0 with rfl | ⟨a, len, cap, C, rfl, hlc, hcm, hab, hC⟩
  · exact order_walk none ⟨0, 0, none⟩ 0 0 (fun _ => 0) W (Nat.le_refl _) (Nat.zero_le _) (fun h => absurd h (by omega)) (fun h => absurd h (by omega)) (fun i h => absurd h (by omega))
  · have hx : ∀ i, ∃ x : Nat, i < len → x ≤ 255 ∧ W.cell? (a.add i) = some (.int .u8 x) := by
      intro i
      by_cases hi : i < len
      · obtain ⟨hF, hc⟩ := hC i hi
        obtain ⟨x, t, e, wf, hF'⟩ := hF.int
        have hb : IntKind.u8.min ≤ x ∧ x ≤ IntKind.u8.max := by simpa [Lit.wf] using wf
        have hb : 0 ≤ x ∧ x ≤ 255 := hb
        obtain ⟨y, rfl⟩ : ∃ y : Nat, x = y := ⟨x.toNat, by omega⟩
        refine ⟨y, fun _ => ⟨by omega, ?_⟩⟩
        have := hc 0 (.int .u8 y) (by rw [e]; rfl)
        simpa using this
      · exact ⟨0, fun h => absurd h hi⟩
    have hs := fun i => Classical.choose_spec (hx i)
    exact order_walk (some a) a len cap (fun i => Classical.choose (hx i)) W hlc hcm (fun _ => rfl) hab (fun i hi => hs i hi)
end Go.Proofs.Ytdocphkpeonldaa.del
