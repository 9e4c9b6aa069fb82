/- Layer 18: a message put, by the program and by the document. -/
import Derived.Test.YthddacgdmngfhaaDvJ
namespace Go.Proofs.Ythddacgdmngfhaa.del
open Go.Sort (grow)
open Go.ChangeShapes Go.WideShapes Go.ChangeAt Go.RowKit kit
set_option maxRecDepth 100000
theorem both_put {G g : Nat} {Z : List (Nat × Nat)} {W O : List Mg} (hZ : Z.length ≤ 16) (hlen : W.length + O.length ≤ 100) (hbt : btm W + btm O ≤ 1000) (hdr : Dr Z W) (hzl : ∀ z ∈ Z, z.1 < 65536) (x : Mg) (hx : x.d.size ≤ 5) :
    ∃ (ok : Bool) (Z' : List (Nat × Nat)) (W' O' : List Mg), Z'.length = Z.length ∧ W'.length + O'.length ≤ W.length + O.length + 1 ∧ btm W' + btm O' ≤ btm W + btm O + 5 ∧ Dr Z' W' ∧ (∀ z ∈ Z', ∃ y ∈ Z, y.2 = z.2)
      ∧ (∀ (w : World) (nv wv ov : Value), Qo w G 1 nv (Z.map (·.1)).length (cellsN (Z.map (·.1))) → Qo w G 5 wv W.length (cellsM W) → Qo w G 5 ov O.length (cellsM O) → G ≤ w.heap.size →
          Calls Try.prog 53 #[.agg #[nv, wv, ov], .agg (mgc x)] w (RPut G nv wv ov w ok (Z'.map (·.1)) W' O'))
      ∧ (∀ (w : World) (sv rv : Value), Dw G g sv rv (btm W + btm O) Z W O w → Calls Try.prog 54 #[.pointer (some ⟨g, 0, none⟩), .agg (mgc x)] w fun e w' => e = .returned (.bool ok) ∧ (∃ rv', Dw G g sv rv' (btm W' + btm O') Z' W' O' w' ∧ Keep g sv rv Z rv' w w') ∧ Below G w w') := by
  obtain ⟨K, ss, lo, pr, d⟩ := x
  have hdd : d.size ≤ 5 := hx
  have hl : (Z.map (·.1)).length = Z.length := List.length_map _
  by_cases hk : K < 0 ∨ (Z.length : Int) ≤ K
  · refine ⟨false, Z, W, O, rfl, by omega, by omega, hdr, fun z hz => ⟨z, hz, rfl⟩, fun w nv wv ov n v o _ => rput_out n v o K ss pr lo d (by rw [hl]; exact hk), fun w sv rv D => (dw_out D K ss pr lo d hk).mono fun e w' h => ?_⟩
    have hG : G ≤ w.heap.size := by have := D.hg; have := D.B.lt; omega
    exact ⟨h.1, ⟨rv, D.below h.2 (Nat.le_refl _), Keep.of_below h.2⟩, h.2.mono hG⟩
  obtain ⟨k, rfl⟩ : ∃ k : Nat, K = (k : Int) := ⟨K.toNat, by omega⟩
  have hkl : k < Z.length := by omega
  obtain ⟨z, hz⟩ : ∃ z, Z[k]? = some z := ⟨_, List.getElem?_eq_getElem hkl⟩
  have hz1 : z.1 < 65536 := hzl z (List.mem_of_getElem? hz)
  have hkN : k < (Z.map (·.1)).length := by rw [hl]; exact hkl
  have hNk : (Z.map (·.1))[k] = z.1 := by
    have h := (List.getElem?_eq_some_iff.1 hz).2
    rw [List.getElem_map, h]
  have hN : ∀ p ∈ Z.map (·.1), p < 65536 := fun p hp => by
    obtain ⟨y, hy, rfl⟩ := List.mem_map.1 hp
    exact hzl y hy
  cases lo with
  | true =>
    refine ⟨true, Z, W, O ++ [⟨(k : Int), ss, true, pr, d⟩], rfl, by rw [List.length_append]; simp; omega, by rw [btm_append]; simp only [btm]; omega, hdr, fun z hz => ⟨z, hz, rfl⟩, fun w nv wv ov n v o hG => rput_loose n v o hG k hkN ss pr d (by omega), fun w sv rv D => (dw_loose D hz ss pr d (by omega) (by omega) (by omega) (hdr k z hz)).mono fun e w' h => ⟨h.1, ?_, h.2.2⟩⟩
    have e1 : btm W + btm (O ++ [(⟨(k : Int), ss, true, pr, d⟩ : Mg)]) = btm W + btm O + d.size := by rw [btm_append]; simp only [btm]; omega
    rw [e1]
    exact h.2.1
  | false =>
    have hord := fun w nv wv ov (n : Qo w G 1 nv (Z.map (·.1)).length (cellsN (Z.map (·.1)))) (v : Qo w G 5 wv W.length (cellsM W)) (o : Qo w G 5 ov O.length (cellsM O)) (hG : G ≤ w.heap.size) => rput_ord n v o hG k hkN ss pr d (by omega) hN (by rw [hl]; omega)
    rw [hNk] at hord
    by_cases hc : 32768 < far16 (plc ⟨(k : Int), ss, false, pr, d⟩) z.1 ∨ ∃ y ∈ ofS k W, plc y = plc ⟨(k : Int), ss, false, pr, d⟩
    · refine ⟨false, Z, W, O, rfl, by omega, by omega, hdr, fun z hz => ⟨z, hz, rfl⟩, fun w nv wv ov n v o hG => (hord w nv wv ov n v o hG).mono fun e w' h => h.1 hc, fun w sv rv D => (dw_no D hz ss pr d hc).mono fun e w' h => ?_⟩
      have hG : G ≤ w.heap.size := by have := D.hg; have := D.B.lt; omega
      exact ⟨h.1, ⟨rv, D.below h.2 (Nat.le_refl _), Keep.of_below h.2⟩, h.2.mono hG⟩
    · have hps := passes_len (s := k) (z.1, W ++ [(⟨(k : Int), ss, false, pr, d⟩ : Mg)], O) (W.length + 2)
      have hpb := passes_btm k (z.1, W ++ [(⟨(k : Int), ss, false, pr, d⟩ : Mg)], O) (W.length + 2)
      have hps' : (passes k (W.length + 2) (z.1, W ++ [(⟨(k : Int), ss, false, pr, d⟩ : Mg)], O)).2.1.length + (passes k (W.length + 2) (z.1, W ++ [(⟨(k : Int), ss, false, pr, d⟩ : Mg)], O)).2.2.length = W.length + 1 + O.length := by
        rw [hps]; show (W ++ _).length + O.length = _; rw [List.length_append]; rfl
      have hpb' : btm (passes k (W.length + 2) (z.1, W ++ [(⟨(k : Int), ss, false, pr, d⟩ : Mg)], O)).2.1 + btm (passes k (W.length + 2) (z.1, W ++ [(⟨(k : Int), ss, false, pr, d⟩ : Mg)], O)).2.2 = btm W + btm O + d.size := by
        rw [hpb]; show btm (W ++ _) + btm O = _; rw [btm_append]; simp only [btm]; omega
      refine ⟨true, Z.set k ((passes k (W.length + 2) (z.1, W ++ [(⟨(k : Int), ss, false, pr, d⟩ : Mg)], O)).1, z.2), (passes k (W.length + 2) (z.1, W ++ [(⟨(k : Int), ss, false, pr, d⟩ : Mg)], O)).2.1, (passes k (W.length + 2) (z.1, W ++ [(⟨(k : Int), ss, false, pr, d⟩ : Mg)], O)).2.2, by rw [List.length_set], by omega, by omega, hdr.set hz _ rfl O _ rfl, fun y hy => ?_, fun w nv wv ov n v o hG => (hord w nv wv ov n v o hG).mono fun e w' h => ?_, fun w sv rv D => (dw_new D hz ss pr d (by omega) (by omega) (by omega) (by omega) (fun y hy e => hc (.inr ⟨y, hy, e⟩))).mono fun e w' h => ⟨h.1, ?_, h.2.2⟩⟩
      · rcases List.mem_or_eq_of_mem_set hy with h | h
        · exact ⟨y, h, rfl⟩
        · exact ⟨z, List.mem_of_getElem? hz, by rw [h]⟩
      · have := h.2 hc
        rw [List.map_set]
        exact this
      · rw [hpb']
        exact h.2.1
end Go.Proofs.Ythddacgdmngfhaa.del
