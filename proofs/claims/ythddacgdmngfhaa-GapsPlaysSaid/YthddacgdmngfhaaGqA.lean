/- Layer 16: the document's own words on which numbers came: is one there; what it would be. -/
import Derived.Test.YthddacgdmngfhaaGpC
import Derived.Test.YthddacgdmngfhaaKitQ
namespace Go.Proofs.Ythddacgdmngfhaa.gap
open Go.Sort (grow)
open Go.ChangeShapes Go.WideShapes Go.ChangeAt Go.RowKit kit gapm
set_option maxRecDepth 100000
def cellsF (F : List Nat) : List Value := F.map fun (y : Nat) => Value.int .i64 (y : Int)
theorem cellsF_len (F : List Nat) : (cellsF F).length = F.length * 1 := by simp [cellsF]
theorem cellsF_get {F : List Nat} {k y : Nat} (h : F[k]? = some y) : (cellsF F)[k]? = some (.int .i64 (y : Int)) := by simp [cellsF, h]
theorem cellsF_one (F : List Nat) : ∀ u ∈ cellsF F, u.oneCell' = true := by
  intro u hu
  obtain ⟨y, _, rfl⟩ := List.mem_map.1 hu
  rfl
theorem cellsF_append (F H : List Nat) : cellsF (F ++ H) = cellsF F ++ cellsF H := by simp [cellsF]
def hasB (F : List Nat) (y : Nat) : Bool := F.any fun z => z == y
theorem hasB_iff {F : List Nat} {y : Nat} : hasB F y = true ↔ y ∈ F := by simp [hasB]
theorem qo_cells {w : World} {b0 : Nat} {F : List Nat} {v : Value} (q : Qo w b0 1 v F.length (cellsF F)) : ∃ (h off : Nat) (oa : Option Addr) (cap : Nat), v = .slice oa F.length cap ∧ F.length ≤ cap ∧ cap ≤ maxLen ∧ (0 < F.length → oa = some ⟨h, off, none⟩ ∧ h < w.heap.size ∧ ∀ (k y : Nat), F[k]? = some y → w.cell? ⟨h, off + k, none⟩ = some (.int .i64 (y : Int))) := by
  rcases Nat.eq_zero_or_pos F.length with h0 | h0
  · obtain ⟨oa, cap, e, h1, h2⟩ := q.shape
    exact ⟨0, 0, oa, cap, e, h1, h2, fun h => absurd h (by omega)⟩
  · obtain ⟨g, off, cap, e, h1, h2, h3, h4, h5, h6⟩ := q.show_ h0
    refine ⟨g, off, _, cap, e, h1, h2, fun _ => ⟨rfl, h4, fun k y hy => ?_⟩⟩
    have hk := (List.getElem?_eq_some_iff.1 hy).1
    have K := h6 k #[.int .i64 (y : Int)] hk (by show 1 ≤ 1; omega) (fun j hj => by
      obtain rfl : j = 0 := by simpa using hj
      rw [Nat.mul_one, Nat.add_zero, cellsF_get hy]; rfl)
    rw [Nat.mul_one] at K
    exact K.cell 0 (u := .int .i64 (y : Int)) rfl
set_option maxHeartbeats 2000000 in
theorem has_any {b0 : Nat} {F : List Nat} {fv dv : Value} (cu : Int) (y : Nat) (w : World) (q : Qo w b0 1 fv F.length (cellsF F)) (hn : F.length ≤ 2000) :
    Calls Try.prog 100 #[.agg #[.int .u32 cu, fv, dv], .int .i64 (y : Int)] w fun e w' => e = .returned (.bool (hasB F y)) ∧ Below w.heap.size w w' := by
  obtain ⟨h, off, oa, cap, hfv, hc, hcm, hC⟩ := qo_cells q
  subst hfv
  obtain ⟨n, hLn⟩ : ∃ n, F.length = n := ⟨_, rfl⟩
  unfold maxLen at hcm
  have HH := Lib.hid hC
  rw [hLn] at hn hc ⊢
  have HL := Lib.hid hLn
  obtain ⟨bv, hbv⟩ : ∃ bv, hasB F y = bv := ⟨_, rfl⟩
  rw [hbv]
  have HV := Lib.hid hbv
  clear hC q hLn hbv
  have al := (Below.refl w.heap.size w).alloc (Nat.le_refl _) (.cells #[.int .u32 cu, .slice oa n cap, dv] 72)
  have B1 := Blk.new w 72 #[.int .u32 cu, .slice oa n cap, dv]
  go_enter Try.func100, Try.ntmps100
  go_upto_region 1 with fail
  obtain ⟨w1, hw1⟩ : ∃ w1, w.alloc (.cells #[.int .u32 cu, .slice oa n cap, dv] 72) = w1 := ⟨_, rfl⟩
  rw [hw1] at al B1 ⊢
  clear hw1
  obtain ⟨bx, hbx⟩ : ∃ bx, w.heap.size = bx := ⟨_, rfl⟩
  have hbl := B1.lt
  rw [hbx] at B1 hbl al ⊢
  have HBX := Lib.hid hbx
  clear hbx
  go_wp2_with fail
  go_loopw [5] (fun s5 wr => ∃ k : Nat, k ≤ n ∧ s5 = .int .i64 k ∧ (∀ j z, j < k → F[j]? = some z → z ≠ y) ∧ Below w1.heap.size w1 wr) (fun s5 _ => n - (intOf s5).toNat)
  case atStart => exact ⟨0, by omega, rfl, fun j x h => absurd h (by omega), Below.refl _ _⟩
  case round =>
    obtain ⟨k, hk, rfl, hno, bel⟩ := hrel
    have B2 := B1.below bel hbl
    have c1 : wr.cell? ⟨bx, 1, none⟩ = some (.slice oa n cap) := B2.cell 1
    by_cases hlt : k < n
    · obtain ⟨ho, hh, hC⟩ := HH.out (by rw [HL.out]; omega)
      subst ho
      obtain ⟨z, hz⟩ : ∃ z, F[k]? = some z := ⟨_, List.getElem?_eq_getElem (by rw [HL.out]; exact hlt)⟩
      have k1 : wr.cell? ⟨h, off + k, none⟩ = some (.int .i64 (z : Int)) := by
        have h1 := hC k z hz
        have hh1 := HBX.out
        exact (bel.cell (p := ⟨h, off + k, none⟩) (by show h < _; have := al.size; omega)).trans ((al.cell (p := ⟨h, off + k, none⟩) (by show h < _; omega)).trans h1)
      have HX := Lib.hid (And.intro hz hno)
      have hkn : (k : Int) < (n : Int) := by omega
      clear hz hno hC
      by_cases hzy : (z : Int) = (y : Int)
      · have hv : bv = true := by
          rw [← HV.out]
          exact hasB_iff.2 (by rw [show y = z by omega]; exact List.mem_of_getElem? HX.out.1)
        subst hv
        go_wp2_with fail
        go_ret
        exact ⟨rfl, by rw [HBX.out]; exact al.trans (bel.mono (by have := al.size; omega))⟩
      · go_wp2_with fail
        go_roundw
        case rel =>
          refine ⟨k + 1, by omega, by go_num, fun j x hj hx => ?_, bel⟩
          by_cases hjk : j < k
          · exact HX.out.2 j x hjk hx
          · obtain rfl : j = k := by omega
            obtain rfl : x = z := Option.some.inj (hx.symm.trans HX.out.1)
            intro e
            exact hzy (by omega)
        case measure => simp [intOf]; omega
    · obtain rfl : k = n := by omega
      have hv : bv = false := by
        rw [← HV.out]
        by_cases hm : hasB F y = true
        · obtain ⟨j, hj⟩ := List.mem_iff_getElem?.1 (hasB_iff.1 hm)
          exact absurd rfl (hno j y (by rw [← HL.out]; exact (List.getElem?_eq_some_iff.1 hj).1) hj)
        · simpa using hm
      subst hv
      go_wp2_with fail
      go_ret
      exact ⟨rfl, by rw [HBX.out]; exact al.trans (bel.mono (by have := al.size; omega))⟩
end Go.Proofs.Ythddacgdmngfhaa.gap
