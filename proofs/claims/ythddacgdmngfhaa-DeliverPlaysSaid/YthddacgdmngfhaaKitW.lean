/- General words, over any program: 'append(q, make([]T, n)...)' onto rows that are shifted, for elements of one cell. -/
import Derived.Test.YthddacgdmngfhaaKitV
import Derived.Lib.AppendZerosOnto
namespace Go.Proofs.Ythddacgdmngfhaa.kit
open Go.ChangeShapes Go.WideShapes Go.ChangeAt Go.RowKit
section
variable {P : Program} {w w' : World} {b0 n : Nat} {v : Value} {xs : List Value}
theorem zeroCells_one (z : Value) (m : Nat) : Builtin.zeroCells #[z] m = (List.replicate m z).toArray := by
  apply Array.ext_getElem?
  intro j
  by_cases hj : j < m
  · simp [Builtin.zeroCells, hj, Nat.mod_one]
  · rw [Array.getElem?_eq_none (by simp [Builtin.zeroCells]; omega), Array.getElem?_eq_none (by simp; omega)]
theorem run_append_room_zeros {t tn ty e : TypeId} {i : TypeInfo} {z : Value} {kq kn : IntKind} (ht : P.underlying t = some (.slice e)) (htn : P.underlying tn = some (.int kn)) (hi : P.info? e = some i) (hz : i.zero = some z) (hsize : i.size = 1) (hzc : z.cells = #[z])
    (b off n cap m : Nat) (hroom : n + m ≤ cap) (hm : m ≤ 1000000) (hby : i.bytes ≤ 1000) (hc : ∀ j, j < m → (w.cell? ⟨b, off + n + j, none⟩).isSome = true) (hf : ∀ j, j < m → w.frozen? ⟨b, off + n + j, none⟩ = false) (h1 : z.oneCell' = true) :
    (Builtin.append_ #[t, tn] ty #[.slice (some ⟨b, off, none⟩) n cap, .int kq m]).run P w = .ok (.slice (some ⟨b, off, none⟩) (n + m) cap) (w.setCells b (off + n) (List.replicate m z)) := by
  have hw : IntKind.i64.wrap (m : Int) = m := by rw [IntKind.wrap_i64]; omega
  have hneg : ¬ ((m : Int) < 0) := by omega
  have h48i : ¬ (281474976710656 < (m : Int) * (i.bytes : Int)) := by
    rw [← Int.natCast_mul]
    have : m * i.bytes ≤ 1000000 * 1000 := Nat.mul_le_mul hm hby
    omega
  have hst := run_storeCells_cells (P := P) b (off + n) (List.replicate m z) 0 w (by simpa using hc) (by simpa using hf) (by intro u hu; rw [List.mem_replicate] at hu; rw [hu.2]; exact h1)
  simp only [Nat.add_zero] at hst
  by_cases h0 : m = 0
  · subst h0
    have h2 : n ≤ cap := hroom
    have hw0 : IntKind.i64.wrap 0 = 0 := by rw [IntKind.wrap_i64]; omega
    simp [Builtin.append_, run_underlying ht, run_underlying htn, sizeOf, typeInfo, zeroValue, hi, hz, asInt, asIntOf, hsize, h2, hw0, add_some, storeCells, World.setCells]
  · have hns : ¬ (m * 1 = 0) := by omega
    simp [Builtin.append_, run_underlying ht, run_underlying htn, sizeOf, typeInfo, zeroValue, hi, hz, asInt, asIntOf, hw, hneg, hns, hsize, h48i, hroom, h0, add_some, hzc, zeroCells_one, hst]
theorem run_append_none_zeros {t tn ty e : TypeId} {i : TypeInfo} {kq kn : IntKind} (ht : P.underlying t = some (.slice e)) (htn : P.underlying tn = some (.int kn)) (hi : P.info? e = some i) (oa : Option Addr) :
    (Builtin.append_ #[t, tn] ty #[.slice oa 0 0, .int kq ((0 : Nat) : Int)]).run P w = .ok (.slice oa 0 0) w := by
  have hw : IntKind.i64.wrap 0 = 0 := by rw [IntKind.wrap_i64]; omega
  cases oa <;> simp [Builtin.append_, run_underlying ht, run_underlying htn, sizeOf, typeInfo, hi, asInt, asIntOf, hw, storeCells]
/-- So many zero values more. -/
theorem qo_zeros {t tn ty e : TypeId} {i : TypeInfo} {z : Value} {kq kn : IntKind} {bytes : Nat} (ht : P.underlying t = some (.slice e)) (htn : P.underlying tn = some (.int kn)) (hi : P.info? e = some i) (hz : i.zero = some z) (hsize : i.size = 1) (hby : i.bytes = bytes) (hzc : z.cells = #[z]) (h1 : z.oneCell' = true) (hb8 : bytes ≤ 8)
    (q : Qo w b0 1 v n xs) (m : Nat) (hm : m ≤ 1000) (hn : n ≤ 1000) (hb : b0 ≤ w.heap.size) :
    ∃ v' w', (Builtin.append_ #[t, tn] ty #[v, .int kq m]).run P w = .ok v' w' ∧ Qo w' b0 1 v' (n + m) (xs ++ List.replicate m z) ∧ w.grownBy w' (blkOf v) ∧ (blkOf v' = blkOf v ∨ blkOf v' = some w.heap.size ∨ blkOf v' = none) := by
  subst hby
  obtain ⟨oa, cap, rfl, hnc, hcm, h3⟩ := q.val
  have hl := q.len
  have h63 : n + m ≤ maxLen := by unfold maxLen; omega
  by_cases hr : n + m ≤ cap
  · rcases Nat.eq_zero_or_pos cap with h0 | h0
    · subst h0
      obtain rfl : n = 0 := by omega
      obtain rfl : m = 0 := by omega
      exact ⟨_, w, run_append_none_zeros (P := P) ht htn hi oa, by simpa using q, ⟨rfl, rfl, rfl, Nat.le_refl _, fun _ _ _ => rfl⟩, .inl rfl⟩
    · obtain ⟨g, off, rfl, h4, h5, h6, h7⟩ := h3 h0
      have hc : ∀ j, j < m → (w.cell? ⟨g, off + n + j, none⟩).isSome = true := fun j hj => by rw [Nat.add_assoc]; exact (h6 _ (by omega)).1
      have hf : ∀ j, j < m → w.frozen? ⟨g, off + n + j, none⟩ = false := fun j hj => by rw [Nat.add_assoc]; exact (h6 _ (by omega)).2
      have hin := World.cell?_setCells_in g (List.replicate m z) (off + n) w (by simpa using hc)
      have hout := World.cell?_setCells_out g (List.replicate m z) (off + n) w
      simp only [List.length_replicate] at hin hout
      refine ⟨_, _, run_append_room_zeros (P := P) ht htn hi hz hsize hzc g off n cap m hr (by omega) (by omega) hc hf h1, ⟨by rw [List.length_append, hl, List.length_replicate]; omega, _, cap, rfl, hr, hcm, fun _ => ⟨g, off, rfl, h4, by rw [size_setCells (w := w)]; exact h5, fun j hj => ⟨?_, ?_⟩, fun j hj => ?_⟩⟩, ?_, .inl (by rw [blkOf_pos h0, blkOf_pos h0])⟩
      · by_cases hj1 : j < n
        · rw [hout ⟨g, off + j, none⟩ (fun _ _ => .inl (by show off + j < off + n; omega))]
          exact (h6 j hj).1
        · by_cases hj2 : j < n + m
          · rw [show off + j = off + n + (j - n) by omega, hin _ (by omega)]
            rfl
          · rw [hout ⟨g, off + j, none⟩ (fun _ _ => .inr (by show off + n + m ≤ off + j; omega))]
            exact (h6 j hj).1
      · rw [World.frozen?_setCells]
        exact (h6 j hj).2
      · by_cases hj1 : j < n
        · rw [hout ⟨g, off + j, none⟩ (fun _ _ => .inl (by show off + j < off + n; omega)), h7 j (by omega), List.getElem?_append_left (by omega)]
        · rw [show off + j = off + n + (j - n) by omega, hin _ (by omega), List.getElem?_append_right (by omega), hl, Nat.mul_one, List.getElem?_eq_getElem (by simp; omega)]
      · refine ⟨?_, ?_, ?_, by rw [size_setCells (w := w)]; exact Nat.le_refl _, fun k hk hne => ?_⟩
        · exact (below_setCells (Below.refl g w) (Nat.le_refl _) _ _).os
        · exact (below_setCells (Below.refl g w) (Nat.le_refl _) _ _).tape
        · exact (below_setCells (Below.refl g w) (Nat.le_refl _) _ _).output
        · have hkg : k ≠ g := fun e => hne (by rw [blkOf_pos h0, e])
          clear hin hout hc hf
          have : ∀ (vs : List Value) (o : Nat) (w : World), (w.setCells g o vs).heap[k]? = w.heap[k]? := by
            intro vs
            induction vs with
            | nil => intro _ _; rfl
            | cons v r ih => intro o w; exact (ih (o + 1) _).trans (Below.heap_setCell w ⟨g, o, none⟩ v k hkg)
          exact this _ _ _
  · have hold : (Builtin.firstCells i.size n (.slice oa n cap)).run P w.drew = .ok xs.toArray w.drew := by
      rcases Nat.eq_zero_or_pos cap with h0 | h0
      · obtain rfl : n = 0 := by omega
        have hc : xs = [] := List.length_eq_zero_iff.1 (by rw [hl, Nat.zero_mul])
        subst hc
        cases oa with
        | none => exact run_firstCells_none w.drew _ _ _ _
        | some a => exact run_firstCells_some w.drew i.size 0 a 0 cap [] (by simp) (fun j u hu => by simp at hu)
      · obtain ⟨g, off, rfl, h4, h5, h6, h7⟩ := h3 h0
        exact run_firstCells_some w.drew i.size n _ n cap xs (by rw [hl, hsize]) (fun j u hu => by
          rw [add_some]
          exact (h7 j (by rw [← hl]; exact (List.getElem?_eq_some_iff.1 hu).1)).trans hu)
    have hbytes : (n + m) * i.bytes ≤ 2000 * 8 := Nat.mul_le_mul (by omega) hb8
    have hrun := Go.Lib.run_append_grow_zeros (P := P) w t tn ty e i z kq kn ht htn hi hz oa n cap xs hold m (by omega) (by omega) (by omega) (by omega) (by have : m * i.bytes ≤ 1000 * 8 := Nat.mul_le_mul hm hb8; omega) (growslice_fits (by omega) (by omega))
    rw [hzc, zeroCells_one] at hrun
    have hge := grownCap_ge w (n + m) cap e
    have hcm := grownCap_le_maxLen w (n + m) cap e h63
    have hL : (xs ++ List.replicate m z).length = n + m := by rw [List.length_append, hl, List.length_replicate]; omega
    have happ : xs.toArray ++ (List.replicate m z).toArray = (xs ++ List.replicate m z).toArray := by simp
    rw [happ] at hrun
    have hsz : ((xs ++ List.replicate m z).toArray ++ Builtin.zeroCells #[z] (grownCap w (n + m) cap e - (n + m))).size = grownCap w (n + m) cap e * 1 := by
      rw [Array.size_append, List.size_toArray, hL, zeroCells_one, List.size_toArray, List.length_replicate]
      omega
    refine ⟨_, _, hrun, ⟨by rw [hL]; omega, _, _, rfl, hge, hcm, fun h0 => ⟨w.heap.size, 0, rfl, hb, (by show w.heap.size < _; simp), fun j hj => ?_, fun j hj => ?_⟩⟩, ⟨rfl, rfl, rfl, by simp, fun k hk _ => Below.heap_alloc w.drew _ k hk⟩, ?_⟩
    · have e1 : (w.drew.alloc (.cells ((xs ++ List.replicate m z).toArray ++ Builtin.zeroCells #[z] (grownCap w (n + m) cap e - (n + m))) e)).cell? ⟨w.heap.size, 0 + j, none⟩ = _ := World.cell?_alloc_new w.drew _ _ (0 + j)
      refine ⟨?_, World.frozen?_alloc_new w.drew _ _ (0 + j)⟩
      have h2 := e1
      rw [zeroCells_one] at h2
      rw [hzc] at *
      first
      | (rw [zeroCells_one, h2, ← zeroCells_one, Array.getElem?_eq_getElem (by rw [hsz]; omega)]; rfl)
      | (rw [e1, Array.getElem?_eq_getElem (by rw [hsz]; omega)]; rfl)
    · have e1 : (w.drew.alloc (.cells ((xs ++ List.replicate m z).toArray ++ Builtin.zeroCells #[z] (grownCap w (n + m) cap e - (n + m))) e)).cell? ⟨w.heap.size, 0 + j, none⟩ = _ := World.cell?_alloc_new w.drew _ _ (0 + j)
      rw [e1, Nat.zero_add, Array.getElem?_append_left (by rw [List.size_toArray, hL]; omega), List.getElem?_toArray]
    · right
      rcases Nat.eq_zero_or_pos (grownCap w (n + m) cap e) with h0 | h0
      · rw [h0]; exact .inr blkOf_zero
      · exact .inl (blkOf_pos h0)
end
end Go.Proofs.Ythddacgdmngfhaa.kit
