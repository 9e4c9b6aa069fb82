/- Layer 40: a piece as the statement has it; what the statement keeps of the objects. -/
import Derived.Test.YthddacgdmngfhaaSdC
import Derived.Test.YthddacgdmngfhaaKitV
namespace Go.Proofs.Ythddacgdmngfhaa.fil
open Go.Sort (grow)
open Go.ChangeShapes Go.WideShapes Go.ChangeAt Go.RowKit kit oct byt
set_option maxRecDepth 100000

set_option maxHeartbeats 2000000 in
theorem piece_ref (i k : Nat) (D : ByteArray) (w : World) (hi : i ≤ 4294967295) (hk : k * 500 < D.size ∨ k = 0) (hD : D.size ≤ 20000) : Calls Try.prog 29 #[.agg #[.int .u32 i, .string D], .int .i64 ((k * 500 : Nat) : Int)] w fun e w' => e = .returned (.string (pcsK i D k)) ∧ Below w.heap.size w w' := by
  obtain ⟨a, ha⟩ : ∃ a : Nat, k * 500 = a := ⟨_, rfl⟩
  obtain ⟨d, hd⟩ : ∃ d, pcD D k = d := ⟨_, rfl⟩
  have hex : ∀ E : Nat, min (a + 500) D.size = E → D.extract a E = d := by
    intro E hE
    rw [← hd, ← hE, ← ha]
    unfold pcD
    apply ByteArray.ext
    rw [ByteArray.data_extract, ByteArray.data_extract]
    apply Array.ext_getElem?
    intro j
    have hDs : D.data.size = D.size := rfl
    rw [Array.getElem?_extract, Array.getElem?_extract]
    by_cases hj : j < min (k * 500 + 500) D.data.size - k * 500
    · rw [if_pos hj, if_pos (by omega)]
    · rw [if_neg hj, if_neg (by omega)]
  have hds : d.size ≤ 500 := by rw [← hd, pcD_size]; omega
  have u7 := fun W => put4 (i : Int) W (by omega) (by omega)
  have u3 := fun W => put4 (D.size : Int) W (by omega) (by omega)
  have u0 := fun W => put4 (a : Int) W (by omega) (by omega)
  have X1 := Blk.new w 57 #[.int .u32 (i : Nat), .string D]
  have bel1 := (Below.refl w.heap.size w).alloc (Nat.le_refl _) (.cells #[.int .u32 (i : Nat), .string D] 57)
  have s7 : (p4 i).size ≤ 4 := by rw [p4_size]; omega
  have s3 : (p4 D.size).size ≤ 4 := by rw [p4_size]; omega
  have s0 : (p4 a).size ≤ 4 := by rw [p4_size]; omega
  have HA := Lib.hid (show pcsK i D k = p4 i ++ p4 D.size ++ p4 a ++ d by unfold pcsK; rw [hd, ha])
  have ha1 : a ≤ 20000 := by omega
  have haD : a ≤ D.size := by omega
  have HX := Lib.hid hex
  rw [ha]
  clear hd hk ha hex
  generalize pcsK i D k = AB at *
  go_enter Try.func29, Try.ntmps29
  go_upto_region 1 with (fail)
  generalize w.alloc (.cells #[.int .u32 (i : Nat), .string D] 57) = w1 at *
  have x1 : w1.cell? ⟨w.heap.size, 1, none⟩ = some (.string D) := X1.cell 1
  have x0 : w1.cell? ⟨w.heap.size, 0, none⟩ = some (.int .u32 (i : Nat)) := X1.cell 0
  have k0 := cell_regrown x0
  have k1 := cell_regrown x1
  have hw : IntKind.u64.wrap (D.size : Int) = (D.size : Int) := by rw [IntKind.wrap_u64]; omega
  have hwa : IntKind.u64.wrap (a : Int) = (a : Int) := by rw [IntKind.wrap_u64]; omega
  have hwi : IntKind.u64.wrap (i : Int) = (i : Int) := by rw [IntKind.wrap_u64]; omega
  generalize p4 (i : Int) = P7 at *
  generalize p4 (D.size : Int) = P3 at *
  generalize p4 (a : Int) = P0 at *
  refine wp_region_quiet_below (by kernel_rfl) (by kernel_rfl) ?_
  repeat (any_goals (first | go_big_quiet_step ((go_at_call 90; first | (with_reducible exact Calls.regrown_of (u7 _)) | (with_reducible exact Calls.regrown_of (u3 _)) | (with_reducible exact Calls.regrown_of (u0 _)))) | quiet_step ((go_at_call 90; first | (with_reducible exact Calls.regrown_of (u7 _)) | (with_reducible exact Calls.regrown_of (u3 _)) | (with_reducible exact Calls.regrown_of (u0 _))))))
  all_goals
    refine wpQuiet_nil ?_
    intro _ hw'
    obtain ⟨⟨dq, osq⟩, hw''⟩ := hw'
    subst hw''
    go_wp2_with fail
    all_goals
      go_ret
      refine ⟨?_, bel1.trans ((below_regrown _ dq osq).mono bel1.size)⟩
      rw [HA.out]
      first
      | (rw [← HX.out D.size (by omega)]; rfl)
      | (rw [← HX.out (a + 500) (by omega), ← show ((a : Int) + 500).toNat = a + 500 by omega]; rfl)
/-- The objects' cells, and where their next pieces begin. -/
def cellsO : List Sg → List Value
  | [] => []
  | x :: r => .int .u32 x.i :: .string x.d :: cellsO r
def cellsA : List Sg → List Value
  | [] => []
  | x :: r => .int .i64 x.a :: cellsA r
theorem cellsO_len : ∀ L : List Sg, (cellsO L).length = L.length * 2
  | [] => rfl
  | x :: r => by simp only [cellsO, List.length_cons, cellsO_len r]; omega
theorem cellsA_len : ∀ L : List Sg, (cellsA L).length = L.length * 1
  | [] => rfl
  | x :: r => by simp only [cellsA, List.length_cons, cellsA_len r]; omega
theorem cellsO_append : ∀ L M : List Sg, cellsO (L ++ M) = cellsO L ++ cellsO M
  | [], _ => rfl
  | x :: r, M => by simp only [List.cons_append, cellsO, cellsO_append r M]
theorem cellsA_append : ∀ L M : List Sg, cellsA (L ++ M) = cellsA L ++ cellsA M
  | [], _ => rfl
  | x :: r, M => by simp only [List.cons_append, cellsA, cellsA_append r M]
theorem cellsO_one : ∀ (L : List Sg), ∀ u ∈ cellsO L, u.oneCell' = true
  | [], u, h => by cases h
  | x :: r, u, h => by
    simp only [cellsO, List.mem_cons] at h
    rcases h with rfl | rfl | h
    · rfl
    · rfl
    · exact cellsO_one r u h
theorem cellsA_one : ∀ (L : List Sg), ∀ u ∈ cellsA L, u.oneCell' = true
  | [], u, h => by cases h
  | x :: r, u, h => by
    simp only [cellsA, List.mem_cons] at h
    rcases h with rfl | h
    · rfl
    · exact cellsA_one r u h
/-- The one in the middle. -/
theorem cellsO_mid (B F : List Sg) (x : Sg) : ∀ j, j < 2 → (#[.int .u32 x.i, .string x.d] : Array Value)[j]? = (cellsO (B ++ x :: F))[B.length * 2 + j]? := by
  intro j hj
  rw [cellsO_append, List.getElem?_append_right (by rw [cellsO_len]; omega), cellsO_len, show B.length * 2 + j - B.length * 2 = j by omega]
  match j, hj with
  | 0, _ => rfl
  | 1, _ => rfl
theorem cellsA_mid (B F : List Sg) (x : Sg) : (cellsA (B ++ x :: F))[B.length]? = some (.int .i64 x.a) := by
  rw [cellsA_append, List.getElem?_append_right (by rw [cellsA_len]; omega), cellsA_len, show B.length - B.length * 1 = 0 by omega]
  rfl
theorem cellsA_set (B F : List Sg) (x y : Sg) : (cellsA (B ++ x :: F)).set B.length (.int .i64 y.a) = cellsA (B ++ y :: F) := by
  rw [cellsA_append, cellsA_append, List.set_append_right _ _ (by rw [cellsA_len]; omega), cellsA_len, show B.length - B.length * 1 = 0 by omega]
  rfl
theorem cellsO_cut (B F : List Sg) (x : Sg) : (cellsO (B ++ x :: F)).take (B.length * 2) ++ (cellsO (B ++ x :: F)).drop ((B.length + 1) * 2) = cellsO (B ++ F) := by
  rw [cellsO_append, cellsO_append]
  congr 1
  · rw [← cellsO_len, List.take_left']
    rfl
  · rw [show (B.length + 1) * 2 = (cellsO B).length + 2 by rw [cellsO_len]; omega, List.drop_append, List.drop_of_length_le (by omega)]
    simp [cellsO]
theorem cellsA_cut (B F : List Sg) (x : Sg) : (cellsA (B ++ x :: F)).take (B.length * 1) ++ (cellsA (B ++ x :: F)).drop ((B.length + 1) * 1) = cellsA (B ++ F) := by
  rw [cellsA_append, cellsA_append]
  congr 1
  · rw [← cellsA_len, List.take_left']
    rfl
  · rw [show (B.length + 1) * 1 = (cellsA B).length + 1 by rw [cellsA_len]; omega, List.drop_append, List.drop_of_length_le (by omega)]
    simp [cellsA]
theorem cellsO_swap (B F : List Sg) (x y : Sg) (hi : y.i = x.i) (hd : y.d = x.d) : cellsO (B ++ x :: F) = cellsO (B ++ y :: F) := by
  rw [cellsO_append, cellsO_append]
  simp only [cellsO, hi, hd]
/-- How many pieces are still to be sent. -/
def rm (x : Sg) : Nat := max 1 ((x.d.size + 499) / 500) - x.a / 500
def rem : List Sg → Nat
  | [] => 0
  | x :: r => rm x + rem r
theorem rem_append : ∀ L M : List Sg, rem (L ++ M) = rem L + rem M
  | [], M => by simp [rem]
  | x :: r, M => by simp only [List.cons_append, rem, rem_append r M]; omega
/-- What may be in the list. -/
def okS (x : Sg) : Prop := x.i ≤ 6 ∧ x.d.size ≤ 4095 ∧ (∃ k, x.a = k * 500) ∧ (x.a < x.d.size ∨ x.a = 0)
theorem okS_rm {x : Sg} (h : okS x) : 0 < rm x := by
  obtain ⟨_, h1, ⟨k, hk⟩, h2⟩ := h
  unfold rm
  omega
theorem okS_next {x : Sg} (h : okS x) (hf : x.a + 500 < x.d.size) : okS ⟨x.i, x.d, x.a + 500⟩ ∧ rm ⟨x.i, x.d, x.a + 500⟩ + 1 = rm x := by
  obtain ⟨h0, h1, ⟨k, hk⟩, h2⟩ := h
  refine ⟨⟨h0, h1, ⟨k + 1, by dsimp only; omega⟩, .inl hf⟩, ?_⟩
  unfold rm
  dsimp only
  omega
/-- A sender, and the statement's own rows. -/
structure Fs (b0 sg : Nat) (qv lv av : Value) (Q L : List Sg) (w : World) : Prop where
  s : Qs b0 sg qv Q w
  l : Qo w b0 2 lv L.length (cellsO L)
  a : Qo w b0 1 av L.length (cellsA L)
  d1 : blkOf lv ≠ some sg
  d2 : blkOf av ≠ some sg
  d3 : ∀ k, blkOf qv = some k → blkOf lv ≠ some k ∧ blkOf av ≠ some k
  d4 : ∀ k, blkOf lv = some k → blkOf av ≠ some k
section
variable {b0 sg : Nat} {qv lv av : Value} {Q L : List Sg} {w w' : World}
theorem Fs.below {k : Nat} (h : Fs b0 sg qv lv av Q L w) (hb : Below k w w') (hk : w.heap.size ≤ k) : Fs b0 sg qv lv av Q L w' :=
  ⟨h.s.below hb hk, h.l.below hb hk, h.a.below hb hk, h.d1, h.d2, h.d3, h.d4⟩
/-- Behind a call that writes the sender's own alone. -/
theorem Fs.turn (h : Fs b0 sg qv lv av Q L w) {qv' : Value} {Q' : List Sg} (s : Qs b0 sg qv' Q' w') (hn : ∀ k, blkOf qv' = some k → blkOf qv = some k ∨ w.heap.size ≤ k) (hf : ∀ b, b < w.heap.size → b ≠ sg → blkOf qv ≠ some b → w'.heap[b]? = w.heap[b]?) (hs : w.heap.size ≤ w'.heap.size) : Fs b0 sg qv' lv av Q' L w' := by
  refine ⟨s, h.l.block hs fun b hb => ?_, h.a.block hs fun b hb => ?_, h.d1, h.d2, fun k hk => ?_, h.d4⟩
  · exact hf b (h.l.lt hb).2 (fun e => h.d1 (e ▸ hb)) (fun e => (h.d3 b e).1 hb)
  · exact hf b (h.a.lt hb).2 (fun e => h.d2 (e ▸ hb)) (fun e => (h.d3 b e).2 hb)
  · rcases hn k hk with e | e
    · exact h.d3 k e
    · exact ⟨fun q => by have := (h.l.lt q).2; omega, fun q => by have := (h.a.lt q).2; omega⟩
end
end Go.Proofs.Ythddacgdmngfhaa.fil
