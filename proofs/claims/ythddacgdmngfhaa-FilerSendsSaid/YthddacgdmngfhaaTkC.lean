/- Layer 40: an object's pieces as bytes, and the bytes of an object. -/
import Derived.Test.YthddacgdmngfhaaTkB
import Derived.Test.YthddacgdmngfhaaLimE
namespace Go.Proofs.Ythddacgdmngfhaa.fil
open Go.Sort (grow)
open Go.ChangeShapes Go.WideShapes Go.ChangeAt Go.RowKit kit oct byt
set_option maxRecDepth 100000

/-- A piece's bytes. -/
def pcsK (i : Nat) (D : ByteArray) (k : Nat) : ByteArray := p4 i ++ p4 D.size ++ p4 ((k * 500 : Nat) : Int) ++ pcD D k
theorem ok_gen (i n a : Nat) (T : ByteArray) (hi : i ≤ 4294967295) (hn : n ≤ 20000) (ha : a % 500 = 0) (h1 : a < n ∨ a = 0) (hT : T.size = min 500 (n - a)) : okR (p4 i ++ p4 n ++ p4 a ++ T) = true ∧ pcR (p4 i ++ p4 n ++ p4 a ++ T) = pc i n a T := by
  obtain ⟨p, b, c, d, e⟩ := parse i n a T hi (by omega) (by omega)
  have hok : okR (p4 i ++ p4 n ++ p4 a ++ T) = true := by
    unfold okR beg
    rw [b, c, d, e]
    simp only [decide_true, Bool.true_and, Bool.and_eq_true, decide_eq_true_eq]
    omega
  refine ⟨hok, ?_⟩
  unfold pcR
  rw [if_pos hok, p, b, c, d]
theorem pcsK_ok (i k : Nat) (D : ByteArray) (hi : i ≤ 4294967295) (hk : k * 500 < D.size ∨ k = 0) (hD : D.size ≤ 20000) : okR (pcsK i D k) = true ∧ pcR (pcsK i D k) = pc i D.size ((k * 500 : Nat) : Int) (pcD D k) ∧ (pcsK i D k).size ≤ maxLen := by
  have hz := pcD_size D k
  obtain ⟨h1, h2⟩ := ok_gen i D.size (k * 500) (pcD D k) hi hD (by omega) (by omega) hz
  refine ⟨h1, h2, ?_⟩
  unfold pcsK maxLen
  simp only [ByteArray.size_append, p4_size]
  omega
theorem slice_str {P : Program} (t : TypeId) (ht : P.underlying t = some .string) (s : ByteArray) (a b : Nat) (h1 : a ≤ b) (h2 : b ≤ s.size) (W : World) : (Instr.slice t (.string s) (some (.int .i64 a)) (some (.int .i64 b)) none).run P W = .ok (.string (s.extract a b)) W := by
  have h3 : (a : Int) ≤ (b : Int) := by omega
  have h4 : (b : Int) ≤ (s.size : Int) := by omega
  simp [Instr.slice, run_underlying ht, Instr.sliceBounds, run_sliceBound, h3, h4]
set_option maxHeartbeats 2000000 in
theorem piece_at (i k : Nat) (D : ByteArray) (w : World) (hi : i ≤ 4294967295) (hk : k * 500 < D.size ∨ k = 0) (hD : D.size ≤ 20000) : Calls Try.prog 35 #[.agg #[.int .u32 i, .string D], .int .i64 ((k * 500 : Nat) : Int)] w fun e w' => e = .returned (.string (pcsK i D k)) ∧ Below w.heap.size w w' := by
  obtain ⟨a, ha⟩ : ∃ a : Nat, k * 500 = a := ⟨_, rfl⟩
  obtain ⟨d, hd⟩ : ∃ d, pcD D k = d := ⟨_, rfl⟩
  have hex : ∀ E : Nat, min (a + 500) D.size = E → D.extract a E = d := by
    intro E hE
    rw [← hd, ← hE, ← ha]
    unfold pcD
    apply ByteArray.ext
    rw [ByteArray.data_extract, ByteArray.data_extract]
    apply Array.ext_getElem?
    intro j
    have hDs : D.data.size = D.size := rfl
    rw [Array.getElem?_extract, Array.getElem?_extract]
    by_cases hj : j < min (k * 500 + 500) D.data.size - k * 500
    · rw [if_pos hj, if_pos (by omega)]
    · rw [if_neg hj, if_neg (by omega)]
  have hds : d.size ≤ 500 := by rw [← hd, pcD_size]; omega
  have hb := fun W => begins_any (a : Int) (D.size : Int) (by omega) (by omega) W
  have hf : beg (a : Int) (D.size : Int) = true := by unfold beg; exact decide_eq_true (by omega)
  rw [hf] at hb
  have u7 := fun W => u32_p (i : Int) W (by omega) (by omega)
  have u3 := fun W => u32_p (D.size : Int) W (by omega) (by omega)
  have u0 := fun W => u32_p (a : Int) W (by omega) (by omega)
  have X1 := Blk.new w 57 #[.int .u32 (i : Nat), .string D]
  have bel1 := (Below.refl w.heap.size w).alloc (Nat.le_refl _) (.cells #[.int .u32 (i : Nat), .string D] 57)
  have s7 : (p4 i).size ≤ 4 := by rw [p4_size]; omega
  have s3 : (p4 D.size).size ≤ 4 := by rw [p4_size]; omega
  have s0 : (p4 a).size ≤ 4 := by rw [p4_size]; omega
  have HA := Lib.hid (show pcsK i D k = p4 i ++ p4 D.size ++ p4 a ++ d by unfold pcsK; rw [hd, ha])
  have ha1 : a ≤ 20000 := by omega
  rw [ha]
  have haD : a ≤ D.size := by omega
  have HX := Lib.hid hex
  clear hf hd hk ha hex
  generalize pcsK i D k = AB at *
  go_enter Try.func35, Try.ntmps35
  go_upto_region 1 with (fail)
  generalize w.alloc (.cells #[.int .u32 (i : Nat), .string D] 57) = w1 at *
  have x1 : w1.cell? ⟨w.heap.size, 1, none⟩ = some (.string D) := X1.cell 1
  have x0 : w1.cell? ⟨w.heap.size, 0, none⟩ = some (.int .u32 (i : Nat)) := X1.cell 0
  go_wp2_with fail
  refine (hb _).mono ?_
  rintro e w2 ⟨rfl, rfl⟩
  go_upto_region 4 with (fail)
  have k0 := cell_regrown x0
  have k1 := cell_regrown x1
  have hw : IntKind.u32.wrap (D.size : Int) = (D.size : Int) := by rw [IntKind.wrap_u32]; omega
  have hwa : IntKind.u32.wrap (a : Int) = (a : Int) := by rw [IntKind.wrap_u32]; omega
  generalize p4 (i : Int) = P7 at *
  generalize p4 (D.size : Int) = P3 at *
  generalize p4 (a : Int) = P0 at *
  refine wp_region_quiet_below (by kernel_rfl) (by kernel_rfl) ?_
  repeat (any_goals (first | go_big_quiet_step ((go_at_call 95; first | (with_reducible exact Calls.regrown_of (u7 _)) | (with_reducible exact Calls.regrown_of (u3 _)) | (with_reducible exact Calls.regrown_of (u0 _)))) | quiet_step ((go_at_call 95; first | (with_reducible exact Calls.regrown_of (u7 _)) | (with_reducible exact Calls.regrown_of (u3 _)) | (with_reducible exact Calls.regrown_of (u0 _))))))
  all_goals
    refine wpQuiet_nil ?_
    intro _ hw'
    obtain ⟨⟨dq, osq⟩, hw''⟩ := hw'
    subst hw''
    go_wp2_with fail
    all_goals
      go_ret
      refine ⟨?_, bel1.trans ((below_regrown _ dq osq).mono bel1.size)⟩
      rw [HA.out]
      first
      | (rw [← HX.out D.size (by omega)]; rfl)
      | (rw [← HX.out (a + 500) (by omega), ← show ((a : Int) + 500).toNat = a + 500 by omega]; rfl)
end Go.Proofs.Ythddacgdmngfhaa.fil
