/- Layer 40: bytes that are noughts; an object's first piece. -/
import Derived.Test.YthddacgdmngfhaaLimD
import Derived.Test.YthddacgdmngfhaaFilH
namespace Go.Proofs.Ythddacgdmngfhaa.fil
open Go.Sort (grow)
open Go.ChangeShapes Go.WideShapes Go.ChangeAt Go.RowKit kit oct byt
set_option maxRecDepth 100000

/-- So many noughts. -/
def Zs (m : Nat) : ByteArray := ⟨(List.replicate m (0 : UInt8)).toArray⟩
theorem Zs_size (m : Nat) : (Zs m).size = m := by show (List.replicate m (0 : UInt8)).toArray.size = m; simp
/-- The world behind 'make([]byte, m)'. -/
def mz (m : Nat) (w : World) : World := w.alloc (.cells (madeCells #[Value.int .u8 0] m) 5)
theorem mz_below (m : Nat) (w : World) : Below w.heap.size w (mz m w) := (Below.refl _ _).alloc (Nat.le_refl _) _
theorem mz_bytes (m : Nat) (w : World) : IsBytes (mz m w) w.heap.size (List.replicate m 0) := by
  refine ⟨by simp [mz], fun j hj => ⟨?_, ?_⟩⟩
  · have hj' : j < m := by simpa using hj
    unfold mz
    rw [World.cell?_alloc_mark]
    simp [madeCells, hj', bv, Nat.mod_one]
  · unfold mz
    rw [World.frozen?_alloc_mark]; simp
theorem mz_run (m : Nat) (w : World) (hm : m ≤ 1000000) : (Instr.makeSlice 45 (.int .i64 m) (.int .i64 m)).run Try.prog w = .ok (.slice (some ⟨w.heap.size, 0, none⟩) m m) (mz m w) := by
  have h : (Try.prog.info? 5).map (fun i => (i.zero, i.size, i.bytes)) = some (some (.int .u8 0), 1, 1) := by kernel_rfl
  cases hi : Try.prog.info? 5 with
  | none => rw [hi] at h; cases h
  | some i =>
    rw [hi] at h
    simp only [Option.map_some, Option.some.injEq, Prod.mk.injEq] at h
    obtain ⟨h1, h2, h3⟩ := h
    have := run_make w 45 5 i (.int .u8 0) Try.underlying45 hi h1 .i64 .i64 m m (by omega) (by omega) (by rw [h3]; omega) (by omega)
    rw [this, h2]
    simp [Value.cells, mz]
theorem mz_conv (m : Nat) (w : World) : (convert 45 9 (.slice (some ⟨w.heap.size, 0, none⟩) m m)).run Try.prog (mz m w) = .ok (.string (Zs m)) (mz m w) :=
  conv_bytes Try.underlying45 Try.underlying5 Try.underlying9 (mz_bytes m w) m m (by simp)
theorem begins_neg (w : World) : Calls Try.prog 94 #[.int .i64 (-1), .int .i64 0] w fun e w' => e = .returned (.bool false) ∧ w = w' := by
  go_enter Try.func94, Try.ntmps94
  go_wp2
  go_ret
  exact ⟨rfl, rfl⟩
theorem piece_neg (w : World) : Calls Try.prog 35 #[.agg #[.int .u32 0, .string ⟨#[]⟩], .int .i64 (-1)] w fun e w' => e = .returned (.string ⟨#[]⟩) ∧ Below w.heap.size w w' := by
  have X1 := Blk.new w 57 #[.int .u32 0, .string ⟨#[]⟩]
  have bel1 := (Below.refl w.heap.size w).alloc (Nat.le_refl _) (.cells #[.int .u32 0, .string ⟨#[]⟩] 57)
  go_enter Try.func35, Try.ntmps35
  go_upto_region 1 with (fail)
  generalize w.alloc (.cells #[.int .u32 0, .string ⟨#[]⟩] 57) = w1 at *
  have x1 : w1.cell? ⟨w.heap.size, 1, none⟩ = some (.string ⟨#[]⟩) := X1.cell 1
  go_wp2_with fail
  refine (begins_neg _).mono ?_
  rintro e w2 ⟨rfl, rfl⟩
  go_wp2_with fail
  go_ret
  exact ⟨rfl, bel1⟩
theorem piece_great (i : Int) (D : ByteArray) (w : World) (hD : 20000 < D.size) (hm : D.size ≤ maxLen) : Calls Try.prog 35 #[.agg #[.int .u32 i, .string D], .int .i64 0] w fun e w' => e = .returned (.string ⟨#[]⟩) ∧ Below w.heap.size w w' := by
  unfold maxLen at hm
  have hb := fun W => begins_any 0 (D.size : Int) (by omega) (by omega) W
  have hf : beg 0 (D.size : Int) = false := by unfold beg; exact decide_eq_false (by omega)
  rw [hf] at hb
  have X1 := Blk.new w 57 #[.int .u32 i, .string D]
  have bel1 := (Below.refl w.heap.size w).alloc (Nat.le_refl _) (.cells #[.int .u32 i, .string D] 57)
  clear hf
  go_enter Try.func35, Try.ntmps35
  go_upto_region 1 with (fail)
  generalize w.alloc (.cells #[.int .u32 i, .string D] 57) = w1 at *
  have x1 : w1.cell? ⟨w.heap.size, 1, none⟩ = some (.string D) := X1.cell 1
  go_wp2_with fail
  refine (hb _).mono ?_
  rintro e w2 ⟨rfl, rfl⟩
  go_wp2_with fail
  go_ret
  exact ⟨rfl, bel1⟩
def pcs (i : Nat) (D : ByteArray) : ByteArray := p4 i ++ p4 D.size ++ p4 0 ++ D.extract 0 500
set_option maxHeartbeats 2000000 in
theorem piece_zero (i : Nat) (D : ByteArray) (w : World) (hi : i ≤ 4294967295) (h0 : 500 ≤ D.size) (hD : D.size ≤ 20000) : Calls Try.prog 35 #[.agg #[.int .u32 i, .string D], .int .i64 0] w fun e w' => e = .returned (.string (pcs i D)) ∧ Below w.heap.size w w' := by
  have hb := fun W => begins_any 0 (D.size : Int) (by omega) (by omega) W
  have hf : beg 0 (D.size : Int) = true := by unfold beg; exact decide_eq_true (by omega)
  rw [hf] at hb
  have u7 := fun W => u32_p (i : Int) W (by omega) (by omega)
  have u3 := fun W => u32_p (D.size : Int) W (by omega) (by omega)
  have u0 := fun W => u32_p 0 W (by omega) (by omega)
  have X1 := Blk.new w 57 #[.int .u32 (i : Nat), .string D]
  have bel1 := (Below.refl w.heap.size w).alloc (Nat.le_refl _) (.cells #[.int .u32 (i : Nat), .string D] 57)
  have s7 : (p4 i).size ≤ 4 := by rw [p4_size]; omega
  have s3 : (p4 D.size).size ≤ 4 := by rw [p4_size]; omega
  have s0 : (p4 0).size ≤ 4 := by rw [p4_size]; omega
  have HA := Lib.hid (show pcs i D = p4 i ++ p4 D.size ++ p4 0 ++ D.extract 0 500 from rfl)
  have hmn : min (500 : Int) (D.size : Int) = 500 := by omega
  have hex : (D.extract 0 500).size ≤ 500 := by simp; omega
  clear hf
  generalize pcs i D = AB at *
  go_enter Try.func35, Try.ntmps35
  go_upto_region 1 with (fail)
  generalize w.alloc (.cells #[.int .u32 (i : Nat), .string D] 57) = w1 at *
  have x1 : w1.cell? ⟨w.heap.size, 1, none⟩ = some (.string D) := X1.cell 1
  have x0 : w1.cell? ⟨w.heap.size, 0, none⟩ = some (.int .u32 (i : Nat)) := X1.cell 0
  go_wp2_with fail
  refine (hb _).mono ?_
  rintro e w2 ⟨rfl, rfl⟩
  go_upto_region 4 with (fail)
  have k0 := cell_regrown x0
  have k1 := cell_regrown x1
  have hw : IntKind.u32.wrap (D.size : Int) = (D.size : Int) := by rw [IntKind.wrap_u32]; omega
  generalize p4 (i : Int) = P7 at *
  generalize p4 (D.size : Int) = P3 at *
  generalize p4 0 = P0 at *
  refine wp_region_quiet_below (by kernel_rfl) (by kernel_rfl) ?_
  repeat (any_goals (first | go_big_quiet_step ((go_at_call 95; first | (with_reducible exact Calls.regrown_of (u7 _)) | (with_reducible exact Calls.regrown_of (u3 _)) | (with_reducible exact Calls.regrown_of (u0 _)))) | quiet_step ((go_at_call 95; first | (with_reducible exact Calls.regrown_of (u7 _)) | (with_reducible exact Calls.regrown_of (u3 _)) | (with_reducible exact Calls.regrown_of (u0 _))))))
  refine wpQuiet_nil ?_
  intro _ hw'
  obtain ⟨⟨dq, osq⟩, hw''⟩ := hw'
  subst hw''
  go_wp2_with fail
  go_ret
  exact ⟨by rw [HA.out]; rfl, bel1.trans ((below_regrown _ dq osq).mono bel1.size)⟩
end Go.Proofs.Ythddacgdmngfhaa.fil
