/- Layer 40: what bytes say; a piece put; nobody sends, nobody takes. -/
import Derived.Test.YthddacgdmngfhaaFilE
namespace Go.Proofs.Ythddacgdmngfhaa.fil
open Go.Sort (grow)
open Go.ChangeShapes Go.WideShapes Go.ChangeAt Go.RowKit kit oct byt
set_option maxRecDepth 100000

theorem rd_p4 (x : Nat) (R : ByteArray) (e : Int) (h : x ≤ 4294967295) : rdN (p4 x ++ R) 4 = x ∧ rdL (p4 x ++ R) e 4 = R ∧ rdE (p4 x ++ R) e 4 = e := by
  have hs := p4_size x
  have h4 : 4 ≤ (p4 (x : Int) ++ R).size := by rw [ByteArray.size_append, hs]; omega
  refine ⟨?_, ?_, ?_⟩
  · unfold rdN
    rw [if_pos h4, take_data, ext_left _ _ 4 hs]
    exact numV_p4 x h
  · unfold rdL
    rw [if_pos h4]
    exact ext_right _ _ 4 _ hs rfl
  · unfold rdE
    rw [if_pos h4]
theorem parse (i n k : Nat) (T : ByteArray) (hi : i ≤ 4294967295) (hn : n ≤ 4294967295) (hk : k ≤ 4294967295) :
    n1 (p4 i ++ p4 n ++ p4 k ++ T) = i ∧ n2 (p4 i ++ p4 n ++ p4 k ++ T) = n ∧ n3 (p4 i ++ p4 n ++ p4 k ++ T) = k ∧ l3 (p4 i ++ p4 n ++ p4 k ++ T) = T ∧ E3 (p4 i ++ p4 n ++ p4 k ++ T) = 0 := by
  rw [ByteArray.append_assoc, ByteArray.append_assoc]
  obtain ⟨a1, a2, a3⟩ := rd_p4 i (p4 n ++ (p4 k ++ T)) 0 hi
  obtain ⟨b1, b2, b3⟩ := rd_p4 n (p4 k ++ T) 0 hn
  obtain ⟨c1, c2, c3⟩ := rd_p4 k T 0 hk
  refine ⟨a1, ?_, ?_, ?_, ?_⟩
  · unfold n2; rw [a2, b1]
  · unfold n3; rw [a2, a3, b2, c1]
  · unfold l3; rw [a2, a3, b2, b3, c2]
  · unfold E3; rw [a2, a3, b2, b3, c3]
theorem rdE_keep (l : ByteArray) (e : Int) (h : e ≠ 0) : rdE l e 4 ≠ 0 := by
  unfold rdE failE
  split
  · exact h
  · rw [if_pos (.inl h)]; exact h
theorem rdE_short (l : ByteArray) (e : Int) (h : l.size < 4) : rdE l e 4 ≠ 0 := by
  unfold rdE failE
  rw [if_neg (by omega)]
  split
  · rename_i q
    rcases q with q | q
    · exact q
    · cases q
  · decide
theorem rdL_len (l : ByteArray) (e : Int) (h : 4 ≤ l.size) : (rdL l e 4).size = l.size - 4 := by
  unfold rdL
  rw [if_pos h]
  simp
theorem short_no (s : ByteArray) (h : s.size < 12) : okR s = false := by
  have hE : E3 s ≠ 0 := by
    unfold E3
    by_cases h1 : s.size < 4
    · exact rdE_keep _ _ (rdE_keep _ _ (rdE_short s 0 h1))
    · have e1 := rdL_len s 0 (by omega)
      by_cases h2 : (rdL s 0 4).size < 4
      · exact rdE_keep _ _ (rdE_short _ _ h2)
      · have e2 := rdL_len (rdL s 0 4) (rdE s 0 4) (by omega)
        exact rdE_short _ _ (by omega)
  unfold okR
  simp [hE]
theorem sender_len (w : World) : Calls Try.prog 30 #[.pointer none] w fun e w' => e = .returned (.int .i64 0) ∧ w' = w := by
  go_enter Try.func30, Try.ntmps30
  go_wp2_with fail
  go_ret
  exact ⟨rfl, rfl⟩
theorem sender_peek (w : World) : Calls Try.prog 28 #[.pointer none] w fun e w' => e = .returned (.tuple #[.string ⟨#[]⟩, .bool false]) ∧ w' = w := by
  go_enter Try.func28, Try.ntmps28
  go_wp2_with fail
  refine (sender_len _).mono ?_
  rintro e w1 ⟨rfl, rfl⟩
  go_wp2_with fail
  go_ret2
  exact ⟨rfl, rfl⟩
theorem sender_put (i : Int) (d : ByteArray) (w : World) : Calls Try.prog 27 #[.pointer none, .agg #[.int .u32 i, .string d]] w fun e w' => e = .returned (.int .i64 1) ∧ Below w.heap.size w w' := by
  go_enter Try.func27, Try.ntmps27
  go_wp2_with fail
  go_ret
  exact ⟨rfl, (Below.refl w.heap.size w).alloc (Nat.le_refl _) _⟩
def abc : ByteArray := p4 7 ++ p4 3 ++ p4 0 ++ ⟨#[97, 98, 99]⟩
set_option maxHeartbeats 1000000 in
theorem piece_abc (w : World) : Calls Try.prog 35 #[.agg #[.int .u32 7, .string ⟨#[97, 98, 99]⟩], .int .i64 0] w fun e w' => e = .returned (.string abc) ∧ Below w.heap.size w w' := by
  have hb : ∀ W, Calls Try.prog 94 #[.int .i64 0, .int .i64 3] W fun e w' => e = .returned (.bool true) ∧ w' = W := fun W => begins_any 0 3 (by omega) (by omega) W
  have u7 := fun W => u32_p 7 W (by omega) (by omega)
  have u3 := fun W => u32_p 3 W (by omega) (by omega)
  have u0 := fun W => u32_p 0 W (by omega) (by omega)
  have X1 := Blk.new w 57 #[.int .u32 7, .string ⟨#[97, 98, 99]⟩]
  have bel1 := (Below.refl w.heap.size w).alloc (Nat.le_refl _) (.cells #[.int .u32 7, .string ⟨#[97, 98, 99]⟩] 57)
  have s7 : (p4 7).size ≤ 4 := by rw [p4_size]; omega
  have s3 : (p4 3).size ≤ 4 := by rw [p4_size]; omega
  have s0 : (p4 0).size ≤ 4 := by rw [p4_size]; omega
  have habc : abc = p4 7 ++ p4 3 ++ p4 0 ++ ⟨#[97, 98, 99]⟩ := rfl
  have HA := Lib.hid habc
  clear habc
  generalize abc = AB at *
  go_enter Try.func35, Try.ntmps35
  go_upto_region 1 with (fail)
  generalize w.alloc (.cells #[.int .u32 7, .string ⟨#[97, 98, 99]⟩] 57) = w1 at *
  have x1 : w1.cell? ⟨w.heap.size, 1, none⟩ = some (.string ⟨#[97, 98, 99]⟩) := X1.cell 1
  have x0 : w1.cell? ⟨w.heap.size, 0, none⟩ = some (.int .u32 7) := X1.cell 0
  go_wp2_with fail
  refine (hb _).mono ?_
  rintro e w2 ⟨rfl, rfl⟩
  go_upto_region 4 with (fail)
  have k0 := cell_regrown x0
  have k1 := cell_regrown x1
  generalize p4 7 = P7 at *
  generalize p4 3 = P3 at *
  generalize p4 0 = P0 at *
  refine wp_region_quiet_below (by kernel_rfl) (by kernel_rfl) ?_
  repeat (any_goals (first | go_big_quiet_step ((go_at_call 95; first | (with_reducible exact Calls.regrown_of (u7 _)) | (with_reducible exact Calls.regrown_of (u3 _)) | (with_reducible exact Calls.regrown_of (u0 _)))) | quiet_step ((go_at_call 95; first | (with_reducible exact Calls.regrown_of (u7 _)) | (with_reducible exact Calls.regrown_of (u3 _)) | (with_reducible exact Calls.regrown_of (u0 _))))))
  refine wpQuiet_nil ?_
  intro _ hw'
  obtain ⟨⟨dq, osq⟩, hw''⟩ := hw'
  subst hw''
  go_wp2_with fail
  go_ret
  exact ⟨by rw [HA.out]; rfl, bel1.trans ((below_regrown _ dq osq).mono bel1.size)⟩
end Go.Proofs.Ythddacgdmngfhaa.fil
