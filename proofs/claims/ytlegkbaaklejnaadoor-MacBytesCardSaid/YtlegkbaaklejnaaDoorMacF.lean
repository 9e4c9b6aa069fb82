/- Layer 9: the statement on a seal with one byte changed, walked. -/
import Derived.Test.YtlegkbaaklejnaaDoorMacE
namespace Go.Proofs.YtlegkbaaklejnaaDoor.mac
open Go.ChangeShapes Go.WideShapes Go.ChangeAt Go.RowKit kit byt dig
open oct

theorem changed (M : ByteArray) (i : Nat) (x b : UInt8) (hi : i < M.data.toList.length) (hx : M.data.toList[i] = x) : decide (str (M.data.toList.set i (x ^^^ b)) = M) = ((b.toNat : Int) == 0) := by
  by_cases h : b = 0
  · subst h
    rw [UInt8.xor_zero, ← hx, List.set_getElem_self, str_self]
    simp
  · rw [decide_eq_false, eq_comm, beq_eq_false_iff_ne]
    · intro c
      exact h (UInt8.toNat_inj.1 (Int.ofNat.inj c))
    · intro e
      have e2 : M.data.toList.set i (x ^^^ b) = M.data.toList := by
        have := congrArg (fun z : ByteArray => z.data.toList) e
        simpa [str_data] using this
      have e3 : (M.data.toList.set i (x ^^^ b))[i]? = some x := by rw [e2, List.getElem?_eq_getElem hi, hx]
      rw [List.getElem?_set_self hi] at e3
      have e4 := Option.some.inj e3
      apply h
      have : x ^^^ (x ^^^ b) = 0 := by rw [e4, UInt8.xor_self]
      rwa [← UInt8.xor_assoc, UInt8.xor_self, UInt8.zero_xor] at this
set_option maxRecDepth 100000 in
set_option maxHeartbeats 1000000 in
theorem bytes_law (key s : ByteArray) (a b : UInt8) (w : World) (S0 : Starts w) (A : Added w) (hk : key.size ≤ maxLen) (hs : s.size ≤ maxLen) : Calls Tryd.prog 10 #[.string key, .string s, .agg #[.int .u8 (a.toNat : Int), .int .u8 (b.toNat : Int)]] w fun e w' => e = .returned (.bool true) ∧ Below w.heap.size w w' := by
  have hK := fun w => slice_first 70 key w
  have hT := fun w => slice_first 200 s w
  simp only [show ((70 : Nat) : Int) = 70 from rfl] at hK
  simp only [show ((200 : Nat) : Int) = 200 from rfl] at hT
  have lK := firsts_size 70 key
  have lT := firsts_size 200 s
  generalize firsts 70 key = K at *
  generalize firsts 200 s = T at *
  have hOf := fun w S0 A => mac_any K T w S0 A (by omega) (by omega)
  have hIs := fun q hq w S0 A => is_any K T q w S0 A (by omega) (by omega) hq
  have hM := macS_size K T
  generalize macS K T = M at *
  obtain ⟨i, hi⟩ : ∃ i, a.toNat % 20 = i := ⟨_, rfl⟩
  have hi20 : i < 20 := by omega
  have hr : Int.tmod (a.toNat : Int) 20 = (i : Int) := by rw [Int.tmod_eq_emod_of_nonneg (by omega)]; omega
  have hml : M.data.toList.length = 20 := by simpa using hM
  have hcv := fun w => run_bytes_of_string (P := Tryd.prog) w 9 30 5 M Tryd.underlying9 Tryd.underlying30 Tryd.underlying5
  have HS := Lib.hid S0
  have HA := Lib.hid A
  have HIS := Lib.hid hIs
  have HML := Lib.hid hml
  unfold maxLen at hk hs
  clear S0 A lK lT hml hIs
  go_enter Tryd.func10, Tryd.ntmps10
  go_upto_region 1 with (fail)
  have R0 := Blk.new w 36 #[.int .u8 (a.toNat : Int), .int .u8 (b.toNat : Int)]
  have bel0 := (Below.refl w.heap.size w).alloc (Nat.le_refl _) (.cells #[.int .u8 (a.toNat : Int), .int .u8 (b.toNat : Int)] 36)
  generalize w.alloc (.cells #[.int .u8 (a.toNat : Int), .int .u8 (b.toNat : Int)] 36) = w0 at *
  refine wp_region_still_tail 10 (by kernel_rfl) (by kernel_rfl) ?_
  simp only [List.take_succ_cons, List.take_zero, List.drop_succ_cons, List.drop_zero]
  repeat still_step
  refine wpStill_nil ?_
  change wpList _ _ _ _ _ w0.drew
  replace R0 : Blk w0.drew w.heap.size 36 #[.int .u8 (a.toNat : Int), .int .u8 (b.toNat : Int)] := R0
  replace bel0 := bel0.drew
  generalize w0.drew = w1 at *
  have HS1 := Lib.hid (HS.out.below bel0)
  have HA1 := Lib.hid (HA.out.below bel0)
  go_wp2_with fail
  refine (hOf w1 HS1.out HA1.out).mono ?_
  rintro e w2 ⟨rfl, hb2⟩
  have HS2 := Lib.hid (HS1.out.below hb2)
  have HA2 := Lib.hid (HA1.out.below hb2)
  have R2 := R0.below hb2 R0.lt
  have bel2 := bel0.trans (hb2.mono bel0.size)
  clear HS1 HA1 bel0 hb2 R0 hOf
  go_upto_region 2 with (fail)
  have I3 := (isBytes_new w2 M (grownCap w2 20 0 5) 5).drew
  have R3 : Blk (w2.alloc (.cells (bytesRow M (grownCap w2 20 0 5)) 5 ((bytesRow M (grownCap w2 20 0 5)).size, (bytesRow M (grownCap w2 20 0 5)).size + 1))).drew w.heap.size 36 #[.int .u8 (a.toNat : Int), .int .u8 (b.toNat : Int)] := R2.alloc _
  have be := ((Below.refl w2.heap.size w2).alloc (Nat.le_refl _) (.cells (bytesRow M (grownCap w2 20 0 5)) 5 ((bytesRow M (grownCap w2 20 0 5)).size, (bytesRow M (grownCap w2 20 0 5)).size + 1))).drew
  have bel3 := bel2.trans (be.mono bel2.size)
  have hg := bel2.size
  have hgne : w.heap.size < w2.heap.size := R2.lt
  have HS3 := Lib.hid (HS2.out.below be)
  have HA3 := Lib.hid (HA2.out.below be)
  have hc0 := grownCap_ge w2 20 0 5
  generalize (w2.alloc (.cells (bytesRow M (grownCap w2 20 0 5)) 5 ((bytesRow M (grownCap w2 20 0 5)).size, (bytesRow M (grownCap w2 20 0 5)).size + 1))).drew = w3 at *
  generalize grownCap w2 20 0 5 = cap at *
  have hk2 : ∀ n, Below n w2 w2 := fun n => Below.refl n w2
  clear hcv HS2 HA2 R2 bel2 be hk2
  generalize w2.heap.size = g at *
  go_upto_region 4 with (fail)
  have c0 : w3.cell? ⟨w.heap.size, 0, none⟩ = some (.int .u8 (a.toNat : Int)) := R3.cell 0
  have c1 : w3.cell? ⟨w.heap.size, 1, none⟩ = some (.int .u8 (b.toNat : Int)) := R3.cell 1
  have hi' : i < M.data.toList.length := by rw [HML.out]; exact hi20
  obtain ⟨x, hx⟩ : ∃ x, M.data.toList[i] = x := ⟨_, rfl⟩
  have ci : w3.cell? ⟨g, i, none⟩ = some (.int .u8 (x.toNat : Int)) := by rw [I3.cell hi', hx]; rfl
  have fi := I3.free hi'
  have hx8 := xor8 x b
  have HC := Lib.hid (changed M i x b hi' hx)
  have I4 := I3.set_ i (x ^^^ b)
  have hl4 : (M.data.toList.set i (x ^^^ b)).length = 20 := by rw [List.length_set]; exact HML.out
  have HL4 := Lib.hid hl4
  have hi2 : (i : Int) < 20 := by omega
  clear hx hi' hl4
  refine wp_region_still_tail 10 (by kernel_rfl) (by kernel_rfl) ?_
  simp only [List.take_succ_cons, List.take_zero, List.drop_succ_cons, List.drop_zero]
  repeat still_step
  refine wpStill_nil ?_
  rw [← UInt8.toNat_xor]
  clear hx8
  generalize x ^^^ b = y at *
  change wpList _ _ _ _ _ w3.drew
  have J : IsBytes (w3.drew.setCell ⟨g, i, none⟩ (bv y)) g (M.data.toList.set i y) := I4
  have R4 : Blk w3.drew w.heap.size 36 #[.int .u8 (a.toNat : Int), .int .u8 (b.toNat : Int)] := R3
  have ci4 : w3.drew.cell? ⟨g, i, none⟩ = some (.int .u8 (x.toNat : Int)) := ci
  have fi4 : w3.drew.frozen? ⟨g, i, none⟩ = false := fi
  have bel4 := bel3.drew
  generalize w3.drew = w4 at *
  clear I3 R3 ci fi bel3 c0 c1 I4 HS3 HA3 hr
  go_upto_region 5 with (fail)
  have R5 : Blk (w4.setCell ⟨g, i, none⟩ (.int .u8 (y.toNat : Int))) w.heap.size 36 #[.int .u8 (a.toNat : Int), .int .u8 (b.toNat : Int)] := R4.far (by simp; omega) _
  have J5 : IsBytes (w4.setCell ⟨g, i, none⟩ (.int .u8 (y.toNat : Int))) g (M.data.toList.set i y) := J
  have bel5 : Below w.heap.size w (w4.setCell ⟨g, i, none⟩ (.int .u8 (y.toNat : Int))) := bel4.setCell (p := ⟨g, i, none⟩) hg _
  generalize w4.setCell ⟨g, i, none⟩ (.int .u8 (y.toNat : Int)) = w5 at *
  clear R4 J ci4 fi4 bel4
  have S5 := HS.out.below bel5
  have A5 := HA.out.below bel5
  have hA := fun d os => awake9 (Sort.grow (redrawn w5 d) os) (S5.below (below_regrown w5 d os)) (A5.below (below_regrown w5 d os))
  have hI := fun d os => HIS.out (str (M.data.toList.set i y)) (by rw [str_len, HL4.out]; exact by decide) (Sort.grow (redrawn w5 d) os) (S5.below (below_regrown w5 d os)) (A5.below (below_regrown w5 d os))
  rw [HC.out] at hI
  have hcv5 := fun d os => conv_bytes (P := Tryd.prog) Tryd.underlying30 Tryd.underlying5 Tryd.underlying9 (J5.below (below_regrown w5 d os) J5.lt) 20 cap HL4.out.symm
  unfold str at hI
  have c15 : ∀ d os, (Sort.grow (redrawn w5 d) os).cell? ⟨w.heap.size, 1, none⟩ = some (.int .u8 (b.toNat : Int)) := fun d os => ((below_regrown w5 d os).cell (p := ⟨w.heap.size, 1, none⟩) R5.lt).trans (R5.cell 1)
  generalize (⟨(M.data.toList.set i y).toArray⟩ : ByteArray) = Q at *
  obtain ⟨B, hB⟩ : ∃ B, ((b.toNat : Int) == 0) = B := ⟨_, rfl⟩
  rw [hB] at hI
  clear S5 A5 R5 J5 HS HA HIS HC HL4 HML
  refine wp_region_quiet_below (by kernel_rfl) (by kernel_rfl) ?_
  repeat (any_goals (first | go_big_quiet_step ((first | (go_at_call 21; exact Calls.regrown_of (hA _ _)) | (go_at_call 24; exact Calls.regrown_of (hI _ _)))) | quiet_step ((first | (go_at_call 21; exact Calls.regrown_of (hA _ _)) | (go_at_call 24; exact Calls.regrown_of (hI _ _))))))
  refine wpQuiet_nil ?_
  intro _ hw'
  obtain ⟨⟨dq, osq⟩, hw''⟩ := hw'
  subst hw''
  clear hcv5 hA hI c15
  go_wp2
  go_ret
  exact ⟨by simp, bel5.trans ((below_regrown w5 dq osq).mono bel5.size)⟩
end Go.Proofs.YtlegkbaaklejnaaDoor.mac
