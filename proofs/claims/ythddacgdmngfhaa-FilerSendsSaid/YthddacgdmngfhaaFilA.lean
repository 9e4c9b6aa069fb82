/- Layer 40: a piece read. -/
import Derived.Test.YthddacgdmngfhaaReadsA
import Derived.Test.YthddacgdmngfhaaNum
import Derived.Test.YthddacgdmngfhaaKitM
import Derived.Test.YthddacgdmngfhaaKitD
import Derived.Outline
import Derived.OwnWalk
import Derived.BigQuiet
import Derived.LoopTactic
import Derived.Deep.CutBlock
import Derived.Deep.DeepCutAuto
import Derived.Deep.RegionWith
import Derived.BigRegion
import Derived.Lib.Hide
namespace Go.Proofs.Ythddacgdmngfhaa.fil
open Go.Sort (grow)
open Go.ChangeShapes Go.WideShapes Go.ChangeAt Go.RowKit kit oct
set_option maxRecDepth 100000

/-- May a piece begin there? -/
def beg (a s : Int) : Bool := decide (s ≤ 20000 ∧ a % 500 = 0 ∧ (a < s ∨ a = 0))
theorem begins_any (a s : Int) (h0 : 0 ≤ a) (h1 : a ≤ 4294967295) (w : World) : Calls Try.prog 94 #[.int .i64 a, .int .i64 s] w fun e w' => e = .returned (.bool (beg a s)) ∧ w' = w := by
  have ht : a.tmod 500 = a % 500 := Int.tmod_eq_emod_of_nonneg h0
  have hm0 : 0 ≤ a % 500 := by omega
  have hm1 : a % 500 < 500 := by omega
  by_cases c1 : s ≤ 20000
  · by_cases c2 : a % 500 = 0
    · rw [c2] at ht
      by_cases c3 : a < s
      · have hb : beg a s = true := decide_eq_true ⟨c1, c2, .inl c3⟩
        rw [hb]
        clear hb c2 hm0 hm1
        go_enter Try.func94, Try.ntmps94
        go_wp2_with fail
        go_ret
        exact ⟨ret_bool (by simp [ht]), rfl⟩
      · by_cases c4 : a = 0
        · have hb : beg a s = true := decide_eq_true ⟨c1, c2, .inr c4⟩
          rw [hb]
          subst c4
          clear hb c2 hm0 hm1
          go_enter Try.func94, Try.ntmps94
          go_wp2_with fail
          go_ret
          exact ⟨ret_bool (by simp), rfl⟩
        · have hb : beg a s = false := decide_eq_false (by rintro ⟨_, _, h | h⟩ <;> omega)
          rw [hb]
          clear hb c2 hm0 hm1
          go_enter Try.func94, Try.ntmps94
          go_wp2_with fail
          go_ret
          exact ⟨ret_bool (by simp [ht]; try omega), rfl⟩
    · have hb : beg a s = false := decide_eq_false (by rintro ⟨_, h, _⟩; exact c2 h)
      rw [hb]
      have c5 : ¬ a.tmod 500 = 0 := by rw [ht]; exact c2
      clear hb ht hm0 hm1
      go_enter Try.func94, Try.ntmps94
      go_wp2_with fail
      go_ret
      exact ⟨ret_bool (by simp [c5]), rfl⟩
  · have hb : beg a s = false := decide_eq_false (by rintro ⟨h, _⟩; exact c1 h)
    rw [hb]
    clear hb ht hm0 hm1
    go_enter Try.func94, Try.ntmps94
    go_wp2_with fail
    go_ret
    exact ⟨ret_bool (by simp), rfl⟩
/-- The cells of a piece. -/
def pc (i s a : Int) (d : ByteArray) : Array Value := #[.int .u32 i, .int .i64 s, .int .i64 a, .string d]
/-- What bytes say. -/
def n1 (s : ByteArray) : Nat := rdN s 4
def n2 (s : ByteArray) : Nat := rdN (rdL s 0 4) 4
def n3 (s : ByteArray) : Nat := rdN (rdL (rdL s 0 4) (rdE s 0 4) 4) 4
def l3 (s : ByteArray) : ByteArray := rdL (rdL (rdL s 0 4) (rdE s 0 4) 4) (rdE (rdL s 0 4) (rdE s 0 4) 4) 4
def E3 (s : ByteArray) : Int := rdE (rdL (rdL s 0 4) (rdE s 0 4) 4) (rdE (rdL s 0 4) (rdE s 0 4) 4) 4
def okR (s : ByteArray) : Bool := decide (E3 s = 0) && (beg (n3 s) (n2 s) && decide ((((l3 s).size : Nat) : Int) = min 500 ((n2 s : Int) - n3 s)))
def pcR (s : ByteArray) : Array Value := if okR s = true then pc (n1 s) (n2 s) (n3 s) (l3 s) else pc 0 0 0 ByteArray.empty
theorem szP (i s a : Int) (d : ByteArray) : (Try.prog.info? 177).map (·.size) = some (pc i s a d).size := by show _ = some 4; kernel_rfl
theorem szP' (i s a : Int) (d : ByteArray) : (Try.prog.info? 177).map (·.size) = some (#[.int .u32 i, .int .i64 s, .int .i64 a, .string d] : Array Value).size := szP i s a d
set_option maxHeartbeats 1000000 in
theorem read_any (s : ByteArray) (w : World) (hl : s.size ≤ maxLen) : Calls Try.prog 91 #[.string s] w fun e w' => e = .returned (.tuple #[.agg (pcR s), .bool (okR s)]) ∧ Below w.heap.size w w' := by
  have i1 : rdE s 0 4 ≠ 0 → rdL s 0 4 = ByteArray.empty := rd_inv s 0 4 (by simp) (by omega)
  have z1 : (rdL s 0 4).size ≤ maxLen := Nat.le_trans (rd_size s 0 4 (by simp) (by omega)) hl
  have z2 : (rdL (rdL s 0 4) (rdE s 0 4) 4).size ≤ maxLen := Nat.le_trans (rd_size _ _ 4 i1 (by omega)) z1
  have i2 := rd_inv (rdL s 0 4) (rdE s 0 4) 4 i1 (by omega)
  have z3 : (l3 s).size ≤ maxLen := Nat.le_trans (rd_size _ _ 4 i2 (by omega)) z2
  have b2 : n2 s < 256 ^ 4 := rdN_lt _ 4 (by omega)
  have b3 : n3 s < 256 ^ 4 := rdN_lt _ 4 (by omega)
  have k1 := fun (g : Nat) W (h : RD W g s 0) => r32_any g s 0 W h hl
  have k2 := fun (g : Nat) W (h : RD W g (rdL s 0 4) (rdE s 0 4)) => r32_any g _ _ W h z1
  have k3 := fun (g : Nat) W (h : RD W g (rdL (rdL s 0 4) (rdE s 0 4) 4) (rdE (rdL s 0 4) (rdE s 0 4) 4)) => r32_any g _ _ W h z2
  have k4 := fun (g : Nat) W (h : RD W g (l3 s) (E3 s)) => rest_any g _ _ W h z3
  have hE : okR s = (decide (E3 s = 0) && (beg (n3 s) (n2 s) && decide ((((l3 s).size : Nat) : Int) = min 500 ((n2 s : Int) - n3 s)))) := rfl
  have hP : pcR s = if okR s = true then pc (n1 s) (n2 s) (n3 s) (l3 s) else pc 0 0 0 ByteArray.empty := rfl
  have x1 : rdN s 4 = n1 s := rfl
  have x2 : rdN (rdL s 0 4) 4 = n2 s := rfl
  have x3 : rdN (rdL (rdL s 0 4) (rdE s 0 4) 4) 4 = n3 s := rfl
  have x4 : rdL (rdL (rdL s 0 4) (rdE s 0 4) 4) (rdE (rdL s 0 4) (rdE s 0 4) 4) 4 = l3 s := rfl
  have x5 : rdE (rdL (rdL s 0 4) (rdE s 0 4) 4) (rdE (rdL s 0 4) (rdE s 0 4) 4) 4 = E3 s := rfl
  rw [x1] at k1
  rw [x2] at k2
  rw [x3, x4, x5] at k3
  clear x1 x2 x3 x4 x5 i1 i2 z1 z2 hl
  unfold maxLen at z3
  generalize rdL (rdL s 0 4) (rdE s 0 4) 4 = L2 at *
  generalize rdE (rdL s 0 4) (rdE s 0 4) 4 = e2 at *
  generalize rdL s 0 4 = L1 at *
  generalize rdE s 0 4 = e1 at *
  generalize n1 s = N1 at *
  generalize n2 s = N2 at *
  generalize n3 s = N3 at *
  generalize l3 s = L3 at *
  generalize E3 s = e3 at *
  have K1 := Lib.hid k1
  have K2 := Lib.hid k2
  have K3 := Lib.hid k3
  have K4 := Lib.hid k4
  have HE := Lib.hid hE
  have HP := Lib.hid hP
  have Z3 := Lib.hid z3
  have HB2 := Lib.hid b2
  have HB3 := Lib.hid b3
  clear k1 k2 k3 k4 hE hP z3 b2 b3
  go_enter Try.func91, Try.ntmps91
  go_wp2_with (go_at_call 145; refine (new_any _ _).mono ?_; rintro e w1 ⟨rfl, rfl⟩)
  have hN2 : (N2 : Int) ≤ 4294967295 := by have := HB2.out; omega
  have hN3 : (N3 : Int) ≤ 4294967295 := by have := HB3.out; omega
  have R0 : RD ((w.alloc (.cells #[.int .u32 0, .int .i64 0, .int .i64 0, .string ⟨#[]⟩] 177)).alloc (.cells #[.string s, .int .i64 0] 285)) (w.heap.size + 1) s 0 := blk_new2 _ _ _ _
  have P0 := (Blk.new w 177 (pc 0 0 0 ⟨#[]⟩)).alloc (.cells #[.string s, .int .i64 0] 285)
  have bel0 := ((Below.refl w.heap.size w).alloc (Nat.le_refl _) (.cells (pc 0 0 0 ⟨#[]⟩) 177)).alloc (by simp) (.cells #[.string s, .int .i64 0] 285)
  refine (K1.out _ _ R0).mono ?_
  rintro e w2 ⟨rfl, R2, t2⟩
  have P2 := t2.blk P0 (by omega)
  have bel2 := t2.below bel0 (by omega) bel0.size
  clear R0 P0 t2 bel0 K1
  go_wp2_with fail
  refine (K2.out _ _ R2).mono ?_
  rintro e w3 ⟨rfl, R3, t3⟩
  have P3 := t3.blk P2 (by omega)
  have bel3 := t3.below bel2 (by omega) bel2.size
  clear R2 P2 t3 bel2 K2
  go_wp2_with fail
  refine (K3.out _ _ R3).mono ?_
  rintro e w4 ⟨rfl, R4, t4⟩
  have P4 := t4.blk P3 (by omega)
  have bel4 := t4.below bel3 (by omega) bel3.size
  clear R3 P3 t4 bel3 K3
  go_upto_region 4 with (fail)
  have Q5 := Blk.new w4 177 (pc N1 N2 N3 ⟨#[]⟩)
  have R5 : RD (w4.alloc (.cells (pc N1 N2 N3 ⟨#[]⟩) 177)) (w.heap.size + 1) L3 e3 := Blk.alloc R4 _
  have P5 := P4.alloc (.cells (pc N1 N2 N3 ⟨#[]⟩) 177)
  have bel5 := bel4.alloc bel4.size (.cells (pc N1 N2 N3 ⟨#[]⟩) 177)
  have hr4 := R4.lt
  have hne : w4.heap.size ≠ w.heap.size + 1 := by omega
  have hne2 : w4.heap.size ≠ w.heap.size := by have := P4.lt; omega
  clear R4 P4 bel4
  rw [show w4.alloc (.cells #[.int .u32 N1, .int .i64 N2, .int .i64 N3, .string ⟨#[]⟩] 177) = w4.alloc (.cells (pc N1 N2 N3 ⟨#[]⟩) 177) from rfl]
  generalize w4.alloc (.cells (pc N1 N2 N3 ⟨#[]⟩) 177) = w5 at *
  generalize w4.heap.size = p at *
  go_wp2_with fail
  refine (K4.out _ _ R5).mono ?_
  rintro e w6 ⟨rfl, R6, t6⟩
  have Q6 := t6.blk Q5 hne
  have P6 := t6.blk P5 (by omega)
  have hpw : w.heap.size ≤ p := by omega
  have bel6 := t6.below bel5 (by omega) bel5.size
  have q6 : w6.cell? ⟨p, 3, none⟩ = some (.string ⟨#[]⟩) := Q6.cell 3
  have q6f : w6.frozen? ⟨p, 3, none⟩ = false := Q6.frozen 3
  clear Q5 R5 P5 t6 bel5 K4
  go_upto_region 5 with (fail)
  have Q7 : Blk (w6.setCell ⟨p, 3, none⟩ (.string L3)) p 177 (pc N1 N2 N3 L3) := Q6.set_ 3 _
  have R7 : RD (w6.setCell ⟨p, 3, none⟩ (.string L3)) (w.heap.size + 1) ByteArray.empty e3 := Blk.far (p := ⟨p, 3, none⟩) R6 (Ne.symm hne) _
  have P7 := P6.far (p := ⟨p, 3, none⟩) (Ne.symm hne2) (.string L3)
  have bel7 := bel6.setCell (p := ⟨p, 3, none⟩) hpw (.string L3)
  clear Q6 R6 P6 bel6 q6 q6f
  generalize w6.setCell ⟨p, 3, none⟩ (.string L3) = w7 at *
  have c1 : w7.cell? ⟨p, 1, none⟩ = some (.int .i64 N2) := Q7.cell 1
  have c2 : w7.cell? ⟨p, 2, none⟩ = some (.int .i64 N3) := Q7.cell 2
  have c3 : w7.cell? ⟨p, 3, none⟩ = some (.string L3) := Q7.cell 3
  have hbg := fun W => begins_any N3 N2 (by omega) hN3 W
  go_cut [45] (fun s45 wx => s45 = .bool (!okR s) ∧ wx = w7)
  case first =>
    have hee := HE.out
    have HR7 := Lib.hid R7
    clear Q7 R7 P7 bel7
    by_cases d1 : e3 = 0
    · subst d1
      cases d2 : beg N3 N2 with
      | false =>
        rw [d2] at hee hbg
        have ho : okR s = false := by rw [hee]; simp
        have HO := Lib.hid ho
        clear ho hee
        go_wp2_with fail
        refine (err_any _ _ _ _ HR7.out).mono ?_
        rintro e w8 ⟨rfl, rfl⟩
        go_wp2_with fail
        refine (hbg _).mono ?_
        rintro e w8 ⟨rfl, rfl⟩
        go_wp2_with fail
        go_meet
        exact ⟨by rw [HO.out]; simp, rfl⟩
      | true =>
        rw [d2] at hee hbg
        have hle : N3 ≤ N2 := by
          unfold beg at d2
          have := of_decide_eq_true d2
          omega
        have ho : okR s = decide ((L3.size : Int) = min 500 ((N2 : Int) - N3)) := by rw [hee]; simp
        have HO := Lib.hid ho
        have hz3 := Z3.out
        have hsub : IntKind.i64.wrap ((N2 : Int) - N3) = (N2 : Int) - N3 := IntWalk.i64_in _ (by omega)
        clear ho hee d2
        go_wp2_with fail
        refine (err_any _ _ _ _ HR7.out).mono ?_
        rintro e w8 ⟨rfl, rfl⟩
        go_wp2_with fail
        refine (hbg _).mono ?_
        rintro e w8 ⟨rfl, rfl⟩
        go_wp2_with fail
        all_goals
          go_meet
          exact ⟨by rw [HO.out]; first | rfl | (congr 1; rw [Bool.eq_iff_iff]; simp only [bne_iff_ne, ne_eq, Bool.not_eq_true', decide_eq_false_iff_not]; omega), rfl⟩
    · have ho : okR s = false := by rw [hee]; simp [d1]
      have HO := Lib.hid ho
      clear ho hee
      have d1' : (e3 != 0) = true := by simpa using d1
      go_wp2_with fail
      refine (err_any _ _ _ _ HR7.out).mono ?_
      rintro e w8 ⟨rfl, rfl⟩
      go_wp2_with fail
      go_meet
      exact ⟨by rw [HO.out]; simp [d1], rfl⟩
  case rest =>
  obtain ⟨rfl, hwc⟩ := hcut
  have hwc := hwc.symm
  subst hwc
  have HR7 := Lib.hid R7
  clear R7
  have c0 : w7.cell? ⟨p, 0, none⟩ = some (.int .u32 N1) := Q7.cell 0
  have p0 : w7.cell? ⟨w.heap.size, 0, none⟩ = some (.int .u32 0) := P7.cell 0
  have p1 : w7.cell? ⟨w.heap.size, 1, none⟩ = some (.int .i64 0) := P7.cell 1
  have p2 : w7.cell? ⟨w.heap.size, 2, none⟩ = some (.int .i64 0) := P7.cell 2
  have p3 : w7.cell? ⟨w.heap.size, 3, none⟩ = some (.string ⟨#[]⟩) := P7.cell 3
  have f0 : w7.frozen? ⟨w.heap.size, 0, none⟩ = false := P7.frozen 0
  have f1 : w7.frozen? ⟨w.heap.size, 1, none⟩ = false := P7.frozen 1
  have f2 : w7.frozen? ⟨w.heap.size, 2, none⟩ = false := P7.frozen 2
  have f3 : w7.frozen? ⟨w.heap.size, 3, none⟩ = false := P7.frozen 3
  cases ho : okR s with
  | false =>
    have hpp := HP.out
    rw [ho, if_neg (by simp)] at hpp
    have HPP := Lib.hid hpp
    have HOO := Lib.hid ho
    clear hpp ho HP HE c0 c1 c2 c3
    have P8 : Blk ((((w7.setCell ⟨w.heap.size, 0, none⟩ (.int .u32 0)).setCell ⟨w.heap.size, 1, none⟩ (.int .i64 0)).setCell ⟨w.heap.size, 2, none⟩ (.int .i64 0)).setCell ⟨w.heap.size, 3, none⟩ (.string ⟨#[]⟩)) w.heap.size 177 #[.int .u32 0, .int .i64 0, .int .i64 0, .string ⟨#[]⟩] := by
      have := (((P7.set_ 0 (.int .u32 0)).set_ 1 (.int .i64 0)).set_ 2 (.int .i64 0)).set_ 3 (.string ⟨#[]⟩)
      simpa [pc] using this
    have bel8 := (((bel7.setCell (p := ⟨w.heap.size, 0, none⟩) (Nat.le_refl _) (.int .u32 0)).setCell (p := ⟨w.heap.size, 1, none⟩) (Nat.le_refl _) (.int .i64 0)).setCell (p := ⟨w.heap.size, 2, none⟩) (Nat.le_refl _) (.int .i64 0)).setCell (p := ⟨w.heap.size, 3, none⟩) (Nat.le_refl _) (.string ⟨#[]⟩)
    go_wp2_with fail
    refine bodyPost_ret (v := .tuple #[.agg #[.int .u32 0, .int .i64 0, .int .i64 0, .string ⟨#[]⟩], .bool false]) (by rw [results_cell_tmp_at rfl _ _ w.heap.size 0 #[.int .u32 0, .int .i64 0, .int .i64 0, .string ⟨#[]⟩] _ rfl (Cel.of_blk P8) Try.underlying177 rfl (szP' _ _ _ _)]; rfl) rfl ⟨by rw [HPP.out, HOO.out]; rfl, bel8⟩
  | true =>
    have hpp := HP.out
    rw [ho, if_pos rfl] at hpp
    have HPP := Lib.hid hpp
    have HOO := Lib.hid ho
    clear hpp ho HP HE
    have P8 : Blk ((((w7.setCell ⟨w.heap.size, 0, none⟩ (.int .u32 N1)).setCell ⟨w.heap.size, 1, none⟩ (.int .i64 N2)).setCell ⟨w.heap.size, 2, none⟩ (.int .i64 N3)).setCell ⟨w.heap.size, 3, none⟩ (.string L3)) w.heap.size 177 #[.int .u32 N1, .int .i64 N2, .int .i64 N3, .string L3] := by
      have := (((P7.set_ 0 (.int .u32 N1)).set_ 1 (.int .i64 N2)).set_ 2 (.int .i64 N3)).set_ 3 (.string L3)
      simpa [pc] using this
    have bel8 := (((bel7.setCell (p := ⟨w.heap.size, 0, none⟩) (Nat.le_refl _) (.int .u32 N1)).setCell (p := ⟨w.heap.size, 1, none⟩) (Nat.le_refl _) (.int .i64 N2)).setCell (p := ⟨w.heap.size, 2, none⟩) (Nat.le_refl _) (.int .i64 N3)).setCell (p := ⟨w.heap.size, 3, none⟩) (Nat.le_refl _) (.string L3)
    go_wp2_with fail
    refine bodyPost_ret (v := .tuple #[.agg #[.int .u32 N1, .int .i64 N2, .int .i64 N3, .string L3], .bool true]) (by rw [results_cell_tmp_at rfl _ _ w.heap.size 0 #[.int .u32 N1, .int .i64 N2, .int .i64 N3, .string L3] _ rfl (Cel.of_blk P8) Try.underlying177 rfl (szP' _ _ _ _)]; rfl) rfl ⟨by rw [HPP.out, HOO.out]; rfl, bel8⟩
end Go.Proofs.Ythddacgdmngfhaa.fil
