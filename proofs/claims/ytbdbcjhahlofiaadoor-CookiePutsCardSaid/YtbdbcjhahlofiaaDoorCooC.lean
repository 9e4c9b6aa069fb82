/- Layer 10: cookies put with a seal, and read. -/
import Derived.Test.YtbdbcjhahlofiaaDoorCooB
import Derived.Test.YtbdbcjhahlofiaaDoorMacD
namespace Go.Proofs.YtbdbcjhahlofiaaDoor.coo
open Go.Sort (grow)
open Go.ChangeShapes Go.WideShapes Go.ChangeAt Go.RowKit kit oct
open dig (Starts Added)
open mac (macS macS_size mac_any refmac_any is_any)
set_option maxRecDepth 100000

/-- A cookie's bytes with their seal; none of one that may not be. -/
def putS (key : ByteArray) (c : Ck) : ByteArray := if c.may then c.bytes ++ macS key c.bytes else ByteArray.empty
theorem szK (c : Ck) : (Tryd.prog.info? 25).map (·.size) = some c.cells.size := by show _ = some 16; kernel_rfl
theorem one_all (c : Ck) : c.cells.all (·.oneCell') = true := by cases c; kernel_rfl
theorem ne_empty (b : ByteArray) (h : b.size = 84) : (b.toList == []) = false := by
  rw [beq_eq_false_iff_ne, ByteArray.toList_eq]
  intro e
  have h0 : b.data.toList.length = 0 := by rw [e]; rfl
  have h1 : b.data.toList.length = b.size := by simp
  omega
theorem put_yes (key : ByteArray) (c : Ck) (h : c.may) (g : c.wf) (w : World) (S0 : Starts w) (A : Added w) (hk : key.size ≤ 1000000) : Calls Tryd.prog 8 #[.string key, .agg c.cells] w fun e w' => e = .returned (.string (c.bytes ++ macS key c.bytes)) ∧ Below w.heap.size w w' := by
  have hb := fun w => bytes_yes c h g w
  have hne := ne_empty c.bytes (bytes_size h)
  have hz : c.bytes.size ≤ 84 := by rw [bytes_size h]; omega
  have hO := fun (w : World) S0 A => mac_any key c.bytes w S0 A (by omega) (by omega)
  have hM := macS_size key c.bytes
  have bel := (Below.refl w.heap.size w).alloc (Nat.le_refl _) (.cells c.cells 25)
  have N := Blk.new w 25 c.cells
  have hM2 : (macS key c.bytes).size ≤ 20 := by omega
  have sz := szK c
  generalize macS key c.bytes = M at *
  generalize c.bytes = S at *
  clear h g hM
  go_enter Tryd.func8, Tryd.ntmps8
  go_upto_region 1 with (fail)
  generalize w.alloc (.cells c.cells 25) = w1 at *
  go_wp2_with (refine wpList_load_at rfl 25 _ rfl w.heap.size 0 rfl c.cells _ (Cel.of_blk N) Tryd.underlying25 rfl sz ?_)
  refine (hb _).mono ?_
  rintro e w2 ⟨rfl, hb2⟩
  have bel2 := bel.trans (hb2.mono bel.size)
  clear hb N sz
  go_wp2_with fail
  refine (hO w2 (S0.below bel2) (A.below bel2)).mono ?_
  rintro e w3 ⟨rfl, hb3⟩
  clear hO
  go_wp2_with fail
  go_ret
  exact ⟨rfl, bel2.trans (hb3.mono bel2.size)⟩
theorem put_no (key : ByteArray) (c : Ck) (h : ¬ c.may) (w : World) : Calls Tryd.prog 8 #[.string key, .agg c.cells] w fun e w' => e = .returned (.string ByteArray.empty) ∧ Below w.heap.size w w' := by
  have hb := fun w => bytes_no c h w
  have bel := (Below.refl w.heap.size w).alloc (Nat.le_refl _) (.cells c.cells 25)
  have N := Blk.new w 25 c.cells
  have sz := szK c
  clear h
  go_enter Tryd.func8, Tryd.ntmps8
  go_upto_region 1 with (fail)
  generalize w.alloc (.cells c.cells 25) = w1 at *
  go_wp2_with (refine wpList_load_at rfl 25 _ rfl w.heap.size 0 rfl c.cells _ (Cel.of_blk N) Tryd.underlying25 rfl sz ?_)
  refine (hb _).mono ?_
  rintro e w2 ⟨rfl, hb2⟩
  have bel2 := bel.trans (hb2.mono bel.size)
  have he : ((ByteArray.empty).toList == []) = true := by rw [ByteArray.toList_eq]; rfl
  go_wp2_with fail
  go_ret
  exact ⟨rfl, bel2⟩
theorem rput_yes (key : ByteArray) (c : Ck) (h : c.may) (g : c.wf) (w : World) (hk : key.size ≤ 1000000) : Calls Tryd.prog 10 #[.string key, .agg c.cells] w fun e w' => e = .returned (.string (c.bytes ++ macS key c.bytes)) ∧ Below w.heap.size w w' := by
  have hb := fun w => rbytes_yes c h g w
  have hne := ne_empty c.bytes (bytes_size h)
  have hz : c.bytes.size ≤ 84 := by rw [bytes_size h]; omega
  have hO := fun (w : World)  => refmac_any key c.bytes w  (by omega) (by omega)
  have hM := macS_size key c.bytes
  have bel := (Below.refl w.heap.size w).alloc (Nat.le_refl _) (.cells c.cells 25)
  have N := Blk.new w 25 c.cells
  have hM2 : (macS key c.bytes).size ≤ 20 := by omega
  have sz := szK c
  generalize macS key c.bytes = M at *
  generalize c.bytes = S at *
  clear h g hM
  go_enter Tryd.func10, Tryd.ntmps10
  go_upto_region 1 with (fail)
  generalize w.alloc (.cells c.cells 25) = w1 at *
  go_wp2_with (refine wpList_load_at rfl 25 _ rfl w.heap.size 0 rfl c.cells _ (Cel.of_blk N) Tryd.underlying25 rfl sz ?_)
  refine (hb _).mono ?_
  rintro e w2 ⟨rfl, hb2⟩
  have bel2 := bel.trans (hb2.mono bel.size)
  clear hb N sz
  go_wp2_with fail
  refine (hO w2 ).mono ?_
  rintro e w3 ⟨rfl, hb3⟩
  clear hO
  go_wp2_with fail
  go_ret
  exact ⟨rfl, bel2.trans (hb3.mono bel2.size)⟩
theorem rput_no (key : ByteArray) (c : Ck) (h : ¬ c.may) (w : World) : Calls Tryd.prog 10 #[.string key, .agg c.cells] w fun e w' => e = .returned (.string ByteArray.empty) ∧ Below w.heap.size w w' := by
  have hb := fun w => rbytes_no c h w
  have bel := (Below.refl w.heap.size w).alloc (Nat.le_refl _) (.cells c.cells 25)
  have N := Blk.new w 25 c.cells
  have sz := szK c
  clear h
  go_enter Tryd.func10, Tryd.ntmps10
  go_upto_region 1 with (fail)
  generalize w.alloc (.cells c.cells 25) = w1 at *
  go_wp2_with (refine wpList_load_at rfl 25 _ rfl w.heap.size 0 rfl c.cells _ (Cel.of_blk N) Tryd.underlying25 rfl sz ?_)
  refine (hb _).mono ?_
  rintro e w2 ⟨rfl, hb2⟩
  have bel2 := bel.trans (hb2.mono bel.size)
  have he : ((ByteArray.empty).toList == []) = true := by rw [ByteArray.toList_eq]; rfl
  go_wp2_with fail
  go_ret
  exact ⟨rfl, bel2⟩

/-- What is taken of a reader. -/
def rdS (l : ByteArray) (k : Nat) : ByteArray := if k ≤ l.size then l.extract 0 k else ByteArray.empty
theorem rdL_size (l : ByteArray) (e : Int) (k : Nat) : (rdL l e k).size ≤ l.size := by
  unfold rdL failL
  split
  · simp
  · split
    · exact Nat.le_refl _
    · simp
theorem take16 (g : Nat) (l : ByteArray) (e0 : Int) (w : World) (h : RD w g l e0) (hl : l.size ≤ maxLen) :
    Calls Tryd.prog 39 #[.pointer (some ⟨g, 0, none⟩), .int .i64 16] w fun x w' => x = .returned (.string (rdS l 16)) ∧ RD w' g (rdL l e0 16) (rdE l e0 16) ∧ oct.Touch g w w' := by
  have := take_any g l e0 16 w h hl
  unfold rdS rdL rdE
  by_cases c : 16 ≤ l.size
  · rw [if_pos c, if_pos c, if_pos c]
    rw [if_pos (by omega), if_pos (by omega), if_pos (by omega)] at this
    exact this
  · rw [if_neg c, if_neg c, if_neg c]
    rw [if_neg (by omega), if_neg (by omega), if_neg (by omega)] at this
    exact this
theorem run_cons (k : Nat) (ks : List Nat) (l : ByteArray) (e : Int) : run (k :: ks) (l, e) = run ks (rdL l e k, rdE l e k) := rfl
theorem step_read {l : ByteArray} {e : Int} {k z : Nat} (he : e = 0) (hz : l.size = z) (hk : k ≤ z) : rdL l e k = l.extract k l.size ∧ rdE l e k = 0 ∧ ((rdN l k : Nat) : Int) = num (l.extract 0 k) ∧ rdS l k = l.extract 0 k ∧ (l.extract k l.size).size = z - k := by
  have h : k ≤ l.size := by omega
  unfold rdL rdE rdN rdS num
  rw [if_pos h, if_pos h, if_pos h, if_pos h, take_data]
  exact ⟨rfl, he, rfl, rfl, by simp; omega⟩
theorem chain_end {s l1 l2 l3 l4 l5 l6 l7 l8 l9 l10 l11 l12 l13 l14 l15 l16 : ByteArray} {e1 e2 e3 e4 e5 e6 e7 e8 e9 e10 e11 e12 e13 e14 e15 e16 : Int} (hl1 : l1 = rdL s 0 8) (he1 : e1 = rdE s 0 8) (hl2 : l2 = rdL l1 e1 4) (he2 : e2 = rdE l1 e1 4) (hl3 : l3 = rdL l2 e2 4) (he3 : e3 = rdE l2 e2 4) (hl4 : l4 = rdL l3 e3 4) (he4 : e4 = rdE l3 e3 4) (hl5 : l5 = rdL l4 e4 4) (he5 : e5 = rdE l4 e4 4) (hl6 : l6 = rdL l5 e5 4) (he6 : e6 = rdE l5 e5 4) (hl7 : l7 = rdL l6 e6 4) (he7 : e7 = rdE l6 e6 4) (hl8 : l8 = rdL l7 e7 2) (he8 : e8 = rdE l7 e7 2) (hl9 : l9 = rdL l8 e8 2) (he9 : e9 = rdE l8 e8 2) (hl10 : l10 = rdL l9 e9 4) (he10 : e10 = rdE l9 e9 4) (hl11 : l11 = rdL l10 e10 2) (he11 : e11 = rdE l10 e10 2) (hl12 : l12 = rdL l11 e11 2) (he12 : e12 = rdE l11 e11 2) (hl13 : l13 = rdL l12 e12 4) (he13 : e13 = rdE l12 e12 4) (hl14 : l14 = rdL l13 e13 4) (he14 : e14 = rdE l13 e13 4) (hl15 : l15 = rdL l14 e14 16) (he15 : e15 = rdE l14 e14 16) (hl16 : l16 = rdL l15 e15 16) (he16 : e16 = rdE l15 e15 16) : endE l16 e16 = if s.size < 84 then 2 else if s.size = 84 then 0 else 3 := by
  have hr : run sizes (s, 0) = (l16, e16) := by
    unfold sizes
    rw [run_cons, ← hl1, ← he1]
    rw [run_cons, ← hl2, ← he2]
    rw [run_cons, ← hl3, ← he3]
    rw [run_cons, ← hl4, ← he4]
    rw [run_cons, ← hl5, ← he5]
    rw [run_cons, ← hl6, ← he6]
    rw [run_cons, ← hl7, ← he7]
    rw [run_cons, ← hl8, ← he8]
    rw [run_cons, ← hl9, ← he9]
    rw [run_cons, ← hl10, ← he10]
    rw [run_cons, ← hl11, ← he11]
    rw [run_cons, ← hl12, ← he12]
    rw [run_cons, ← hl13, ← he13]
    rw [run_cons, ← hl14, ← he14]
    rw [run_cons, ← hl15, ← he15]
    rw [run_cons, ← hl16, ← he16]
    rfl
  have hs : sizes.sum = 84 := rfl
  clear hl16 he16 hl15 he15 hl14 he14 hl13 he13 hl12 he12 hl11 he11 hl10 he10 hl9 he9 hl8 he8 hl7 he7 hl6 he6 hl5 he5 hl4 he4 hl3 he3 hl2 he2 hl1 he1
  by_cases a : s.size < 84
  · rw [if_pos a]
    rw [run_short sizes s (by omega)] at hr
    simp only [Prod.mk.injEq] at hr
    rw [← hr.1, ← hr.2]
    rfl
  · rw [if_neg a]
    rw [run_ok sizes s (by omega), hs] at hr
    simp only [Prod.mk.injEq] at hr
    have hz : (s.extract 84 s.size).size = s.size - 84 := by simp
    unfold endE
    rw [← hr.1, ← hr.2, hz]
    by_cases b : s.size = 84
    · rw [if_pos b, if_neg (by omega)]
    · rw [if_neg b, if_pos (by omega)]
theorem chain_parse {s l1 l2 l3 l4 l5 l6 l7 l8 l9 l10 l11 l12 l13 l14 l15 l16 : ByteArray} {e1 e2 e3 e4 e5 e6 e7 e8 e9 e10 e11 e12 e13 e14 e15 e16 : Int} (hl1 : l1 = rdL s 0 8) (he1 : e1 = rdE s 0 8) (hl2 : l2 = rdL l1 e1 4) (he2 : e2 = rdE l1 e1 4) (hl3 : l3 = rdL l2 e2 4) (he3 : e3 = rdE l2 e2 4) (hl4 : l4 = rdL l3 e3 4) (he4 : e4 = rdE l3 e3 4) (hl5 : l5 = rdL l4 e4 4) (he5 : e5 = rdE l4 e4 4) (hl6 : l6 = rdL l5 e5 4) (he6 : e6 = rdE l5 e5 4) (hl7 : l7 = rdL l6 e6 4) (he7 : e7 = rdE l6 e6 4) (hl8 : l8 = rdL l7 e7 2) (he8 : e8 = rdE l7 e7 2) (hl9 : l9 = rdL l8 e8 2) (he9 : e9 = rdE l8 e8 2) (hl10 : l10 = rdL l9 e9 4) (he10 : e10 = rdE l9 e9 4) (hl11 : l11 = rdL l10 e10 2) (he11 : e11 = rdE l10 e10 2) (hl12 : l12 = rdL l11 e11 2) (he12 : e12 = rdE l11 e11 2) (hl13 : l13 = rdL l12 e12 4) (he13 : e13 = rdE l12 e12 4) (hl14 : l14 = rdL l13 e13 4) (he14 : e14 = rdE l13 e13 4) (hl15 : l15 = rdL l14 e14 16) (he15 : e15 = rdE l14 e14 16) (hl16 : l16 = rdL l15 e15 16) (he16 : e16 = rdE l15 e15 16) (hz0 : s.size = 84) : (⟨((rdN s 8 : Nat) : Int), ((rdN l1 4 : Nat) : Int), ((rdN l2 4 : Nat) : Int), ((rdN l3 4 : Nat) : Int), ((rdN l4 4 : Nat) : Int), ((rdN l5 4 : Nat) : Int), ((rdN l6 4 : Nat) : Int), ((rdN l7 2 : Nat) : Int), ((rdN l8 2 : Nat) : Int), ((rdN l9 4 : Nat) : Int), ((rdN l10 2 : Nat) : Int), ((rdN l11 2 : Nat) : Int), ((rdN l12 4 : Nat) : Int), ((rdN l13 4 : Nat) : Int), rdS l14 16, rdS l15 16⟩ : Ck) = parse s := by
  obtain ⟨a0, b0, c0, d0, hz1⟩ := step_read (k := 8) (z := 84) (rfl : (0 : Int) = 0) hz0 (by omega)
  rw [a0] at hl1
  rw [b0] at he1
  rw [← hl1] at hz1
  obtain ⟨a1, b1, c1, d1, hz2⟩ := step_read (k := 4) (z := 76) he1 hz1 (by omega)
  rw [a1] at hl2
  rw [b1] at he2
  rw [← hl2] at hz2
  obtain ⟨a2, b2, c2, d2, hz3⟩ := step_read (k := 4) (z := 72) he2 hz2 (by omega)
  rw [a2] at hl3
  rw [b2] at he3
  rw [← hl3] at hz3
  obtain ⟨a3, b3, c3, d3, hz4⟩ := step_read (k := 4) (z := 68) he3 hz3 (by omega)
  rw [a3] at hl4
  rw [b3] at he4
  rw [← hl4] at hz4
  obtain ⟨a4, b4, c4, d4, hz5⟩ := step_read (k := 4) (z := 64) he4 hz4 (by omega)
  rw [a4] at hl5
  rw [b4] at he5
  rw [← hl5] at hz5
  obtain ⟨a5, b5, c5, d5, hz6⟩ := step_read (k := 4) (z := 60) he5 hz5 (by omega)
  rw [a5] at hl6
  rw [b5] at he6
  rw [← hl6] at hz6
  obtain ⟨a6, b6, c6, d6, hz7⟩ := step_read (k := 4) (z := 56) he6 hz6 (by omega)
  rw [a6] at hl7
  rw [b6] at he7
  rw [← hl7] at hz7
  obtain ⟨a7, b7, c7, d7, hz8⟩ := step_read (k := 2) (z := 52) he7 hz7 (by omega)
  rw [a7] at hl8
  rw [b7] at he8
  rw [← hl8] at hz8
  obtain ⟨a8, b8, c8, d8, hz9⟩ := step_read (k := 2) (z := 50) he8 hz8 (by omega)
  rw [a8] at hl9
  rw [b8] at he9
  rw [← hl9] at hz9
  obtain ⟨a9, b9, c9, d9, hz10⟩ := step_read (k := 4) (z := 48) he9 hz9 (by omega)
  rw [a9] at hl10
  rw [b9] at he10
  rw [← hl10] at hz10
  obtain ⟨a10, b10, c10, d10, hz11⟩ := step_read (k := 2) (z := 44) he10 hz10 (by omega)
  rw [a10] at hl11
  rw [b10] at he11
  rw [← hl11] at hz11
  obtain ⟨a11, b11, c11, d11, hz12⟩ := step_read (k := 2) (z := 42) he11 hz11 (by omega)
  rw [a11] at hl12
  rw [b11] at he12
  rw [← hl12] at hz12
  obtain ⟨a12, b12, c12, d12, hz13⟩ := step_read (k := 4) (z := 40) he12 hz12 (by omega)
  rw [a12] at hl13
  rw [b12] at he13
  rw [← hl13] at hz13
  obtain ⟨a13, b13, c13, d13, hz14⟩ := step_read (k := 4) (z := 36) he13 hz13 (by omega)
  rw [a13] at hl14
  rw [b13] at he14
  rw [← hl14] at hz14
  obtain ⟨a14, b14, c14, d14, hz15⟩ := step_read (k := 16) (z := 32) he14 hz14 (by omega)
  rw [a14] at hl15
  rw [b14] at he15
  rw [← hl15] at hz15
  obtain ⟨a15, b15, c15, d15, hz16⟩ := step_read (k := 16) (z := 16) he15 hz15 (by omega)
  rw [a15] at hl16
  rw [b15] at he16
  rw [← hl16] at hz16
  rw [c0, c1, c2, c3, c4, c5, c6, c7, c8, c9, c10, c11, c12, c13, d14, d15]
  subst hl16 hl15 hl14 hl13 hl12 hl11 hl10 hl9 hl8 hl7 hl6 hl5 hl4 hl3 hl2 hl1
  rfl
end Go.Proofs.YtbdbcjhahlofiaaDoor.coo
