/- Layer 8: the eighty words of a block. -/
import Derived.Test.YtbdbcjhahlofiaaDoorDigA
import Derived.LoopTactic
import Derived.Outline
import Derived.Laws.CopyOwn
import Derived.Deep.QuietTactic
import Derived.BigQuiet
import Derived.StillTailTactics
import Derived.Deep.DeepCutAuto
namespace Go.Proofs.YtbdbcjhahlofiaaDoor.dig
open Go.ChangeShapes Go.WideShapes Go.ChangeAt Go.RowKit kit
open crc (ones xor_ones word)
open oct

/-- A row of N words of which the first ones are known, the others nought. -/
def rowOf (N : Nat) (p : List Nat) : Array Value := ((p ++ List.replicate (N - p.length) 0).map word).toArray
theorem rowOf_size {N : Nat} {p : List Nat} (h : p.length ≤ N) : (rowOf N p).size = N := by simp [rowOf]; omega
theorem rowOf_at {N : Nat} {p : List Nat} {i : Nat} (hi : i < p.length) : (rowOf N p)[i]? = some (word (p.getD i 0)) := by
  simp [rowOf, List.getElem?_append, hi]
theorem rowOf_any {N : Nat} {p : List Nat} {i : Nat} (h : p.length ≤ N) (hi : i < N) : ∃ u, (rowOf N p)[i]? = some u := by
  have : i < (rowOf N p).size := by rw [rowOf_size h]; exact hi
  exact ⟨_, Array.getElem?_eq_getElem this⟩
theorem rowOf_set {N : Nat} {p : List Nat} (v : Nat) (h : p.length < N) : (rowOf N p).setIfInBounds p.length (word v) = rowOf N (p ++ [v]) := by
  apply Array.toList_inj.1
  obtain ⟨m, hm⟩ : ∃ m, N - p.length = m + 1 := ⟨N - p.length - 1, by omega⟩
  have hm2 : N - (p.length + 1) = m := by omega
  simp [rowOf, hm, hm2, List.replicate_succ, List.set_append]
theorem rowOf_one (N : Nat) (p : List Nat) : ((rowOf N p).all fun x => x.oneCell') = true := by
  simp only [rowOf, List.all_toArray, List.all_eq_true, List.mem_map]
  rintro x ⟨n, _, rfl⟩
  rfl
theorem zero80 : Tryd.zeroCells73 = rowOf 80 [] := by kernel_rfl

theorem numV_eq (l : List UInt8) : numV l = numL l := by cases l <;> rfl
theorem wl_succ_lt (l : List UInt8) (k : Nat) (h : k < 16) : wl l (k + 1) = wl l k ++ [base l k] := by
  show wl l k ++ [if k < 16 then base l k else _] = _
  rw [if_pos h]
theorem wl_succ_ge (l : List UInt8) (k : Nat) (h : ¬ k < 16) : wl l (k + 1) = wl l k ++ [rot ((wl l k).getD (k - 3) 0 ^^^ (wl l k).getD (k - 8) 0 ^^^ (wl l k).getD (k - 14) 0 ^^^ (wl l k).getD (k - 16) 0) 1] := by
  show wl l k ++ [if k < 16 then base l k else _] = _
  rw [if_neg h]
theorem rd_base (B : ByteArray) (k : Nat) (hB : B.size = 64) (hk : k < 16) : rdN (B.extract (4 * k) 64) 4 = base B.data.toList k := by
  unfold rdN base
  have hs : (B.extract (4 * k) 64).size = 64 - 4 * k := by rw [ByteArray.size_extract]; omega
  rw [if_pos (by omega), numV_eq]
  congr 1
  simp only [ByteArray.data_extract, Array.toList_extract, List.extract_eq_take_drop]
  rw [List.take_take]
  congr 1
  omega
theorem rd_rest (B : ByteArray) (k : Nat) (hB : B.size = 64) (hk : k < 16) : rdL (B.extract (4 * k) 64) 0 4 = B.extract (4 * (k + 1)) 64 := by
  unfold rdL
  have hs : (B.extract (4 * k) 64).size = 64 - 4 * k := by rw [ByteArray.size_extract]; omega
  rw [if_pos (by omega), hs]
  rw [ByteArray.extract_extract]
  congr 1
  omega

theorem rd_err (B : ByteArray) (k : Nat) (hB : B.size = 64) (hk : k < 16) : rdE (B.extract (4 * k) 64) 0 4 = 0 := by
  unfold rdE
  rw [if_pos (by rw [ByteArray.size_extract]; omega)]
theorem ext_whole (B : ByteArray) (hB : B.size = 64) : B.extract (4 * min 0 16) 64 = B := by
  rw [← hB]; simp
set_option maxRecDepth 100000 in
set_option maxHeartbeats 1000000 in
theorem words_any (B : ByteArray) (w : World) (hB : B.size = 64) : Calls Tryd.prog 49 #[.string B] w fun e w' => e = .returned (.agg (rowOf 80 (wl B.data.toList 80))) ∧ Below w.heap.size w w' := by
  have HZ := zero80
  have HB := Lib.hid hB
  clear hB
  go_enter Tryd.func49, Tryd.ntmps49
  go_wp2_with fail
  refine (new_any _ _).mono ?_
  rintro e w1 ⟨rfl, hw1⟩
  have B0 : Blk w1 w.heap.size 73 (rowOf 80 []) := by rw [hw1]; exact ((Blk.new _ _ _).alloc _).alloc _
  have B1 : Blk w1 (w.heap.size + 1) 73 (rowOf 80 []) := by rw [hw1]; exact (blk_new2 w (.cells (rowOf 80 []) 73) 73 (rowOf 80 [])).alloc _
  have R0 : RD w1 (w.heap.size + 1 + 1) B 0 := by rw [hw1]; unfold RD; simpa using Blk.new ((w.alloc (.cells (rowOf 80 []) 73)).alloc (.cells (rowOf 80 []) 73)) 78 #[.string B, .int .i64 0]
  have bel : Below w.heap.size w w1 := by rw [hw1]; exact (((Below.refl w.heap.size w).alloc (Nat.le_refl _) _).alloc (by simp) _).alloc (by simp; omega) _
  have hsz : ((w.alloc (.cells (rowOf 80 []) 73)).alloc (.cells (rowOf 80 []) 73)).heap.size = w.heap.size + 1 + 1 := by simp
  rw [hsz]
  clear hw1 HZ hsz
  go_wp2
  go_loopw [8] (fun s8 wr => ∃ k : Nat, k ≤ 80 ∧ s8 = .int .i64 k ∧ Blk wr w.heap.size 73 (rowOf 80 []) ∧ Blk wr (w.heap.size + 1) 73 (rowOf 80 (wl B.data.toList k)) ∧ RD wr (w.heap.size + 1 + 1) (B.extract (4 * min k 16) 64) 0 ∧ Below w.heap.size w wr) (fun s8 _ => 80 - (intOf s8).toNat)
  case atStart => exact ⟨0, by omega, rfl, B0, B1, (by rw [ext_whole B HB.out]; exact R0), bel⟩
  case round =>
    clear B0 B1 R0 bel
    obtain ⟨k, hk, rfl, B0, B1, R, bel⟩ := hrel
    have hlen := wl_len B.data.toList k
    by_cases hlt : k < 80
    · by_cases h16 : k < 16
      · have hT := fun W (h : RD W (w.heap.size + 1 + 1) (B.extract (4 * k) 64) 0) => r32_any (w.heap.size + 1 + 1) (B.extract (4 * k) 64) 0 W h (by unfold maxLen; rw [ByteArray.size_extract]; omega)
        rw [rd_base B k HB.out h16, rd_rest B k HB.out h16, rd_err B k HB.out h16] at hT
        rw [Nat.min_eq_left (by omega)] at R
        have HW := Lib.hid (wl_succ_lt B.data.toList k h16)
        have HL := Lib.hid hlen
        clear hlen
        go_wp2_with fail
        refine (hT _ R).mono ?_
        rintro e w5 ⟨rfl, R5, T5⟩
        have B05 := T5.blk B0 (by omega)
        have B15 := T5.blk B1 (by omega)
        have bel5 := T5.below bel (by omega) bel.size
        clear hT R T5 B0 B1 bel
        obtain ⟨u, hu⟩ := rowOf_any (p := wl B.data.toList k) (i := k) (by rw [HL.out]; omega) hlt
        have c0 := (B15.cell k).trans hu
        have f0 := B15.frozen k
        clear hu
        go_wp2
        clear c0 f0
        go_roundw
        case rel => exact ⟨k + 1, by omega, by go_num, B05.far (by simp) _, by
            rw [HW.out, ← rowOf_set _ (by rw [HL.out]; exact hlt), HL.out]; exact B15.set_ k _, by
            rw [Nat.min_eq_left (by omega)]; exact R5.far (by simp) _, bel5.setCell (by simp) _⟩
        case measure => simp [intOf]; omega
      · have h16' : 16 ≤ k := by omega
        have hp : ∀ i, i < k → (rowOf 80 (wl B.data.toList k))[i]? = some (word ((wl B.data.toList k).getD i 0)) := fun i hi => rowOf_at (by rw [hlen]; exact hi)
        have hv := wl_lt B.data.toList k
        have HW := Lib.hid (wl_succ_ge B.data.toList k h16)
        obtain ⟨a3, ha3⟩ : ∃ a, (wl B.data.toList k).getD (k - 3) 0 = a := ⟨_, rfl⟩
        obtain ⟨a8, ha8⟩ : ∃ a, (wl B.data.toList k).getD (k - 8) 0 = a := ⟨_, rfl⟩
        obtain ⟨a14, ha14⟩ : ∃ a, (wl B.data.toList k).getD (k - 14) 0 = a := ⟨_, rfl⟩
        obtain ⟨a16, ha16⟩ : ∃ a, (wl B.data.toList k).getD (k - 16) 0 = a := ⟨_, rfl⟩
        have v3 := hv (k - 3)
        have v8 := hv (k - 8)
        have v14 := hv (k - 14)
        have v16 := hv (k - 16)
        rw [ha3] at v3
        rw [ha8] at v8
        rw [ha14] at v14
        rw [ha16] at v16
        rw [ha3, ha8, ha14, ha16] at HW
        have c3 := (B1.cell (k - 3)).trans ((hp (k - 3) (by omega)).trans (by rw [ha3]))
        have c8 := (B1.cell (k - 8)).trans ((hp (k - 8) (by omega)).trans (by rw [ha8]))
        have c14 := (B1.cell (k - 14)).trans ((hp (k - 14) (by omega)).trans (by rw [ha14]))
        have c16 := (B1.cell (k - 16)).trans ((hp (k - 16) (by omega)).trans (by rw [ha16]))
        unfold word at c3 c8 c14 c16
        have x1 := xor32 a3 a8 v3 v8
        have x2 := xor32 (a3 ^^^ a8) a14 (xor_lt v3 v8) v14
        have x3 := xor32 (a3 ^^^ a8 ^^^ a14) a16 (xor_lt (xor_lt v3 v8) v14) v16
        have hR := fun w => (rot1 (a3 ^^^ a8 ^^^ a14 ^^^ a16) w (xor_lt (xor_lt (xor_lt v3 v8) v14) v16)).mono (R' := fun e w' => e = .returned (.int .u32 (rot (a3 ^^^ a8 ^^^ a14 ^^^ a16) 1 : Nat)) ∧ w' = w) (fun _ _ h => ⟨h.1, h.2.symm⟩)
        have HL := Lib.hid hlen
        obtain ⟨u, hu⟩ := rowOf_any (p := wl B.data.toList k) (i := k) (by omega) hlt
        have c0 := (B1.cell k).trans hu
        have f0 := B1.frozen k
        clear hu hlen hp hv ha3 ha8 ha14 ha16 v3 v8 v14 v16 h16
        generalize a3 ^^^ a8 ^^^ a14 ^^^ a16 = x at *
        generalize a3 ^^^ a8 ^^^ a14 = y at *
        generalize a3 ^^^ a8 = z at *
        obtain ⟨j3, q3⟩ : ∃ j, k - 3 = j := ⟨_, rfl⟩
        obtain ⟨j8, q8⟩ : ∃ j, k - 8 = j := ⟨_, rfl⟩
        obtain ⟨j14, q14⟩ : ∃ j, k - 14 = j := ⟨_, rfl⟩
        obtain ⟨j16, q16⟩ : ∃ j, k - 16 = j := ⟨_, rfl⟩
        rw [q3] at c3
        rw [q8] at c8
        rw [q14] at c14
        rw [q16] at c16
        have w3 : IntKind.i64.wrap ((k : Int) - 3) = (j3 : Int) := by rw [IntWalk.i64_in _ (by omega)]; omega
        have w8 : IntKind.i64.wrap ((k : Int) - 8) = (j8 : Int) := by rw [IntWalk.i64_in _ (by omega)]; omega
        have w14 : IntKind.i64.wrap ((k : Int) - 14) = (j14 : Int) := by rw [IntWalk.i64_in _ (by omega)]; omega
        have w16 : IntKind.i64.wrap ((k : Int) - 16) = (j16 : Int) := by rw [IntWalk.i64_in _ (by omega)]; omega
        have b3 : (j3 : Int) < 80 := by omega
        have b8 : (j8 : Int) < 80 := by omega
        have b14 : (j14 : Int) < 80 := by omega
        have b16 : (j16 : Int) < 80 := by omega
        have bk : (k : Int) < 80 := by omega
        clear q3 q8 q14 q16
        go_upto_region 8 with (fail)
        refine wp_region_still_tail 22 (by kernel_rfl) (by kernel_rfl) ?_
        simp only [List.take_succ_cons, List.take_zero, List.drop_succ_cons, List.drop_zero]
        repeat still_step
        still_call (hR _)
        repeat still_step
        refine wpStill_nil ?_
        change wpList _ _ _ _ _ wr.drew
        have B05 : Blk wr.drew w.heap.size 73 (rowOf 80 []) := B0
        have B15 : Blk wr.drew (w.heap.size + 1) 73 (rowOf 80 (wl B.data.toList k)) := B1
        have R5 : RD wr.drew (w.heap.size + 1 + 1) (B.extract (4 * min k 16) 64) 0 := R
        have bel5 := bel.drew
        have c05 : wr.drew.cell? ⟨w.heap.size + 1, k, none⟩ = some u := c0
        have f05 : wr.drew.frozen? ⟨w.heap.size + 1, k, none⟩ = false := f0
        generalize wr.drew = w5 at *
        clear c0 f0 c3 c8 c14 c16 x1 x2 x3 hR w3 w8 w14 w16 b3 b8 b14 b16 B0 B1 R bel
        go_wp2
        clear c05 f05
        go_roundw
        case rel => exact ⟨k + 1, by omega, by go_num, B05.far (by simp) _, by
            rw [HW.out, ← rowOf_set _ (by rw [HL.out]; exact hlt), HL.out]; exact B15.set_ k _, by
            rw [show min (k + 1) 16 = min k 16 by omega]; exact R5.far (by simp) _, bel5.setCell (by simp) _⟩
        case measure => simp [intOf]; omega
    · have hk' : k = 80 := by omega
      subst hk'
      clear hlt hk R
      have sz : (Tryd.prog.info? 73).map (·.size) = some (rowOf 80 (wl B.data.toList 80)).size := by rw [rowOf_size (by omega)]; kernel_rfl
      have so : (rowOf 80 []).size = (rowOf 80 (wl B.data.toList 80)).size := (rowOf_size (p := []) (Nat.zero_le _)).trans (rowOf_size (by omega)).symm
      clear hlen
      generalize rowOf 80 [] = z0 at *
      have h1 := rowOf_one 80 (wl B.data.toList 80)
      obtain ⟨z1, hz1⟩ : ∃ z, rowOf 80 (wl B.data.toList 80) = z := ⟨_, rfl⟩
      have HZ1 := Lib.hid hz1
      rw [hz1] at B1 sz so h1
      clear hz1
      go_wp2_with (first | (refine wpList_load_row rfl 73 _ rfl _ rfl _ _ _ _ B1 Tryd.underlying73 rfl sz ?_) | (refine wpList_store_row rfl 73 _ _ rfl _ _ rfl rfl _ _ B0 sz so h1 ?_))
      exact bodyPost_ret (v := .agg z1) (results_cell_row rfl _ _ w.heap.size 73 z1 (0, 0) _ rfl (setRow_heap _ _ _ _ _ _ B0) Tryd.underlying73 rfl sz) rfl ⟨by rw [HZ1.out], below_setRow bel (Nat.le_refl _) _⟩
end Go.Proofs.YtbdbcjhahlofiaaDoor.dig
