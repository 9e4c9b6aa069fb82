/- Layer 8: small functions of digests, by contracts. -/
import Derived.WalkLawsBesides
import Derived.LoopTactic
import Derived.Outline
import Derived.Laws.CopyOwn
import Derived.Lib.LaidTab
import Derived.Laws.ShiftsVarLaws
import Derived.Deep.QuietTactic
import Derived.BigQuiet
import Derived.StillTailTactics
import Derived.Deep.DeepCutAuto
import Derived.Deep.RegionWith
import Derived.BigRegion
import Derived.Lib.Strings
import Derived.Laws.IdiomStrings
import Derived.Lib.SliceRun
import Derived.Stop.LaidErr
import Derived.Lib.QuietBelow
import Derived.Laws.IdiomCopy
import Derived.Test.YtlaemmplemngmaaDoorGC
namespace Go.Proofs.YtlaemmplemngmaaDoor.dig
open Go.ChangeShapes Go.WideShapes Go.ChangeAt Go.RowKit kit
open crc (ones xor_ones word)
open oct

theorem or32 (a b : Nat) (h : a < 4294967296) (h' : b < 4294967296) : bits .or .u32 (a : Int) (b : Int) = ((a ||| b : Nat) : Int) := u32_or_nat a b h h'
theorem and32 (a b : Nat) (h : a < 4294967296) (h' : b < 4294967296) : bits .and .u32 (a : Int) (b : Int) = ((a &&& b : Nat) : Int) := u32_and_nat a b h h'
theorem xor32 (a b : Nat) (h : a < 4294967296) (h' : b < 4294967296) : bits .xor .u32 (a : Int) (b : Int) = ((a ^^^ b : Nat) : Int) := u32_xor_nat a b h h'
theorem not32 (b : Nat) (h : b < 4294967296) : bits .xor .u32 IntKind.u32.max (b : Int) = ((ones - b : Nat) : Int) := by
  rw [show IntKind.u32.max = ((ones : Nat) : Int) by decide, xor32 _ _ (by decide) h, xor_ones _ h]

theorem rot_or1 (x : Nat) (h : x < 4294967296) : bits .or .u32 ((x : Int) * 2 % 4294967296) ((x : Int) / 2147483648) = (rot x 1 : Nat) :=
  or32 (x * 2 % 4294967296) (x / 2147483648) (Nat.mod_lt _ (by decide)) (Nat.lt_of_le_of_lt (Nat.div_le_self _ _) h)
set_option maxRecDepth 100000 in
theorem rot1 (x : Nat) (w : World) (h : x < 4294967296) : Calls Tryd.prog 48 #[.int .u32 x, .int .i64 1] w fun e w' => e = .returned (.int .u32 (rot x 1 : Nat)) ∧ w = w' := by
  have hk : bits .and .u64 1 31 = 1 := by decide
  have ho := rot_or1 x h
  go_enter Tryd.func48, Tryd.ntmps48
  go_wp2
  go_ret
  exact ⟨rfl, rfl⟩
theorem rot_or5 (x : Nat) (h : x < 4294967296) : bits .or .u32 ((x : Int) * 32 % 4294967296) ((x : Int) / 134217728) = (rot x 5 : Nat) :=
  or32 (x * 32 % 4294967296) (x / 134217728) (Nat.mod_lt _ (by decide)) (Nat.lt_of_le_of_lt (Nat.div_le_self _ _) h)
set_option maxRecDepth 100000 in
theorem rot5 (x : Nat) (w : World) (h : x < 4294967296) : Calls Tryd.prog 48 #[.int .u32 x, .int .i64 5] w fun e w' => e = .returned (.int .u32 (rot x 5 : Nat)) ∧ w = w' := by
  have hk : bits .and .u64 5 31 = 5 := by decide
  have ho := rot_or5 x h
  go_enter Tryd.func48, Tryd.ntmps48
  go_wp2
  go_ret
  exact ⟨rfl, rfl⟩
theorem rot_or30 (x : Nat) (h : x < 4294967296) : bits .or .u32 ((x : Int) * 1073741824 % 4294967296) ((x : Int) / 4) = (rot x 30 : Nat) :=
  or32 (x * 1073741824 % 4294967296) (x / 4) (Nat.mod_lt _ (by decide)) (Nat.lt_of_le_of_lt (Nat.div_le_self _ _) h)
set_option maxRecDepth 100000 in
theorem rot30 (x : Nat) (w : World) (h : x < 4294967296) : Calls Tryd.prog 48 #[.int .u32 x, .int .i64 30] w fun e w' => e = .returned (.int .u32 (rot x 30 : Nat)) ∧ w = w' := by
  have hk : bits .and .u64 30 31 = 30 := by decide
  have ho := rot_or30 x h
  go_enter Tryd.func48, Tryd.ntmps48
  go_wp2
  go_ret
  exact ⟨rfl, rfl⟩
set_option maxRecDepth 100000 in
theorem chosen_any (n b c d : Nat) (w : World) (hn : n < 80) (hb : b < 4294967296) (hc : c < 4294967296) (hd : d < 4294967296) : Calls Tryd.prog 49 #[.int .i64 n, .int .u32 b, .int .u32 c, .int .u32 d] w fun e w' => e = .returned (.int .u32 (ch n b c d : Nat)) ∧ w = w' := by
  have h1 := and32 b c hb hc
  have h2 := and32 b d hb hd
  have h3 := and32 c d hc hd
  have h4 := not32 b hb
  have h5 := and32 (ones - b) d (by unfold ones; omega) hd
  have h6 := or32 (b &&& c) ((ones - b) &&& d) (and_lt hb) (and_lt (by unfold ones; omega))
  have h7 := or32 (b &&& c) (b &&& d) (and_lt hb) (and_lt hb)
  have h8 := or32 (b &&& c ||| b &&& d) (c &&& d) (or_lt (and_lt hb) (and_lt hb)) (and_lt hc)
  have h9 := xor32 b c hb hc
  have h10 := xor32 (b ^^^ c) d (xor_lt hb hc) hd
  by_cases q0 : n / 20 = 0
  · have e0 : (((n : Int) / 20) == 0) = true := by rw [beq_iff_eq]; omega
    have HC := Lib.hid (show ch n b c d = b &&& c ||| (ones - b) &&& d by unfold ch; rw [if_pos q0])
    clear q0 h2 h3 h7 h8 h9 h10 hb hc hd
    generalize ones - b = nb at *
    go_enter Tryd.func49, Tryd.ntmps49
    go_wp2
    go_ret
    rw [HC.out]
    exact ⟨rfl, rfl⟩
  · have e0 : (((n : Int) / 20) == 0) = false := by rw [beq_eq_false_iff_ne]; omega
    by_cases q2 : n / 20 = 2
    · have e2 : (((n : Int) / 20) == 2) = true := by rw [beq_iff_eq]; omega
      have HC := Lib.hid (show ch n b c d = b &&& c ||| b &&& d ||| c &&& d by unfold ch; rw [if_neg q0, if_pos q2])
      clear q0 q2 h4 h5 h6 h9 h10 hb hc hd
      go_enter Tryd.func49, Tryd.ntmps49
      go_wp2
      go_ret
      rw [HC.out]
      exact ⟨rfl, rfl⟩
    · have e2 : (((n : Int) / 20) == 2) = false := by rw [beq_eq_false_iff_ne]; omega
      have HC := Lib.hid (show ch n b c d = b ^^^ c ^^^ d by unfold ch; rw [if_neg q0, if_neg q2])
      clear q0 q2 h1 h2 h3 h4 h5 h6 h7 h8 hb hc hd
      go_enter Tryd.func49, Tryd.ntmps49
      go_wp2
      go_ret
      rw [HC.out]
      exact ⟨rfl, rfl⟩
end Go.Proofs.YtlaemmplemngmaaDoor.dig
/- Layer 8: the eighty words of a block. -/
namespace Go.Proofs.YtlaemmplemngmaaDoor.dig
open Go.ChangeShapes Go.WideShapes Go.ChangeAt Go.RowKit kit
open crc (ones xor_ones word)
open oct

/-- A row of N words of which the first ones are known, the others nought. -/
def rowOf (N : Nat) (p : List Nat) : Array Value := ((p ++ List.replicate (N - p.length) 0).map word).toArray
theorem rowOf_size {N : Nat} {p : List Nat} (h : p.length ≤ N) : (rowOf N p).size = N := by simp [rowOf]; omega
theorem rowOf_at {N : Nat} {p : List Nat} {i : Nat} (hi : i < p.length) : (rowOf N p)[i]? = some (word (p.getD i 0)) := by
  simp [rowOf, List.getElem?_append, hi]
theorem rowOf_any {N : Nat} {p : List Nat} {i : Nat} (h : p.length ≤ N) (hi : i < N) : ∃ u, (rowOf N p)[i]? = some u := by
  have : i < (rowOf N p).size := by rw [rowOf_size h]; exact hi
  exact ⟨_, Array.getElem?_eq_getElem this⟩
theorem rowOf_set {N : Nat} {p : List Nat} (v : Nat) (h : p.length < N) : (rowOf N p).setIfInBounds p.length (word v) = rowOf N (p ++ [v]) := by
  apply Array.toList_inj.1
  obtain ⟨m, hm⟩ : ∃ m, N - p.length = m + 1 := ⟨N - p.length - 1, by omega⟩
  have hm2 : N - (p.length + 1) = m := by omega
  simp [rowOf, hm, hm2, List.replicate_succ, List.set_append]
theorem rowOf_one (N : Nat) (p : List Nat) : ((rowOf N p).all fun x => x.oneCell') = true := by
  simp only [rowOf, List.all_toArray, List.all_eq_true, List.mem_map]
  rintro x ⟨n, _, rfl⟩
  rfl
theorem zero80 : Tryd.zeroCells65 = rowOf 80 [] := by kernel_rfl

theorem numV_eq (l : List UInt8) : numV l = numL l := by cases l <;> rfl
theorem wl_succ_lt (l : List UInt8) (k : Nat) (h : k < 16) : wl l (k + 1) = wl l k ++ [base l k] := by
  show wl l k ++ [if k < 16 then base l k else _] = _
  rw [if_pos h]
theorem wl_succ_ge (l : List UInt8) (k : Nat) (h : ¬ k < 16) : wl l (k + 1) = wl l k ++ [rot ((wl l k).getD (k - 3) 0 ^^^ (wl l k).getD (k - 8) 0 ^^^ (wl l k).getD (k - 14) 0 ^^^ (wl l k).getD (k - 16) 0) 1] := by
  show wl l k ++ [if k < 16 then base l k else _] = _
  rw [if_neg h]
theorem rd_base (B : ByteArray) (k : Nat) (hB : B.size = 64) (hk : k < 16) : rdN (B.extract (4 * k) 64) 4 = base B.data.toList k := by
  unfold rdN base
  have hs : (B.extract (4 * k) 64).size = 64 - 4 * k := by rw [ByteArray.size_extract]; omega
  rw [if_pos (by omega), numV_eq]
  congr 1
  simp only [ByteArray.data_extract, Array.toList_extract, List.extract_eq_take_drop]
  rw [List.take_take]
  congr 1
  omega
theorem rd_rest (B : ByteArray) (k : Nat) (hB : B.size = 64) (hk : k < 16) : rdL (B.extract (4 * k) 64) 0 4 = B.extract (4 * (k + 1)) 64 := by
  unfold rdL
  have hs : (B.extract (4 * k) 64).size = 64 - 4 * k := by rw [ByteArray.size_extract]; omega
  rw [if_pos (by omega), hs]
  rw [ByteArray.extract_extract]
  congr 1
  omega

theorem rd_err (B : ByteArray) (k : Nat) (hB : B.size = 64) (hk : k < 16) : rdE (B.extract (4 * k) 64) 0 4 = 0 := by
  unfold rdE
  rw [if_pos (by rw [ByteArray.size_extract]; omega)]
theorem ext_whole (B : ByteArray) (hB : B.size = 64) : B.extract (4 * min 0 16) 64 = B := by
  rw [← hB]; simp
set_option maxRecDepth 100000 in
set_option maxHeartbeats 1000000 in
theorem words_any (B : ByteArray) (w : World) (hB : B.size = 64) : Calls Tryd.prog 29 #[.string B] w fun e w' => e = .returned (.agg (rowOf 80 (wl B.data.toList 80))) ∧ Below w.heap.size w w' := by
  have HZ := zero80
  have HB := Lib.hid hB
  clear hB
  go_enter Tryd.func29, Tryd.ntmps29
  go_wp2_with fail
  refine (new_any _ _).mono ?_
  rintro e w1 ⟨rfl, hw1⟩
  have B0 : Blk w1 w.heap.size 65 (rowOf 80 []) := by rw [hw1]; exact ((Blk.new _ _ _).alloc _).alloc _
  have B1 : Blk w1 (w.heap.size + 1) 65 (rowOf 80 []) := by rw [hw1]; exact (blk_new2 w (.cells (rowOf 80 []) 65) 65 (rowOf 80 [])).alloc _
  have R0 : RD w1 (w.heap.size + 1 + 1) B 0 := by rw [hw1]; unfold RD; simpa using Blk.new ((w.alloc (.cells (rowOf 80 []) 65)).alloc (.cells (rowOf 80 []) 65)) 109 #[.string B, .int .i64 0]
  have bel : Below w.heap.size w w1 := by rw [hw1]; exact (((Below.refl w.heap.size w).alloc (Nat.le_refl _) _).alloc (by simp) _).alloc (by simp; omega) _
  have hsz : ((w.alloc (.cells (rowOf 80 []) 65)).alloc (.cells (rowOf 80 []) 65)).heap.size = w.heap.size + 1 + 1 := by simp
  rw [hsz]
  clear hw1 HZ hsz
  go_wp2
  go_loopw [8] (fun s8 wr => ∃ k : Nat, k ≤ 80 ∧ s8 = .int .i64 k ∧ Blk wr w.heap.size 65 (rowOf 80 []) ∧ Blk wr (w.heap.size + 1) 65 (rowOf 80 (wl B.data.toList k)) ∧ RD wr (w.heap.size + 1 + 1) (B.extract (4 * min k 16) 64) 0 ∧ Below w.heap.size w wr) (fun s8 _ => 80 - (intOf s8).toNat)
  case atStart => exact ⟨0, by omega, rfl, B0, B1, (by rw [ext_whole B HB.out]; exact R0), bel⟩
  case round =>
    clear B0 B1 R0 bel
    obtain ⟨k, hk, rfl, B0, B1, R, bel⟩ := hrel
    have hlen := wl_len B.data.toList k
    by_cases hlt : k < 80
    · by_cases h16 : k < 16
      · have hT := fun W (h : RD W (w.heap.size + 1 + 1) (B.extract (4 * k) 64) 0) => r32_any (w.heap.size + 1 + 1) (B.extract (4 * k) 64) 0 W h (by unfold maxLen; rw [ByteArray.size_extract]; omega)
        rw [rd_base B k HB.out h16, rd_rest B k HB.out h16, rd_err B k HB.out h16] at hT
        rw [Nat.min_eq_left (by omega)] at R
        have HW := Lib.hid (wl_succ_lt B.data.toList k h16)
        have HL := Lib.hid hlen
        clear hlen
        go_wp2_with fail
        refine (hT _ R).mono ?_
        rintro e w5 ⟨rfl, R5, T5⟩
        have B05 := T5.blk B0 (by omega)
        have B15 := T5.blk B1 (by omega)
        have bel5 := T5.below bel (by omega) bel.size
        clear hT R T5 B0 B1 bel
        obtain ⟨u, hu⟩ := rowOf_any (p := wl B.data.toList k) (i := k) (by rw [HL.out]; omega) hlt
        have c0 := (B15.cell k).trans hu
        have f0 := B15.frozen k
        clear hu
        go_wp2
        clear c0 f0
        go_roundw
        case rel => exact ⟨k + 1, by omega, by go_num, B05.far (by simp) _, by
            rw [HW.out, ← rowOf_set _ (by rw [HL.out]; exact hlt), HL.out]; exact B15.set_ k _, by
            rw [Nat.min_eq_left (by omega)]; exact R5.far (by simp) _, bel5.setCell (by simp) _⟩
        case measure => simp [intOf]; omega
      · have h16' : 16 ≤ k := by omega
        have hp : ∀ i, i < k → (rowOf 80 (wl B.data.toList k))[i]? = some (word ((wl B.data.toList k).getD i 0)) := fun i hi => rowOf_at (by rw [hlen]; exact hi)
        have hv := wl_lt B.data.toList k
        have HW := Lib.hid (wl_succ_ge B.data.toList k h16)
        obtain ⟨a3, ha3⟩ : ∃ a, (wl B.data.toList k).getD (k - 3) 0 = a := ⟨_, rfl⟩
        obtain ⟨a8, ha8⟩ : ∃ a, (wl B.data.toList k).getD (k - 8) 0 = a := ⟨_, rfl⟩
        obtain ⟨a14, ha14⟩ : ∃ a, (wl B.data.toList k).getD (k - 14) 0 = a := ⟨_, rfl⟩
        obtain ⟨a16, ha16⟩ : ∃ a, (wl B.data.toList k).getD (k - 16) 0 = a := ⟨_, rfl⟩
        have v3 := hv (k - 3)
        have v8 := hv (k - 8)
        have v14 := hv (k - 14)
        have v16 := hv (k - 16)
        rw [ha3] at v3
        rw [ha8] at v8
        rw [ha14] at v14
        rw [ha16] at v16
        rw [ha3, ha8, ha14, ha16] at HW
        have c3 := (B1.cell (k - 3)).trans ((hp (k - 3) (by omega)).trans (by rw [ha3]))
        have c8 := (B1.cell (k - 8)).trans ((hp (k - 8) (by omega)).trans (by rw [ha8]))
        have c14 := (B1.cell (k - 14)).trans ((hp (k - 14) (by omega)).trans (by rw [ha14]))
        have c16 := (B1.cell (k - 16)).trans ((hp (k - 16) (by omega)).trans (by rw [ha16]))
        unfold word at c3 c8 c14 c16
        have x1 := xor32 a3 a8 v3 v8
        have x2 := xor32 (a3 ^^^ a8) a14 (xor_lt v3 v8) v14
        have x3 := xor32 (a3 ^^^ a8 ^^^ a14) a16 (xor_lt (xor_lt v3 v8) v14) v16
        have hR := fun w => (rot1 (a3 ^^^ a8 ^^^ a14 ^^^ a16) w (xor_lt (xor_lt (xor_lt v3 v8) v14) v16)).mono (R' := fun e w' => e = .returned (.int .u32 (rot (a3 ^^^ a8 ^^^ a14 ^^^ a16) 1 : Nat)) ∧ w' = w) (fun _ _ h => ⟨h.1, h.2.symm⟩)
        have HL := Lib.hid hlen
        obtain ⟨u, hu⟩ := rowOf_any (p := wl B.data.toList k) (i := k) (by omega) hlt
        have c0 := (B1.cell k).trans hu
        have f0 := B1.frozen k
        clear hu hlen hp hv ha3 ha8 ha14 ha16 v3 v8 v14 v16 h16
        generalize a3 ^^^ a8 ^^^ a14 ^^^ a16 = x at *
        generalize a3 ^^^ a8 ^^^ a14 = y at *
        generalize a3 ^^^ a8 = z at *
        obtain ⟨j3, q3⟩ : ∃ j, k - 3 = j := ⟨_, rfl⟩
        obtain ⟨j8, q8⟩ : ∃ j, k - 8 = j := ⟨_, rfl⟩
        obtain ⟨j14, q14⟩ : ∃ j, k - 14 = j := ⟨_, rfl⟩
        obtain ⟨j16, q16⟩ : ∃ j, k - 16 = j := ⟨_, rfl⟩
        rw [q3] at c3
        rw [q8] at c8
        rw [q14] at c14
        rw [q16] at c16
        have w3 : IntKind.i64.wrap ((k : Int) - 3) = (j3 : Int) := by rw [IntWalk.i64_in _ (by omega)]; omega
        have w8 : IntKind.i64.wrap ((k : Int) - 8) = (j8 : Int) := by rw [IntWalk.i64_in _ (by omega)]; omega
        have w14 : IntKind.i64.wrap ((k : Int) - 14) = (j14 : Int) := by rw [IntWalk.i64_in _ (by omega)]; omega
        have w16 : IntKind.i64.wrap ((k : Int) - 16) = (j16 : Int) := by rw [IntWalk.i64_in _ (by omega)]; omega
        have b3 : (j3 : Int) < 80 := by omega
        have b8 : (j8 : Int) < 80 := by omega
        have b14 : (j14 : Int) < 80 := by omega
        have b16 : (j16 : Int) < 80 := by omega
        have bk : (k : Int) < 80 := by omega
        clear q3 q8 q14 q16
        go_upto_region 8 with (fail)
        refine wp_region_still_tail 22 (by kernel_rfl) (by kernel_rfl) ?_
        simp only [List.take_succ_cons, List.take_zero, List.drop_succ_cons, List.drop_zero]
        repeat still_step
        still_call (hR _)
        repeat still_step
        refine wpStill_nil ?_
        change wpList _ _ _ _ _ wr.drew
        have B05 : Blk wr.drew w.heap.size 65 (rowOf 80 []) := B0
        have B15 : Blk wr.drew (w.heap.size + 1) 65 (rowOf 80 (wl B.data.toList k)) := B1
        have R5 : RD wr.drew (w.heap.size + 1 + 1) (B.extract (4 * min k 16) 64) 0 := R
        have bel5 := bel.drew
        have c05 : wr.drew.cell? ⟨w.heap.size + 1, k, none⟩ = some u := c0
        have f05 : wr.drew.frozen? ⟨w.heap.size + 1, k, none⟩ = false := f0
        generalize wr.drew = w5 at *
        clear c0 f0 c3 c8 c14 c16 x1 x2 x3 hR w3 w8 w14 w16 b3 b8 b14 b16 B0 B1 R bel
        go_wp2
        clear c05 f05
        go_roundw
        case rel => exact ⟨k + 1, by omega, by go_num, B05.far (by simp) _, by
            rw [HW.out, ← rowOf_set _ (by rw [HL.out]; exact hlt), HL.out]; exact B15.set_ k _, by
            rw [show min (k + 1) 16 = min k 16 by omega]; exact R5.far (by simp) _, bel5.setCell (by simp) _⟩
        case measure => simp [intOf]; omega
    · have hk' : k = 80 := by omega
      subst hk'
      clear hlt hk R
      have sz : (Tryd.prog.info? 65).map (·.size) = some (rowOf 80 (wl B.data.toList 80)).size := by rw [rowOf_size (by omega)]; kernel_rfl
      have so : (rowOf 80 []).size = (rowOf 80 (wl B.data.toList 80)).size := (rowOf_size (p := []) (Nat.zero_le _)).trans (rowOf_size (by omega)).symm
      clear hlen
      generalize rowOf 80 [] = z0 at *
      have h1 := rowOf_one 80 (wl B.data.toList 80)
      obtain ⟨z1, hz1⟩ : ∃ z, rowOf 80 (wl B.data.toList 80) = z := ⟨_, rfl⟩
      have HZ1 := Lib.hid hz1
      rw [hz1] at B1 sz so h1
      clear hz1
      go_wp2_with (first | (refine wpList_load_row rfl 65 _ rfl _ rfl _ _ _ _ B1 Tryd.underlying65 rfl sz ?_) | (refine wpList_store_row rfl 65 _ _ rfl _ _ rfl rfl _ _ B0 sz so h1 ?_))
      exact bodyPost_ret (v := .agg z1) (results_cell_row rfl _ _ w.heap.size 65 z1 (0, 0) _ rfl (setRow_heap _ _ _ _ _ _ B0) Tryd.underlying65 rfl sz) rfl ⟨by rw [HZ1.out], below_setRow bel (Nat.le_refl _) _⟩
end Go.Proofs.YtlaemmplemngmaaDoor.dig
/- Layer 8: a block mixed into five words, by the program and by the document. -/
namespace Go.Proofs.YtlaemmplemngmaaDoor.dig
open Go.ChangeShapes Go.WideShapes Go.ChangeAt Go.RowKit kit
open crc (ones xor_ones word)
open oct

def adL : List Nat := [0x5a827999, 0x6ed9eba1, 0x8f1bbcdc, 0xca62c1d6]
/-- The four words that rounds add, where the program laid them. -/
def Added (w : World) : Prop := ∀ i, i < 4 → w.cell? ⟨1, i, none⟩ = some (word (adL.getD i 0))
theorem Added.below {w w' : World} (h : Added w) (hb : Below w.heap.size w w') : Added w' := fun i hi => (hb.cell (block_lt_of_cell (h i hi))).trans (h i hi)
def cells5 (s : St) : Array Value := #[word s.a, word s.b, word s.c, word s.d, word s.e]
def fin (s t : St) : St := ⟨(s.a + t.a) % 4294967296, (s.b + t.b) % 4294967296, (s.c + t.c) % 4294967296, (s.d + t.d) % 4294967296, (s.e + t.e) % 4294967296⟩
theorem wrap_add (x y : Nat) : IntKind.u32.wrap ((x : Int) + (y : Int)) = (((x + y) % 4294967296 : Nat) : Int) := by
  rw [IntKind.wrap_u32']; omega

theorem rot5q (x : Nat) (w : World) (h : x < 4294967296) : Calls Tryd.prog 48 #[.int .u32 x, .int .i64 5] w fun e w' => e = .returned (.int .u32 (rot x 5 : Nat)) ∧ w' = w := (rot5 x w h).mono fun _ _ h => ⟨h.1, h.2.symm⟩
theorem chosenq (n b c d : Nat) (w : World) (hn : n < 80) (hb : b < 4294967296) (hc : c < 4294967296) (hd : d < 4294967296) : Calls Tryd.prog 49 #[.int .i64 n, .int .u32 b, .int .u32 c, .int .u32 d] w fun e w' => e = .returned (.int .u32 (ch n b c d : Nat)) ∧ w' = w := (chosen_any n b c d w hn hb hc hd).mono fun _ _ h => ⟨h.1, h.2.symm⟩
theorem sum_eq (r f e w k : Nat) : ((((r + f) % 4294967296 + e) % 4294967296 + w) % 4294967296 + k) % 4294967296 = (r + f + e + w + k) % 4294967296 := by omega
theorem rd1_of (n w : Nat) {s t : St} (h : t = s) (u : Nat) (hu : u = (rot s.a 5 + ch n s.b s.c s.d + s.e + w + ad n) % 4294967296) : rd1 n w t = ⟨u, s.a, rot s.b 30, s.c, s.d⟩ := by subst h hu; rfl

set_option maxRecDepth 100000 in
set_option maxHeartbeats 1000000 in
theorem mixed_any (s : St) (p : List Nat) (w : World) (A : Added w) (hs : s.ok) (hp : p.length = 80) (hv : ∀ i, p.getD i 0 < 4294967296) : Calls Tryd.prog 28 #[.agg (cells5 s), .agg (rowOf 80 p)] w fun e w' => e = .returned (.agg (cells5 (fin s (rds p s 80)))) ∧ Below w.heap.size w w' := by
  have HP := Lib.hid hp
  have HV := Lib.hid hv
  have HS := Lib.hid hs
  have HA := Lib.hid A
  clear hp hv hs A
  go_enter Tryd.func28, Tryd.ntmps28
  go_wp2
  have B0 : Blk (((w.alloc (.cells (cells5 s) 63)).alloc (.cells (rowOf 80 p) 65)).alloc (.cells #[.int .u32 0, .int .u32 0, .int .u32 0, .int .u32 0, .int .u32 0] 63)) w.heap.size 63 (cells5 s) := ((Blk.new _ _ _).alloc _).alloc _
  have B1 : Blk (((w.alloc (.cells (cells5 s) 63)).alloc (.cells (rowOf 80 p) 65)).alloc (.cells #[.int .u32 0, .int .u32 0, .int .u32 0, .int .u32 0, .int .u32 0] 63)) (w.heap.size + 1) 65 (rowOf 80 p) := (blk_new2 w (.cells (cells5 s) 63) 65 (rowOf 80 p)).alloc _
  have B2 : Blk (((w.alloc (.cells (cells5 s) 63)).alloc (.cells (rowOf 80 p) 65)).alloc (.cells #[.int .u32 0, .int .u32 0, .int .u32 0, .int .u32 0, .int .u32 0] 63)) (w.heap.size + 1 + 1) 63 #[.int .u32 0, .int .u32 0, .int .u32 0, .int .u32 0, .int .u32 0] := by
    simpa using Blk.new ((w.alloc (.cells (cells5 s) 63)).alloc (.cells (rowOf 80 p) 65)) 63 #[.int .u32 0, .int .u32 0, .int .u32 0, .int .u32 0, .int .u32 0]
  have bel := (((Below.refl w.heap.size w).alloc (Nat.le_refl _) (.cells (cells5 s) 63)).alloc (by simp) (.cells (rowOf 80 p) 65)).alloc (by simp; omega) (.cells #[.int .u32 0, .int .u32 0, .int .u32 0, .int .u32 0, .int .u32 0] 63)
  generalize ((w.alloc (.cells (cells5 s) 63)).alloc (.cells (rowOf 80 p) 65)).alloc (.cells #[.int .u32 0, .int .u32 0, .int .u32 0, .int .u32 0, .int .u32 0] 63) = w1 at *
  have c0 : w1.cell? ⟨w.heap.size, 0, none⟩ = some (.int .u32 (s.a : Int)) := B0.cell 0
  have c1 : w1.cell? ⟨w.heap.size, 1, none⟩ = some (.int .u32 (s.b : Int)) := B0.cell 1
  have c2 : w1.cell? ⟨w.heap.size, 2, none⟩ = some (.int .u32 (s.c : Int)) := B0.cell 2
  have c3 : w1.cell? ⟨w.heap.size, 3, none⟩ = some (.int .u32 (s.d : Int)) := B0.cell 3
  have c4 : w1.cell? ⟨w.heap.size, 4, none⟩ = some (.int .u32 (s.e : Int)) := B0.cell 4
  refine wp_region_still_lit (by kernel_rfl) (by kernel_rfl) ?_
  repeat still_step
  refine wpStill_nil ?_
  clear c0 c1 c2 c3 c4
  change Exit.then _ _ _ _ w1.drew
  replace B0 : Blk w1.drew _ _ _ := B0
  replace B1 : Blk w1.drew _ _ _ := B1
  replace B2 : Blk w1.drew _ _ _ := B2
  replace bel := bel.drew
  generalize w1.drew = w2 at *
  go_wp2
  go_loopw [5, 6, 7, 8, 9, 22] (fun s5 s6 s7 s8 s9 s22 wr => ∃ (k : Nat) (t : St), k ≤ 80 ∧ t = rds p s k ∧ s22 = .int .i64 k ∧ s5 = .int .u32 (t.a : Int) ∧ s6 = .int .u32 (t.b : Int) ∧ s7 = .int .u32 (t.c : Int) ∧ s8 = .int .u32 (t.d : Int) ∧ s9 = .int .u32 (t.e : Int) ∧ Blk wr w.heap.size 63 (cells5 s) ∧ Blk wr (w.heap.size + 1) 65 (rowOf 80 p) ∧ Blk wr (w.heap.size + 1 + 1) 63 #[.int .u32 0, .int .u32 0, .int .u32 0, .int .u32 0, .int .u32 0] ∧ Below w.heap.size w wr) (fun _ _ _ _ _ s22 _ => 80 - (intOf s22).toNat)
  case atStart => exact ⟨0, s, by omega, rfl, rfl, rfl, rfl, rfl, rfl, rfl, B0, B1, B2, bel⟩
  case round =>
    clear B0 B1 B2 bel
    obtain ⟨k, t, hk, ht, rfl, rfl, rfl, rfl, rfl, rfl, B0, B1, B2, bel⟩ := hrel
    have hok : t.ok := by rw [ht]; exact rds_ok p HS.out k
    obtain ⟨o1, o2, o3, o4, o5⟩ := hok
    have HT := Lib.hid ht
    clear ht
    by_cases hlt : k < 80
    · have hrd := rd1_of k (p.getD k 0) (s := t) rfl _ (sum_eq (rot t.a 5) (ch k t.b t.c t.d) t.e (p.getD k 0) (ad k))
      have HN := Lib.hid (show rds p s (k + 1) = _ from (show rds p s (k + 1) = rd1 k (p.getD k 0) (rds p s k) from rfl).trans ((congrArg (rd1 k (p.getD k 0)) HT.out.symm).trans hrd))
      obtain ⟨wv, hwv⟩ : ∃ x, p.getD k 0 = x := ⟨_, rfl⟩
      have cw := (B1.cell k).trans (rowOf_at (by rw [HP.out]; exact hlt))
      rw [hwv] at cw HN
      obtain ⟨j, hj⟩ : ∃ j, k / 20 = j := ⟨_, rfl⟩
      have hj4 : j < 4 := by omega
      have ca := (HA.out.below bel) j hj4
      obtain ⟨av, hav⟩ : ∃ x, ad k = x := ⟨_, rfl⟩
      rw [show adL.getD j 0 = av by rw [← hav, ← hj]; rfl] at ca
      rw [hav] at HN
      unfold word at cw ca
      have q1 : IntKind.i64.wrap ((k : Int) / 20) = (j : Int) := by rw [IntWalk.i64_in _ (by omega)]; omega
      have hR := fun w => rot5q t.a w o1
      have hC := fun w => chosenq k t.b t.c t.d w hlt o2 o3 o4
      have hR2 := fun w => rot30 t.b w o2
      obtain ⟨ta, tb, tc, td, te⟩ := t
      simp only at hR hC hR2 HN cw o1 o2 o3 o4 o5 ⊢
      generalize rot ta 5 = r at *
      generalize ch k tb tc td = f at *
      generalize rot tb 30 = rb at *
      have s1 := wrap_add r f
      have s2 := wrap_add ((r + f) % 4294967296) te
      have s3 := wrap_add (((r + f) % 4294967296 + te) % 4294967296) wv
      have s4 := wrap_add ((((r + f) % 4294967296 + te) % 4294967296 + wv) % 4294967296) av
      generalize ((((r + f) % 4294967296 + te) % 4294967296 + wv) % 4294967296 + av) % 4294967296 = u4 at *
      generalize (((r + f) % 4294967296 + te) % 4294967296 + wv) % 4294967296 = u3 at *
      generalize ((r + f) % 4294967296 + te) % 4294967296 = u2 at *
      generalize (r + f) % 4294967296 = u1 at *
      have bk : (k : Int) < 80 := by omega
      have bj : (j : Int) < 4 := by omega
      clear hwv hj hav o1 o2 o3 o4 o5 hrd hj4
      go_upto_region 5 with (fail)
      refine wp_region_still_lit (by kernel_rfl) (by kernel_rfl) ?_
      repeat still_step
      still_call (hR _)
      repeat still_step
      still_call (hC _)
      repeat still_step
      refine wpStill_nil ?_
      change Exit.then _ _ _ _ wr.drew
      replace B0 : Blk wr.drew _ _ _ := B0
      replace B1 : Blk wr.drew _ _ _ := B1
      replace B2 : Blk wr.drew _ _ _ := B2
      replace bel := bel.drew
      generalize wr.drew = w3 at *
      clear hR hC s1 s2 s3 s4 q1 cw ca
      go_wp2_with (go_at_call 48; refine (hR2 _).mono ?_; rintro e w4 ⟨rfl, rfl⟩)
      clear hR2
      go_roundw
      case rel => exact ⟨k + 1, ⟨u4, ta, rb, tc, td⟩, by omega, HN.out.symm, by go_num, rfl, rfl, rfl, rfl, rfl, B0, B1, B2, bel⟩
      case measure => simp [intOf]; omega
    · have hk' : k = 80 := by omega
      subst hk'
      clear hlt hk B1
      have c0 : wr.cell? ⟨w.heap.size, 0, none⟩ = some (.int .u32 (s.a : Int)) := B0.cell 0
      have c1 : wr.cell? ⟨w.heap.size, 1, none⟩ = some (.int .u32 (s.b : Int)) := B0.cell 1
      have c2 : wr.cell? ⟨w.heap.size, 2, none⟩ = some (.int .u32 (s.c : Int)) := B0.cell 2
      have c3 : wr.cell? ⟨w.heap.size, 3, none⟩ = some (.int .u32 (s.d : Int)) := B0.cell 3
      have c4 : wr.cell? ⟨w.heap.size, 4, none⟩ = some (.int .u32 (s.e : Int)) := B0.cell 4
      clear B0 o1 o2 o3 o4 o5
      have d0 : wr.cell? ⟨w.heap.size + 1 + 1, 0, none⟩ = some (.int .u32 0) := B2.cell 0
      have d1 : wr.cell? ⟨w.heap.size + 1 + 1, 1, none⟩ = some (.int .u32 0) := B2.cell 1
      have d2 : wr.cell? ⟨w.heap.size + 1 + 1, 2, none⟩ = some (.int .u32 0) := B2.cell 2
      have d3 : wr.cell? ⟨w.heap.size + 1 + 1, 3, none⟩ = some (.int .u32 0) := B2.cell 3
      have d4 : wr.cell? ⟨w.heap.size + 1 + 1, 4, none⟩ = some (.int .u32 0) := B2.cell 4
      have f0 := B2.frozen 0
      have f1 := B2.frozen 1
      have f2 := B2.frozen 2
      have f3 := B2.frozen 3
      have f4 := B2.frozen 4
      have HF := Lib.hid (show cells5 (fin s t) = #[.int .u32 (((s.a : Int) + t.a) % 4294967296), .int .u32 (((s.b : Int) + t.b) % 4294967296), .int .u32 (((s.c : Int) + t.c) % 4294967296), .int .u32 (((s.d : Int) + t.d) % 4294967296), .int .u32 (((s.e : Int) + t.e) % 4294967296)] by simp [cells5, fin, word])
      go_wp2
      have B3 := ((((B2.set_ 0 (.int .u32 (((s.a : Int) + t.a) % 4294967296))).set_ 1 (.int .u32 (((s.b : Int) + t.b) % 4294967296))).set_ 2 (.int .u32 (((s.c : Int) + t.c) % 4294967296))).set_ 3 (.int .u32 (((s.d : Int) + t.d) % 4294967296))).set_ 4 (.int .u32 (((s.e : Int) + t.e) % 4294967296))
      refine bodyPost_ret (v := .agg (cells5 (fin s t))) ?_ rfl ⟨by rw [HT.out], ?_⟩
      · rw [HF.out]
        exact results_cell_row rfl _ _ (w.heap.size + 1 + 1) 63 _ (0, 0) _ rfl B3 Tryd.underlying63 rfl (by kernel_rfl)
      · exact ((((bel.setCell (p := ⟨w.heap.size + 1 + 1, 0, none⟩) (by simp; omega) _).setCell (p := ⟨w.heap.size + 1 + 1, 1, none⟩) (by simp; omega) _).setCell (p := ⟨w.heap.size + 1 + 1, 2, none⟩) (by simp; omega) _).setCell (p := ⟨w.heap.size + 1 + 1, 3, none⟩) (by simp; omega) _).setCell (p := ⟨w.heap.size + 1 + 1, 4, none⟩) (by simp; omega) _
end Go.Proofs.YtlaemmplemngmaaDoor.dig
/- Layer 8: a block mixed into five words by the document. -/
namespace Go.Proofs.YtlaemmplemngmaaDoor.dig
open Go.ChangeShapes Go.WideShapes Go.ChangeAt Go.RowKit kit
open crc (ones xor_ones word)
open oct

theorem sum_eq2 (r f e w k : Nat) : ((((r + f) % 4294967296 + e) % 4294967296 + k) % 4294967296 + w) % 4294967296 = (r + f + e + w + k) % 4294967296 := by omega
theorem made80 : madeCells #[Value.int .u32 0] 80 = rowOf 80 [] := by kernel_rfl
theorem mk80 (w : World) : (Instr.makeSlice 31 (.int .i64 80) (.int .i64 80)).run Tryd.prog w = .ok (.slice (some ⟨w.heap.size, 0, none⟩) 80 80) (w.alloc (.cells (rowOf 80 []) 27)) := by
  have h : (Tryd.prog.info? 27).map (fun i => (i.zero, i.size, i.bytes)) = some (some (.int .u32 0), 1, 4) := by kernel_rfl
  cases hi : Tryd.prog.info? 27 with
  | none => rw [hi] at h; cases h
  | some i =>
    rw [hi] at h
    simp only [Option.map_some, Option.some.injEq, Prod.mk.injEq] at h
    obtain ⟨h1, h2, h3⟩ := h
    have := run_make w 31 27 i (.int .u32 0) Tryd.underlying31 hi h1 .i64 .i64 80 80 (by omega) (by omega) (by rw [h3]; decide) (by decide)
    rw [this, h2, ← made80]
    rfl
theorem ext_self (S : ByteArray) (n : Nat) (h : n = S.size) : S.extract 0 n = S := by subst h; simp
end Go.Proofs.YtlaemmplemngmaaDoor.dig
/- Layer 8: bytes as whole blocks. -/
namespace Go.Proofs.YtlaemmplemngmaaDoor.dig
open Go.ChangeShapes Go.WideShapes Go.ChangeAt Go.RowKit kit
open crc (ones xor_ones word)
open oct

theorem data_nums (l : List Int) : (strOfNums l).data.toList = l.map fun n => UInt8.ofNat n.toNat := by simp [strOfNums]
theorem be4_data (n : Nat) : (strOfNums (be n 4)).data.toList = b4 n := by
  rw [data_nums]
  simp only [be, List.nil_append, List.cons_append, List.map_cons, List.map_nil, b4]
  have e1 : ((n : Int) / 256 / 256 / 256 % 256).toNat = n / 16777216 % 256 := by omega
  have e2 : ((n : Int) / 256 / 256 % 256).toNat = n / 65536 % 256 := by omega
  have e3 : ((n : Int) / 256 % 256).toNat = n / 256 % 256 := by omega
  have e4 : ((n : Int) % 256).toNat = n % 256 := by omega
  rw [e1, e2, e3, e4]
theorem be8_data (n : Nat) : (strOfNums (be n 8)).data.toList = b8 n := by
  have h1 := be4_data (n / 4294967296)
  have h2 := be4_data n
  rw [data_nums] at h1 h2 ⊢
  unfold b8
  rw [← h1, ← h2, ← List.map_append]
  congr 1
  have e : ((n / 4294967296 : Nat) : Int) = (n : Int) / 256 / 256 / 256 / 256 := by omega
  rw [e]
  simp only [be, List.nil_append, List.cons_append]
theorem zeros_data (n : Nat) : (zeros n).data.toList = List.replicate n 0 := by
  unfold zeros
  rw [data_nums, List.map_replicate]
  rfl
/-- Bytes as whole blocks. -/
def pad (s : ByteArray) : ByteArray := s ++ ⟨#[128]⟩ ++ zeros ((119 - s.size % 64) % 64) ++ strOfNums (be ((8 * s.size : Nat) : Int) 8)
theorem pad_data (s : ByteArray) : (pad s).data.toList = padL s.data.toList := by
  unfold pad padL
  rw [ByteArray.data_append, ByteArray.data_append, ByteArray.data_append, Array.toList_append, Array.toList_append, Array.toList_append, be8_data, zeros_data]
  have : s.data.toList.length = s.size := by simp
  rw [this]
  simp
theorem pad_size (s : ByteArray) : (pad s).size = s.size + 1 + (119 - s.size % 64) % 64 + 8 := by
  unfold pad
  rw [ByteArray.size_append, ByteArray.size_append, ByteArray.size_append, zeros_size, strOfNums_size, be_length]
  rfl

set_option maxRecDepth 100000 in
theorem u64_any (n : Int) (w : World) (h0 : 0 ≤ n) (h1 : n ≤ 18446744073709551615) : Calls Tryd.prog 47 #[.int .u64 n] w fun e w' => e = .returned (.string (strOfNums (be n 8))) ∧ Below w.heap.size w w' := by
  have h := fun w => bytes8 n w h0 h1
  clear h0 h1
  go_enter Tryd.func47, Tryd.ntmps47
  go_wp2_with fail
  refine (h _).mono ?_
  rintro e w1 ⟨rfl, hb⟩
  clear h
  go_wp2
  go_ret
  exact ⟨rfl, hb⟩

set_option maxRecDepth 100000 in
set_option maxHeartbeats 1000000 in
theorem closed_any (s : ByteArray) (w : World) (hs : s.size ≤ 1000000) : Calls Tryd.prog 27 #[.string s] w fun e w' => e = .returned (.string (pad s)) ∧ Below w.heap.size w w' := by
  obtain ⟨z, hz⟩ : ∃ z, (119 - s.size % 64) % 64 = z := ⟨_, rfl⟩
  have hz64 : z < 64 := by omega
  have h := fun w => Tryd.strings_Repeat (strOfNums [0]) z w (by omega) (by rw [strOfNums_size]; simp; omega)
  have e0 : (strOfNums [0]).data.toList = [0] := rfl
  rw [e0, repeat_zeros] at h
  have hq : (119 - (s.size : Int) % 64) % 64 = (z : Int) := by omega
  have h8 := fun w => u64_any ((8 * s.size : Nat) : Int) w (by omega) (by omega)
  have HP := Lib.hid (show pad s = s ++ ⟨#[128]⟩ ++ zeros z ++ strOfNums (be ((8 * s.size : Nat) : Int) 8) by unfold pad; rw [hz])
  have hc : ((8 * s.size : Nat) : Int) = (s.size : Int) * 8 := by omega
  have hzs : (zeros z).size ≤ 64 := by rw [zeros_size]; omega
  have h8s : (strOfNums (be ((8 * s.size : Nat) : Int) 8)).size ≤ 8 := by rw [strOfNums_size, be_length]; omega
  rw [hc] at h8 HP h8s
  clear hz e0 hc
  generalize zeros z = Z at *
  go_enter Tryd.func27, Tryd.ntmps27
  go_wp2_with fail
  refine (h _).mono ?_
  rintro e w1 ⟨rfl, hb1⟩
  clear h
  go_wp2_with fail
  refine (h8 _).mono ?_
  rintro e w2 ⟨rfl, hb2⟩
  clear h8
  generalize strOfNums (be ((s.size : Int) * 8) 8) = Y at *
  go_wp2
  go_ret
  rw [HP.out]
  exact ⟨rfl, hb1.trans (hb2.mono hb1.size)⟩
end Go.Proofs.YtlaemmplemngmaaDoor.dig
/- Layer 8: the digest of bytes, by the program. -/
namespace Go.Proofs.YtlaemmplemngmaaDoor.dig
open Go.ChangeShapes Go.WideShapes Go.ChangeAt Go.RowKit kit
open crc (ones xor_ones word)
open oct

/-- The five words of a digest of nothing, where the program laid them. -/
def Starts (w : World) : Prop := ∀ i, i < 5 → w.cell? ⟨0, i, none⟩ = some (word ([start.a, start.b, start.c, start.d, start.e].getD i 0))
theorem Starts.below {w w' : World} (h : Starts w) (hb : Below w.heap.size w w') : Starts w' := fun i hi => (hb.cell (block_lt_of_cell (h i hi))).trans (h i hi)
def digS (s : ByteArray) : ByteArray := ⟨(dig s.data.toList).toArray⟩
theorem mixed_blk (B : ByteArray) (s : St) (w : World) (A : Added w) (hs : s.ok) : Calls Tryd.prog 28 #[.agg (cells5 s), .agg (rowOf 80 (wl B.data.toList 80))] w fun e w' => e = .returned (.agg (cells5 (blk B.data.toList s))) ∧ Below w.heap.size w w' :=
  mixed_any s _ w A hs (wl_len _ 80) (wl_lt _ 80)
theorem bl_succ (P : ByteArray) (k : Nat) (h : 64 * (k + 1) ≤ P.size) : bl P.data.toList (k + 1) = blk (P.extract (64 * k) (64 * k + 64)).data.toList (bl P.data.toList k) := by
  show blk ((P.data.toList.drop (64 * k)).take 64) (bl P.data.toList k) = _
  congr 1
  simp only [ByteArray.data_extract, Array.toList_extract, List.extract_eq_take_drop]
  congr 1
  omega

def strLen : Value → Nat
  | .string b => b.size
  | _ => 0
theorem ne_list (S : ByteArray) (h : 64 ≤ S.size) : S.toList.isEmpty = false := by
  rw [Lib.toList_data, List.isEmpty_eq_false_iff]
  intro e
  have h0 : S.data.toList.length = 0 := by rw [e]; rfl
  have h1 : S.data.toList.length = S.size := by simp
  omega
theorem emp_list (S : ByteArray) (h : S.size = 0) : S.toList.isEmpty = true := by
  rw [Lib.toList_data, List.isEmpty_iff]
  exact List.length_eq_zero_iff.1 (by simpa using h)
theorem set5 {w : World} {g : Nat} {ty : TypeId} {t : St} (B : Blk w g ty (cells5 t)) (t1 : St) : Blk (((((w.setCell ⟨g, 0, none⟩ (.int .u32 (t1.a : Int))).setCell ⟨g, 1, none⟩ (.int .u32 (t1.b : Int))).setCell ⟨g, 2, none⟩ (.int .u32 (t1.c : Int))).setCell ⟨g, 3, none⟩ (.int .u32 (t1.d : Int))).setCell ⟨g, 4, none⟩ (.int .u32 (t1.e : Int))) g ty (cells5 t1) :=
  ((((B.set_ 0 (.int .u32 (t1.a : Int))).set_ 1 (.int .u32 (t1.b : Int))).set_ 2 (.int .u32 (t1.c : Int))).set_ 3 (.int .u32 (t1.d : Int))).set_ 4 (.int .u32 (t1.e : Int))
theorem belset5 {a w : World} {g b : Nat} (h : Below b a w) (hg : b ≤ g) (v0 v1 v2 v3 v4 : Value) : Below b a (((((w.setCell ⟨g, 0, none⟩ v0).setCell ⟨g, 1, none⟩ v1).setCell ⟨g, 2, none⟩ v2).setCell ⟨g, 3, none⟩ v3).setCell ⟨g, 4, none⟩ v4) :=
  ((((h.setCell (p := ⟨g, 0, none⟩) hg _).setCell (p := ⟨g, 1, none⟩) hg _).setCell (p := ⟨g, 2, none⟩) hg _).setCell (p := ⟨g, 3, none⟩) hg _).setCell (p := ⟨g, 4, none⟩) hg _
theorem ix0 (a b c d e : Value) (w : World) : (Instr.index 63 (.agg #[a, b, c, d, e]) (.int .i64 0)).run Tryd.prog w = .ok a w := by kernel_rfl
theorem ix1 (a b c d e : Value) (w : World) : (Instr.index 63 (.agg #[a, b, c, d, e]) (.int .i64 1)).run Tryd.prog w = .ok b w := by kernel_rfl
theorem ix2 (a b c d e : Value) (w : World) : (Instr.index 63 (.agg #[a, b, c, d, e]) (.int .i64 2)).run Tryd.prog w = .ok c w := by kernel_rfl
theorem ix3 (a b c d e : Value) (w : World) : (Instr.index 63 (.agg #[a, b, c, d, e]) (.int .i64 3)).run Tryd.prog w = .ok d w := by kernel_rfl
theorem ix4 (a b c d e : Value) (w : World) : (Instr.index 63 (.agg #[a, b, c, d, e]) (.int .i64 4)).run Tryd.prog w = .ok e w := by kernel_rfl
def s4 (n : Nat) : ByteArray := strOfNums (be n 4)
theorem s4_size (n : Nat) : (s4 n).size ≤ 4 := by unfold s4; rw [strOfNums_size, be_length]; omega
theorem s4_data (n : Nat) : (s4 n).data.toList = b4 n := be4_data n
theorem out_str (t : St) : s4 t.a ++ s4 t.b ++ s4 t.c ++ s4 t.d ++ s4 t.e = ⟨(out t).toArray⟩ := by
  apply ByteArray.ext
  apply Array.toList_inj.1
  simp only [ByteArray.data_append, Array.toList_append, s4_data]
  simp [out]
theorem dig_str (s : ByteArray) (n : Nat) (h : (pad s).size = 64 * n) : digS s = ⟨(out (bl (pad s).data.toList n)).toArray⟩ := by
  unfold digS dig
  rw [pad_data]
  have : (padL s.data.toList).length / 64 = n := by
    rw [← pad_data]
    have : (pad s).data.toList.length = (pad s).size := by simp
    omega
  rw [this]
set_option maxRecDepth 100000 in
set_option maxHeartbeats 4000000 in
theorem of_dig (s : ByteArray) (w : World) (S0 : Starts w) (A : Added w) (hs : s.size ≤ 1000000) : Calls Tryd.prog 15 #[.string s] w fun e w' => e = .returned (.string (digS s)) ∧ Below w.heap.size w w' := by
  have hC := fun w => closed_any s w hs
  have hps := pad_size s
  obtain ⟨n, hn⟩ : ∃ n, (pad s).size = 64 * n := ⟨(pad s).size / 64, by omega⟩
  have hn2 : n ≤ 20000 := by omega
  have HN := Lib.hid hn
  have c0 : w.cell? ⟨0, 0, none⟩ = some (.int .u32 (start.a : Int)) := S0 0 (by decide)
  have c1 : w.cell? ⟨0, 1, none⟩ = some (.int .u32 (start.b : Int)) := S0 1 (by decide)
  have c2 : w.cell? ⟨0, 2, none⟩ = some (.int .u32 (start.c : Int)) := S0 2 (by decide)
  have c3 : w.cell? ⟨0, 3, none⟩ = some (.int .u32 (start.d : Int)) := S0 3 (by decide)
  have c4 : w.cell? ⟨0, 4, none⟩ = some (.int .u32 (start.e : Int)) := S0 4 (by decide)
  have HA := Lib.hid A
  clear S0 hs hps hn A
  go_enter Tryd.func15, Tryd.ntmps15
  go_wp2_with fail
  have B0 := Blk.new w 63 (cells5 start)
  have bel0 := (Below.refl w.heap.size w).alloc (Nat.le_refl _) (.cells (cells5 start) 63)
  unfold cells5 word at B0 bel0
  refine (hC _).mono ?_
  rintro e w1 ⟨rfl, hb1⟩
  have B1 := B0.below hb1 B0.lt
  have bel1 := bel0.trans (hb1.mono bel0.size)
  clear hC c0 c1 c2 c3 c4 B0 bel0 hb1
  have hE : pad s = (pad s).extract (64 * 0) (64 * n) := by rw [← HN.out]; simp
  have HE := Lib.hid hE
  clear hE
  go_wp2
  go_loopw [0] (fun s0 wr => ∃ (k : Nat) (S : ByteArray), k ≤ n ∧ S = (pad s).extract (64 * k) (64 * n) ∧ s0 = .string S ∧ Blk wr w.heap.size 63 (cells5 (bl (pad s).data.toList k)) ∧ Below w.heap.size w wr) (fun s0 _ => strLen s0)
  case atStart => exact ⟨0, _, by omega, HE.out, rfl, B1, bel1⟩
  case round =>
    clear B1 bel1
    obtain ⟨k, S, hk, hS, rfl, B1, bel⟩ := hrel
    have hSs : S.size = 64 * (n - k) := by rw [hS, ByteArray.size_extract, HN.out]; omega
    by_cases hlt : k < n
    · have h64 : 64 ≤ S.size := by omega
      have hm : S.size ≤ 1280000 := by omega
      have hem := ne_list S h64
      have hx : (S.extract 0 64).size = 64 := by rw [ByteArray.size_extract]; omega
      have hW := fun w => words_any (S.extract 0 64) w hx
      obtain ⟨t, ht⟩ : ∃ t, bl (pad s).data.toList k = t := ⟨_, rfl⟩
      have htok : t.ok := by rw [← ht]; exact bl_ok _ k
      have hM := fun w A => mixed_blk (S.extract 0 64) t w A htok
      have hb := bl_succ (pad s) k (by rw [HN.out]; omega)
      have e1 : (pad s).extract (64 * k) (64 * k + 64) = S.extract 0 64 := by rw [hS, ByteArray.extract_extract]; congr 1; omega
      rw [e1, ht] at hb
      rw [← hb] at hM
      have e2 : S.extract 64 S.size = (pad s).extract (64 * (k + 1)) (64 * n) := by rw [hSs, hS, ByteArray.extract_extract]; congr 1 <;> omega
      have HR := Lib.hid e2
      rw [ht] at B1
      have A1 := HA.out.below bel
      have HSs := Lib.hid hSs
      clear hS hSs hx ht htok hb e1 e2
      obtain ⟨X, hX⟩ : ∃ X, S.extract 0 64 = X := ⟨_, rfl⟩
      rw [hX] at hW hM
      generalize rowOf 80 (wl X.data.toList 80) = Wd at *
      obtain ⟨t1, ht1⟩ : ∃ t, bl (pad s).data.toList (k + 1) = t := ⟨_, rfl⟩
      have HT1 := Lib.hid ht1
      rw [ht1] at hM
      clear ht1
      have c0 : wr.cell? ⟨w.heap.size, 0, none⟩ = some (.int .u32 (t.a : Int)) := B1.cell 0
      have c1 : wr.cell? ⟨w.heap.size, 1, none⟩ = some (.int .u32 (t.b : Int)) := B1.cell 1
      have c2 : wr.cell? ⟨w.heap.size, 2, none⟩ = some (.int .u32 (t.c : Int)) := B1.cell 2
      have c3 : wr.cell? ⟨w.heap.size, 3, none⟩ = some (.int .u32 (t.d : Int)) := B1.cell 3
      have c4 : wr.cell? ⟨w.heap.size, 4, none⟩ = some (.int .u32 (t.e : Int)) := B1.cell 4
      unfold cells5 word at hM
      have Bd := B1.drew
      have Ad : Added wr.drew := A1
      have beld := bel.drew
      go_upto_region 5 with (fail)
      go_region_with (first | (go_at_call 29; refine (hW _).mono ?_; rintro e w5 ⟨rfl, hb5⟩; have B5 := Bd.below hb5 Bd.lt; have A5 := Ad.below hb5; have bel5 := beld.trans (hb5.mono beld.size); have g0 : w5.cell? ⟨w.heap.size, 0, none⟩ = some (.int .u32 (t.a : Int)) := B5.cell 0; have g1 : w5.cell? ⟨w.heap.size, 1, none⟩ = some (.int .u32 (t.b : Int)) := B5.cell 1; have g2 : w5.cell? ⟨w.heap.size, 2, none⟩ = some (.int .u32 (t.c : Int)) := B5.cell 2; have g3 : w5.cell? ⟨w.heap.size, 3, none⟩ = some (.int .u32 (t.d : Int)) := B5.cell 3; have g4 : w5.cell? ⟨w.heap.size, 4, none⟩ = some (.int .u32 (t.e : Int)) := B5.cell 4) | (go_at_call 28; refine (hM _ ?_).mono ?_; exact A5; rintro e w7 ⟨rfl, hb7⟩; have B7 := B5.below hb7 B5.lt; have bel7 := bel5.trans (hb7.mono bel5.size); have k0 : w7.cell? ⟨w.heap.size, 0, none⟩ = some (.int .u32 (t.a : Int)) := B7.cell 0; have k1 : w7.cell? ⟨w.heap.size, 1, none⟩ = some (.int .u32 (t.b : Int)) := B7.cell 1; have k2 : w7.cell? ⟨w.heap.size, 2, none⟩ = some (.int .u32 (t.c : Int)) := B7.cell 2; have k3 : w7.cell? ⟨w.heap.size, 3, none⟩ = some (.int .u32 (t.d : Int)) := B7.cell 3; have k4 : w7.cell? ⟨w.heap.size, 4, none⟩ = some (.int .u32 (t.e : Int)) := B7.cell 4; have f0 := B7.frozen 0; have f1 := B7.frozen 1; have f2 := B7.frozen 2; have f3 := B7.frozen 3; have f4 := B7.frozen 4))
      all_goals
        go_wp2
        clear k0 k1 k2 k3 k4 f0 f1 f2 f3 f4
        go_roundw
        case rel => exact ⟨k + 1, _, by omega, HR.out, rfl, by rw [HT1.out]; exact set5 B7 t1, belset5 bel7 (Nat.le_refl _) _ _ _ _ _⟩
        case measure => simp only [strLen, ByteArray.size_extract]; omega
    · have hk' : k = n := by omega
      subst hk'
      have hem := emp_list S (by omega)
      have HD := Lib.hid (dig_str s k HN.out)
      clear hS hSs hlt hk HE HN hn2 HA
      obtain ⟨t, ht⟩ : ∃ t, bl (pad s).data.toList k = t := ⟨_, rfl⟩
      rw [ht] at HD B1
      have hok : t.ok := by rw [← ht]; exact bl_ok _ k
      clear ht
      have c0 : wr.cell? ⟨w.heap.size, 0, none⟩ = some (.int .u32 (t.a : Int)) := B1.cell 0
      have c1 : wr.cell? ⟨w.heap.size, 1, none⟩ = some (.int .u32 (t.b : Int)) := B1.cell 1
      have c2 : wr.cell? ⟨w.heap.size, 2, none⟩ = some (.int .u32 (t.c : Int)) := B1.cell 2
      have c3 : wr.cell? ⟨w.heap.size, 3, none⟩ = some (.int .u32 (t.d : Int)) := B1.cell 3
      have c4 : wr.cell? ⟨w.heap.size, 4, none⟩ = some (.int .u32 (t.e : Int)) := B1.cell 4
      obtain ⟨o1, o2, o3, o4, o5⟩ := hok
      have u0 := fun w => u32_any (t.a : Int) w (by omega) (by omega)
      have u1 := fun w => u32_any (t.b : Int) w (by omega) (by omega)
      have u2 := fun w => u32_any (t.c : Int) w (by omega) (by omega)
      have u3 := fun w => u32_any (t.d : Int) w (by omega) (by omega)
      have u4 := fun w => u32_any (t.e : Int) w (by omega) (by omega)
      have z0 := s4_size t.a
      have z1 := s4_size t.b
      have z2 := s4_size t.c
      have z3 := s4_size t.d
      have z4 := s4_size t.e
      rw [← out_str] at HD
      unfold s4 at z0 z1 z2 z3 z4 HD
      clear o1 o2 o3 o4 o5 B1
      generalize strOfNums (be (t.a : Int) 4) = y0 at *
      generalize strOfNums (be (t.b : Int) 4) = y1 at *
      generalize strOfNums (be (t.c : Int) 4) = y2 at *
      generalize strOfNums (be (t.d : Int) 4) = y3 at *
      generalize strOfNums (be (t.e : Int) 4) = y4 at *
      have i0 := fun w => ix0 (.int .u32 (t.a : Int)) (.int .u32 (t.b : Int)) (.int .u32 (t.c : Int)) (.int .u32 (t.d : Int)) (.int .u32 (t.e : Int)) w
      have i1 := fun w => ix1 (.int .u32 (t.a : Int)) (.int .u32 (t.b : Int)) (.int .u32 (t.c : Int)) (.int .u32 (t.d : Int)) (.int .u32 (t.e : Int)) w
      have i2 := fun w => ix2 (.int .u32 (t.a : Int)) (.int .u32 (t.b : Int)) (.int .u32 (t.c : Int)) (.int .u32 (t.d : Int)) (.int .u32 (t.e : Int)) w
      have i3 := fun w => ix3 (.int .u32 (t.a : Int)) (.int .u32 (t.b : Int)) (.int .u32 (t.c : Int)) (.int .u32 (t.d : Int)) (.int .u32 (t.e : Int)) w
      have i4 := fun w => ix4 (.int .u32 (t.a : Int)) (.int .u32 (t.b : Int)) (.int .u32 (t.c : Int)) (.int .u32 (t.d : Int)) (.int .u32 (t.e : Int)) w
      go_wp2
      refine wp_loop_rounds 6 ?_
      rw [rounds_succ]
      go_wp2_with fail
      refine (u0 _).mono ?_
      rintro e w2 ⟨rfl, hb2⟩
      go_wp2
      rw [rounds_succ]
      go_wp2_with fail
      refine (u1 _).mono ?_
      rintro e w3 ⟨rfl, hb3⟩
      go_wp2
      rw [rounds_succ]
      go_wp2_with fail
      refine (u2 _).mono ?_
      rintro e w4 ⟨rfl, hb4⟩
      go_wp2
      rw [rounds_succ]
      go_wp2_with fail
      refine (u3 _).mono ?_
      rintro e w5 ⟨rfl, hb5⟩
      go_wp2
      rw [rounds_succ]
      go_wp2_with fail
      refine (u4 _).mono ?_
      rintro e w6 ⟨rfl, hb6⟩
      go_wp2
      rw [rounds_succ]
      go_wp2
      go_ret
      rw [HD.out]
      have q2 := bel.trans (hb2.mono bel.size)
      have q3 := q2.trans (hb3.mono q2.size)
      have q4 := q3.trans (hb4.mono q3.size)
      have q5 := q4.trans (hb5.mono q4.size)
      exact ⟨rfl, q5.trans (hb6.mono q5.size)⟩
end Go.Proofs.YtlaemmplemngmaaDoor.dig
/- Layer 8: the digest of bytes, by the document. -/
namespace Go.Proofs.YtlaemmplemngmaaDoor.dig
open Go.ChangeShapes Go.WideShapes Go.ChangeAt Go.RowKit kit
open crc (ones xor_ones word)
open oct

end Go.Proofs.YtlaemmplemngmaaDoor.dig
/- A block whose first cells are bytes: made of a string, written, cleared, made a string again. Over any program. -/
namespace Go.Proofs.YtlaemmplemngmaaDoor.byt
open Go.ChangeShapes Go.WideShapes Go.ChangeAt Go.RowKit kit

def bv (b : UInt8) : Value := .int .u8 (b.toNat : Int)
def IsBytes (w : World) (g : Nat) (l : List UInt8) : Prop := g < w.heap.size ∧ ∀ j (h : j < l.length), w.cell? ⟨g, j, none⟩ = some (bv l[j]) ∧ w.frozen? ⟨g, j, none⟩ = false
section
variable {w w' : World} {g : Nat} {l : List UInt8}
theorem IsBytes.lt (h : IsBytes w g l) : g < w.heap.size := h.1
theorem IsBytes.cell (h : IsBytes w g l) {j : Nat} (hj : j < l.length) : w.cell? ⟨g, j, none⟩ = some (bv l[j]) := (h.2 j hj).1
theorem IsBytes.free (h : IsBytes w g l) {j : Nat} (hj : j < l.length) : w.frozen? ⟨g, j, none⟩ = false := (h.2 j hj).2
theorem IsBytes.below {B : Nat} (h : IsBytes w g l) (hb : Below B w w') (hg : g < B) : IsBytes w' g l :=
  ⟨Nat.lt_of_lt_of_le h.1 hb.size, fun j hj => ⟨(hb.cell (p := ⟨g, j, none⟩) hg).trans (h.2 j hj).1, (hb.frozen (p := ⟨g, j, none⟩) hg).trans (h.2 j hj).2⟩⟩
theorem IsBytes.alloc (h : IsBytes w g l) (o : Obj) : IsBytes (w.alloc o) g l := h.below ((Below.refl w.heap.size w).alloc (Nat.le_refl _) o) h.1
theorem IsBytes.drew (h : IsBytes w g l) : IsBytes w.drew g l := h
theorem frozen_setCell (w : World) (p q : Addr) (u : Value) : (w.setCell p u).frozen? q = w.frozen? q := by
  unfold World.frozen? World.setCell
  simp only [Array.getElem?_modify]
  by_cases h : p.block = q.block
  · rw [if_pos h]
    cases hq : w.heap[q.block]? with
    | none => simp
    | some o => cases o <;> simp
  · rw [if_neg h]
theorem IsBytes.far (h : IsBytes w g l) {p : Addr} (hp : g ≠ p.block) (u : Value) : IsBytes (w.setCell p u) g l :=
  ⟨by simpa using h.1, fun j hj => ⟨by
    have : (w.setCell p u).cell? ⟨g, j, none⟩ = w.cell? ⟨g, j, none⟩ := World.cell?_of_block (Below.heap_setCell w p u g hp)
    rw [this]; exact (h.2 j hj).1, by rw [frozen_setCell]; exact (h.2 j hj).2⟩⟩
theorem IsBytes.set_ (h : IsBytes w g l) (k : Nat) (b : UInt8) : IsBytes (w.setCell ⟨g, k, none⟩ (bv b)) g (l.set k b) := by
  refine ⟨by simpa using h.1, fun j hj => ⟨?_, by rw [frozen_setCell]; exact (h.2 j (by simpa using hj)).2⟩⟩
  have hj' : j < l.length := by simpa using hj
  by_cases hk : k = j
  · subst hk
    have := World.cell?_setCell_same' w ⟨g, k, none⟩ (bv b) (by rw [(h.2 k hj').1]; rfl)
    rw [this]; simp
  · have : (w.setCell ⟨g, k, none⟩ (bv b)).cell? ⟨g, j, none⟩ = w.cell? ⟨g, j, none⟩ := World.cell?_setCell_other _ _ _ _ (by simp [hk])
    rw [this, (h.2 j hj').1]; simp [hk]
end
/-- '[]byte(s)': a new block of these bytes. -/
theorem isBytes_new (w : World) (s : ByteArray) (cap : Nat) (e : TypeId) : IsBytes (w.alloc (.cells (bytesRow s cap) e ((bytesRow s cap).size, (bytesRow s cap).size + 1))) w.heap.size s.data.toList := by
  refine ⟨by simp, fun j hj => ⟨?_, ?_⟩⟩
  · have hj' : j < s.data.size := by simpa using hj
    rw [World.cell?_alloc_mark, bytesRow_at s cap j hj']
    rfl
  · rw [World.frozen?_alloc_mark]
    have hj' : j < s.data.size := by simpa using hj
    have : j < (bytesRow s cap).size := by unfold bytesRow; rw [Array.size_append, Array.size_map]; omega
    simp only [decide_eq_false (Nat.not_le.2 this), Bool.false_and]
/-- A new row of these bytes. -/
theorem isBytes_cells (w : World) (l : List UInt8) (e : TypeId) : IsBytes (w.alloc (.cells (l.map bv).toArray e)) w.heap.size l := by
  refine ⟨by simp, fun j hj => ⟨?_, ?_⟩⟩
  · rw [World.cell?_alloc_mark]; simp [hj]
  · rw [World.frozen?_alloc_mark]; simp
/-- 'string(b[:n])' of these bytes. -/
theorem conv_bytes {P : Program} {w : World} {src e dst : TypeId} (hs : P.underlying src = some (.slice e)) (he : P.underlying e = some (.int .u8)) (hd : P.underlying dst = some .string)
    {g : Nat} {l : List UInt8} (h : IsBytes w g l) (n cap : Nat) (hn : n = l.length) : (convert src dst (.slice (some ⟨g, 0, none⟩) n cap)).run P w = .ok (.string ⟨l.toArray⟩) w := by
  subst hn
  exact run_convert_bytes_back w src dst e ⟨g, 0, none⟩ cap l hs he hd (fun j hj => by
    have : (⟨g, 0, none⟩ : Addr).add j = ⟨g, j, none⟩ := by unfold Addr.add; split <;> simp_all
    rw [this]; exact h.cell hj)
end Go.Proofs.YtlaemmplemngmaaDoor.byt
/- Layer 8: the statements on digests, walked. -/
namespace Go.Proofs.YtlaemmplemngmaaDoor.dig
open Go.ChangeShapes Go.WideShapes Go.ChangeAt Go.RowKit kit byt
open crc (ones xor_ones word)
open oct

theorem digS_size (s : ByteArray) : (digS s).size = 20 := by unfold digS; simp [ByteArray.size, dig_len]
theorem abc : digS ⟨#[97, 98, 99]⟩ = ⟨#[169, 153, 62, 54, 71, 6, 129, 106, 186, 62, 37, 113, 120, 80, 194, 108, 156, 208, 216, 157]⟩ := by
  unfold digS
  show (⟨(dig [97, 98, 99]).toArray⟩ : ByteArray) = _
  rw [dig_abc]
def few (s : ByteArray) : ByteArray := s.extract 0 (min s.size 1000)
theorem few_size (s : ByteArray) : (few s).size ≤ 1000 := by unfold few; rw [ByteArray.size_extract]; omega
/-- What the row's condition gives. -/
theorem starts_of {W : World} {rest : List (String × DataW Unit)} (h : laidMet Tryd.prog (("crossway/digest.starts", Rows.laid_crossway_digest_starts) :: rest) W) : Starts W := by
  have hT := Lib.tabIs_of_head (P := Tryd.prog) (zs := [start.a, start.b, start.c, start.d, start.e].map fun n => ((n : Nat) : Int)) (k := .u32) (show Tryd.prog.globalNamed "crossway/digest.starts" = some 0 by kernel_rfl) (show (Tryd.prog.globals[0]?).map (·.type) = some 63 by kernel_rfl) Tryd.underlying63 Tryd.underlying27 (by kernel_rfl) (by kernel_rfl) h
  intro i hi
  have := hT.cell (by kernel_rfl : Tryd.prog.globalNamed "crossway/digest.starts" = some 0) i hi
  rw [this]
  rcases (by omega : i = 0 ∨ i = 1 ∨ i = 2 ∨ i = 3 ∨ i = 4) with rfl | rfl | rfl | rfl | rfl <;> rfl
theorem added_of {W : World} {rest : List (String × DataW Unit)} (h : laidMet Tryd.prog (("crossway/digest.added", Rows.laid_crossway_digest_added) :: rest) W) : Added W := by
  have hT := Lib.tabIs_of_head (P := Tryd.prog) (zs := adL.map fun n => ((n : Nat) : Int)) (k := .u32) (show Tryd.prog.globalNamed "crossway/digest.added" = some 1 by kernel_rfl) (show (Tryd.prog.globals[1]?).map (·.type) = some 86 by kernel_rfl) Tryd.underlying86 Tryd.underlying27 (by kernel_rfl) (by kernel_rfl) h
  intro i hi
  have := hT.cell (by kernel_rfl : Tryd.prog.globalNamed "crossway/digest.added" = some 1) i hi
  rw [this]
  rcases (by omega : i = 0 ∨ i = 1 ∨ i = 2 ∨ i = 3) with rfl | rfl | rfl | rfl <;> rfl
theorem laid_both {W : World} {rest : List (String × DataW Unit)} (h : laidMet Tryd.prog (("crossway/digest.starts", Rows.laid_crossway_digest_starts) :: ("crossway/digest.added", Rows.laid_crossway_digest_added) :: rest) W) : Starts W ∧ Added W := ⟨starts_of h, added_of (laidMet.tail h)⟩
end Go.Proofs.YtlaemmplemngmaaDoor.dig
/- Layer 8: digests of bytes of any length around a block: walked. -/
namespace Go.Proofs.YtlaemmplemngmaaDoor.dig
open Go.ChangeShapes Go.WideShapes Go.ChangeAt Go.RowKit kit byt
open crc (ones xor_ones word)
open oct

theorem set_num {w : World} {g : Nat} {l : List UInt8} (h : IsBytes w g l) (k : Nat) (y : Int) (h0 : 0 ≤ y) (h1 : y < 256) : IsBytes (w.setCell ⟨g, k, none⟩ (.int .u8 y)) g (l.set k (UInt8.ofNat y.toNat)) := by
  have e : Value.int .u8 y = bv (UInt8.ofNat y.toNat) := by
    unfold bv
    rw [UInt8.toNat_ofNat']
    congr 1
    omega
  rw [e]
  exact h.set_ k _
theorem made_bytes (w : World) (m : Nat) (e : TypeId) : IsBytes (w.alloc (.cells (madeCells #[Value.int .u8 0] m) e)) w.heap.size (List.replicate m 0) := by
  refine ⟨by simp, fun j hj => ⟨?_, ?_⟩⟩
  · have hj' : j < m := by simpa using hj
    rw [World.cell?_alloc_mark]
    simp [madeCells, hj', bv, Nat.mod_one]
  · rw [World.frozen?_alloc_mark]; simp
theorem mkBytes (m : Nat) (w : World) (hm : m ≤ 1000000) : (Instr.makeSlice 43 (.int .i64 m) (.int .i64 m)).run Tryd.prog w = .ok (.slice (some ⟨w.heap.size, 0, none⟩) m m) (w.alloc (.cells (madeCells #[Value.int .u8 0] m) 5)) := by
  have h : (Tryd.prog.info? 5).map (fun i => (i.zero, i.size, i.bytes)) = some (some (.int .u8 0), 1, 1) := by kernel_rfl
  cases hi : Tryd.prog.info? 5 with
  | none => rw [hi] at h; cases h
  | some i =>
    rw [hi] at h
    simp only [Option.map_some, Option.some.injEq, Prod.mk.injEq] at h
    obtain ⟨h1, h2, h3⟩ := h
    have := run_make w 43 5 i (.int .u8 0) Tryd.underlying43 hi h1 .i64 .i64 m m (by omega) (by omega) (by rw [h3]; omega) (by omega)
    rw [this, h2]
    simp [Value.cells]

end Go.Proofs.YtlaemmplemngmaaDoor.dig
/- Layer 9: a key as a block, each byte changed; by the program and by the document. -/
namespace Go.Proofs.YtlaemmplemngmaaDoor.mac
open Go.ChangeShapes Go.WideShapes Go.ChangeAt Go.RowKit kit byt dig
open oct

def keyL (k : List UInt8) : List UInt8 := if 64 < k.length then dig k else k
def mask (k : List UInt8) (b : UInt8) : List UInt8 := (List.range 64).map fun i => (keyL k).getD i 0 ^^^ b
def hmac (k s : List UInt8) : List UInt8 := dig (mask k 92 ++ dig (mask k 54 ++ s))
theorem keyL_len (k : List UInt8) : (keyL k).length ≤ 64 := by
  unfold keyL
  split
  · rw [dig_len]; decide
  · omega
theorem mask_len (k : List UInt8) (b : UInt8) : (mask k b).length = 64 := by simp [mask]
theorem hmac_len (k s : List UInt8) : (hmac k s).length = 20 := dig_len _
def str (l : List UInt8) : ByteArray := ⟨l.toArray⟩
theorem str_data (l : List UInt8) : (str l).data.toList = l := by simp [str]
theorem str_len (l : List UInt8) : (str l).size = l.length := by simp [str, ByteArray.size]
theorem str_self (s : ByteArray) : str s.data.toList = s := rfl
theorem digS_eq (s : ByteArray) : digS s = str (dig s.data.toList) := rfl
theorem hmac_nil : hmac [] [] = [251, 219, 29, 27, 24, 170, 108, 8, 50, 75, 125, 100, 183, 31, 183, 99, 112, 105, 14, 29] := by decide +kernel

/-- 'copy(b, s)' of a string that fits. -/
theorem run_copy_str {P : Program} (w : World) (dT sT ty elem : TypeId) (g cap : Nat) (s : ByteArray) (dl : Nat) (hu : P.underlying dT = some (.slice elem)) (hz : (P.info? elem).map (·.size) = some 1) (hs : s.size ≤ dl)
    {l : List UInt8} (I : IsBytes w g l) (hl : l.length = dl) :
    (Builtin.copy_ #[dT, sT] ty #[.slice (some ⟨g, 0, none⟩) dl cap, .string s]).run P w = .ok (.int .i64 s.size) (w.setCells g 0 (s.data.toList.map bv)) := by
  have hst := run_storeCells_cells (P := P) g 0 (s.data.toList.map bv) 0 w (fun j hj => by
      have hj' : j < s.size := by simpa using hj
      simp only [Nat.zero_add]
      rw [I.cell (by omega)]; rfl) (fun j hj => by
      have hj' : j < s.size := by simpa using hj
      simp only [Nat.zero_add]
      exact I.free (by omega)) (by
      intro v hv
      obtain ⟨b, _, rfl⟩ := List.mem_map.1 hv
      rfl)
  cases hi : P.info? elem with
  | none => rw [hi] at hz; cases hz
  | some i =>
    have hmin : Nat.min s.size dl = s.size := Nat.min_eq_left hs
    have hc : List.take s.size (s.data.toList.map fun b => Value.int .u8 (b.toNat : Int)) = s.data.toList.map bv := by
      rw [List.take_of_length_le (by simp)]
      rfl
    rw [Nat.zero_add] at hst
    simp [Builtin.copy_, run_underlying hu, Builtin.lenOf, sizeOf, typeInfo, hi, Builtin.firstCells, hmin, goInt, hc, hst]

theorem set_cells {w : World} {g : Nat} {l : List UInt8} (I : IsBytes w g l) (m : List UInt8) (h : m.length ≤ l.length) : IsBytes (w.setCells g 0 (m.map bv)) g (m ++ l.drop m.length) := by
  have hin := World.cell?_setCells_in g (m.map bv) 0 w (fun j hj => by
    have hj' : j < m.length := by simpa using hj
    rw [Nat.zero_add, I.cell (by omega)]; rfl)
  refine ⟨?_, fun j hj => ⟨?_, ?_⟩⟩
  · have : ∀ (vs : List Value) (o : Nat) (w : World), (w.setCells g o vs).heap.size = w.heap.size := by
      intro vs
      induction vs with
      | nil => intro o w; rfl
      | cons v vs ih => intro o w; show ((w.setCell ⟨g, o, none⟩ v).setCells g (o + 1) vs).heap.size = _; rw [ih]; simp
    rw [this]; exact I.lt
  · by_cases hm : j < m.length
    · have := hin j (by simpa using hm)
      rw [Nat.zero_add] at this
      rw [this]
      simp [List.getElem_append, hm]
    · have hjl : j < l.length := by simp at hj; omega
      rw [World.cell?_setCells_out g (m.map bv) 0 w ⟨g, j, none⟩ (fun _ _ => .inr (by simp; omega)), I.cell hjl]
      congr 2
      rw [List.getElem_append_right (by omega), List.getElem_drop]
      congr 1
      omega
  · rw [World.frozen?_setCells]
    exact I.free (by simp at hj; omega)
theorem xor8 (x b : UInt8) : bits .xor .u8 (x.toNat : Int) (b.toNat : Int) = ((x ^^^ b).toNat : Int) := by
  rw [u8_xor_nat _ _ x.toNat_lt b.toNat_lt, UInt8.toNat_xor]
/-- The block while it is changed: up to n it is. -/
def mixL (k : List UInt8) (b : UInt8) (n : Nat) : List UInt8 := (List.range 64).map fun i => if i < n then (keyL k).getD i 0 ^^^ b else (keyL k).getD i 0
theorem mix_len (k : List UInt8) (b : UInt8) (n : Nat) : (mixL k b n).length = 64 := by simp [mixL]
theorem mix_at (k : List UInt8) (b : UInt8) (n i : Nat) (h : i < 64) : (mixL k b n)[i]? = some (if i < n then (keyL k).getD i 0 ^^^ b else (keyL k).getD i 0) := by simp [mixL, h]
theorem mix_set (k : List UInt8) (b : UInt8) (n : Nat) (h : n < 64) : (mixL k b n).set n ((keyL k).getD n 0 ^^^ b) = mixL k b (n + 1) := by
  apply List.ext_getElem?
  intro i
  by_cases hi : i < 64
  · rw [mix_at k b (n + 1) i hi]
    by_cases e : n = i
    · subst e
      rw [List.getElem?_set_self (by rw [mix_len]; exact h), if_pos (by omega)]
    · rw [List.getElem?_set_ne e, mix_at k b n i hi]
      by_cases h1 : i < n
      · rw [if_pos h1, if_pos (by omega)]
      · rw [if_neg h1, if_neg (by omega)]
  · rw [List.getElem?_eq_none (by rw [List.length_set, mix_len]; omega), List.getElem?_eq_none (by rw [mix_len]; omega)]
theorem mix_zero (k : List UInt8) (b : UInt8) : keyL k ++ (List.replicate 64 (0 : UInt8)).drop (keyL k).length = mixL k b 0 := by
  have hk := keyL_len k
  apply List.ext_getElem?
  intro i
  by_cases hi : i < 64
  · rw [mix_at k b 0 i hi, if_neg (by omega), List.getElem?_append]
    split
    · rename_i h; rw [List.getD_eq_getElem?_getD, List.getElem?_eq_getElem h]; rfl
    · rename_i h
      rw [List.drop_replicate, List.getElem?_replicate, if_pos (by omega), List.getD_eq_getElem?_getD, List.getElem?_eq_none (by omega)]; rfl
  · rw [List.getElem?_eq_none (by simp; omega), List.getElem?_eq_none (by rw [mix_len]; omega)]
theorem mix_all (k : List UInt8) (b : UInt8) : mixL k b 64 = mask k b := by
  unfold mixL mask
  apply List.map_congr_left
  intro i hi
  rw [if_pos (by simpa using hi)]
theorem key_str (key : ByteArray) (h : 64 < key.size) : digS key = str (keyL key.data.toList) := by
  unfold keyL
  rw [if_pos (by simpa using h)]
  rfl
theorem key_str' (key : ByteArray) (h : ¬ 64 < key.size) : key = str (keyL key.data.toList) := by
  unfold keyL
  rw [if_neg (by simpa using h)]
  rfl

theorem below_setCells {B g : Nat} {a w : World} (h : Below B a w) (hg : B ≤ g) : ∀ (o : Nat) (vs : List Value), Below B a (w.setCells g o vs) := by
  intro o vs
  induction vs generalizing o w with
  | nil => exact h
  | cons v vs ih => exact ih (h.setCell (p := ⟨g, o, none⟩) hg v) (o + 1)

set_option maxRecDepth 100000 in
set_option maxHeartbeats 1000000 in
theorem masked_any (key : ByteArray) (b : UInt8) (w : World) (S0 : Starts w) (A : Added w) (hk : key.size ≤ 1000000) : Calls Tryd.prog 16 #[.string key, .int .u8 (b.toNat : Int)] w fun e w' => e = .returned (.string (str (mask key.data.toList b))) ∧ Below w.heap.size w w' := by
  have hO := of_dig key w S0 A hk
  have hks := key_str key
  have hks' := key_str' key
  have hKl := keyL_len key.data.toList
  have hKs : (str (keyL key.data.toList)).size = (keyL key.data.toList).length := str_len _
  have HM := Lib.hid (show mask key.data.toList b = mixL key.data.toList b 64 from (mix_all _ _).symm)
  have hset := fun n h => mix_set key.data.toList b n h
  have hat := fun n i h => mix_at key.data.toList b n i h
  have hz := mix_zero key.data.toList b
  have hml := fun n => mix_len key.data.toList b n
  have HSET := Lib.hid hset
  have HAT := Lib.hid hat
  have HZ := Lib.hid hz
  have HML := Lib.hid hml
  have HKL := Lib.hid hKl
  have HKS := Lib.hid hKs
  clear S0 A hset hat hz hml hKl hKs
  obtain ⟨K, hK⟩ : ∃ K, str (keyL key.data.toList) = K := ⟨_, rfl⟩
  have HKD := Lib.hid (show K.data.toList = keyL key.data.toList by rw [← hK, str_data])
  rw [hK] at hks hks' HKS
  have hK64 : K.size ≤ 64 := by rw [HKS.out]; exact HKL.out
  clear hK
  generalize keyL key.data.toList = kl at *
  go_enter Tryd.func16, Tryd.ntmps16
  go_upto_if 9 with (fail)
  go_cut [0] (fun s0 wx => s0 = .string K ∧ Below w.heap.size w wx)
  case first =>
    by_cases h : 64 < key.size
    · have HK := Lib.hid (hks h)
      have hd : decide ((64 : Int) < key.size) = true := decide_eq_true (by omega)
      clear hks hks'
      go_wp2_with fail
      refine hO.mono ?_
      rintro e w1 ⟨rfl, hb1⟩
      rw [HK.out]
      go_wp2
      go_meet
      exact ⟨rfl, hb1⟩
    · have HK := Lib.hid (hks' h)
      have hd : decide ((64 : Int) < key.size) = false := decide_eq_false (by omega)
      clear hks hks' hO
      go_wp2
      go_meet
      exact ⟨by rw [← HK.out], Below.refl _ _⟩
  case rest =>
  obtain ⟨rfl, bel⟩ := hcut
  clear hks hks' hO
  go_upto_region 4 with (fail)
  have hin : List.replicate 64 (0 : UInt8) = [0, 0, 0, 0, 0, 0, 0, 0, 0, 0, 0, 0, 0, 0, 0, 0, 0, 0, 0, 0, 0, 0, 0, 0, 0, 0, 0, 0, 0, 0, 0, 0, 0, 0, 0, 0, 0, 0, 0, 0, 0, 0, 0, 0, 0, 0, 0, 0, 0, 0, 0, 0, 0, 0, 0, 0, 0, 0, 0, 0, 0, 0, 0, 0] := rfl
  have I0 : IsBytes (wc.alloc (.cells #[.int .u8 0, .int .u8 0, .int .u8 0, .int .u8 0, .int .u8 0, .int .u8 0, .int .u8 0, .int .u8 0, .int .u8 0, .int .u8 0, .int .u8 0, .int .u8 0, .int .u8 0, .int .u8 0, .int .u8 0, .int .u8 0, .int .u8 0, .int .u8 0, .int .u8 0, .int .u8 0, .int .u8 0, .int .u8 0, .int .u8 0, .int .u8 0, .int .u8 0, .int .u8 0, .int .u8 0, .int .u8 0, .int .u8 0, .int .u8 0, .int .u8 0, .int .u8 0, .int .u8 0, .int .u8 0, .int .u8 0, .int .u8 0, .int .u8 0, .int .u8 0, .int .u8 0, .int .u8 0, .int .u8 0, .int .u8 0, .int .u8 0, .int .u8 0, .int .u8 0, .int .u8 0, .int .u8 0, .int .u8 0, .int .u8 0, .int .u8 0, .int .u8 0, .int .u8 0, .int .u8 0, .int .u8 0, .int .u8 0, .int .u8 0, .int .u8 0, .int .u8 0, .int .u8 0, .int .u8 0, .int .u8 0, .int .u8 0, .int .u8 0, .int .u8 0] 68)) wc.heap.size (List.replicate 64 0) := by rw [hin]; exact isBytes_cells wc [0, 0, 0, 0, 0, 0, 0, 0, 0, 0, 0, 0, 0, 0, 0, 0, 0, 0, 0, 0, 0, 0, 0, 0, 0, 0, 0, 0, 0, 0, 0, 0, 0, 0, 0, 0, 0, 0, 0, 0, 0, 0, 0, 0, 0, 0, 0, 0, 0, 0, 0, 0, 0, 0, 0, 0, 0, 0, 0, 0, 0, 0, 0, 0] _
  have bel0 := bel.alloc bel.size (.cells #[.int .u8 0, .int .u8 0, .int .u8 0, .int .u8 0, .int .u8 0, .int .u8 0, .int .u8 0, .int .u8 0, .int .u8 0, .int .u8 0, .int .u8 0, .int .u8 0, .int .u8 0, .int .u8 0, .int .u8 0, .int .u8 0, .int .u8 0, .int .u8 0, .int .u8 0, .int .u8 0, .int .u8 0, .int .u8 0, .int .u8 0, .int .u8 0, .int .u8 0, .int .u8 0, .int .u8 0, .int .u8 0, .int .u8 0, .int .u8 0, .int .u8 0, .int .u8 0, .int .u8 0, .int .u8 0, .int .u8 0, .int .u8 0, .int .u8 0, .int .u8 0, .int .u8 0, .int .u8 0, .int .u8 0, .int .u8 0, .int .u8 0, .int .u8 0, .int .u8 0, .int .u8 0, .int .u8 0, .int .u8 0, .int .u8 0, .int .u8 0, .int .u8 0, .int .u8 0, .int .u8 0, .int .u8 0, .int .u8 0, .int .u8 0, .int .u8 0, .int .u8 0, .int .u8 0, .int .u8 0, .int .u8 0, .int .u8 0, .int .u8 0, .int .u8 0] 68)
  have hg := bel.size
  generalize wc.alloc (.cells #[.int .u8 0, .int .u8 0, .int .u8 0, .int .u8 0, .int .u8 0, .int .u8 0, .int .u8 0, .int .u8 0, .int .u8 0, .int .u8 0, .int .u8 0, .int .u8 0, .int .u8 0, .int .u8 0, .int .u8 0, .int .u8 0, .int .u8 0, .int .u8 0, .int .u8 0, .int .u8 0, .int .u8 0, .int .u8 0, .int .u8 0, .int .u8 0, .int .u8 0, .int .u8 0, .int .u8 0, .int .u8 0, .int .u8 0, .int .u8 0, .int .u8 0, .int .u8 0, .int .u8 0, .int .u8 0, .int .u8 0, .int .u8 0, .int .u8 0, .int .u8 0, .int .u8 0, .int .u8 0, .int .u8 0, .int .u8 0, .int .u8 0, .int .u8 0, .int .u8 0, .int .u8 0, .int .u8 0, .int .u8 0, .int .u8 0, .int .u8 0, .int .u8 0, .int .u8 0, .int .u8 0, .int .u8 0, .int .u8 0, .int .u8 0, .int .u8 0, .int .u8 0, .int .u8 0, .int .u8 0, .int .u8 0, .int .u8 0, .int .u8 0, .int .u8 0] 68) = w1 at *
  generalize wc.heap.size = g at *
  clear bel hin
  have hcp := fun ty => run_copy_str (P := Tryd.prog) w1 43 9 ty 5 g 64 K 64 Tryd.underlying43 (by kernel_rfl) hK64 I0 rfl
  have I1 : IsBytes (w1.setCells g 0 (K.data.toList.map bv)) g (mixL key.data.toList b 0) := by
    have h := set_cells I0 K.data.toList (by have := hK64; simpa using this)
    rw [show K.data.toList ++ (List.replicate 64 (0 : UInt8)).drop K.data.toList.length = mixL key.data.toList b 0 by rw [HKD.out]; exact HZ.out] at h
    exact h
  have bel1 : Below w.heap.size w (w1.setCells g 0 (K.data.toList.map bv)) := below_setCells bel0 hg _ _
  go_upto_region 5 with (fail)
  generalize w1.setCells g 0 (K.data.toList.map bv) = w2 at *
  clear hcp I0 bel0 HKD HZ HKL HKS hK64
  go_wp2
  go_loopw [15] (fun s15 wr => ∃ n : Nat, n ≤ 64 ∧ s15 = .int .i64 n ∧ IsBytes wr g (mixL key.data.toList b n) ∧ Below w.heap.size w wr) (fun s15 _ => 64 - (intOf s15).toNat)
  case atStart => exact ⟨0, by omega, rfl, I1, bel1⟩
  case round =>
    clear I1 bel1
    obtain ⟨n, hn, rfl, I, bel⟩ := hrel
    have hl := HML.out n
    by_cases hlt : n < 64
    · have c0 := I.cell (j := n) (by omega)
      have f0 := I.free (j := n) (by omega)
      have ha := HAT.out n n hlt
      rw [if_neg (by omega)] at ha
      obtain ⟨x, hx⟩ : ∃ x, kl.getD n 0 = x := ⟨_, rfl⟩
      have HS := Lib.hid (HSET.out n hlt)
      rw [hx] at ha HS
      rw [List.getElem?_eq_getElem (by omega)] at ha
      rw [Option.some.inj ha] at c0
      unfold bv at c0
      have hx8 := xor8 x b
      have hd : decide ((n : Int) < 64) = true := decide_eq_true (by omega)
      clear ha hx hl
      go_wp2
      clear c0 f0 hx8 hd
      go_roundw
      case rel => exact ⟨n + 1, by omega, by go_num, by have h := I.set_ n (x ^^^ b); rw [HS.out] at h; exact h, bel.setCell (p := ⟨g, n, none⟩) hg _⟩
      case measure => simp [intOf]; omega
    · have hn' : n = 64 := by omega
      subst hn'
      have hcv := conv_bytes (P := Tryd.prog) Tryd.underlying43 Tryd.underlying5 Tryd.underlying9 I 64 64 hl.symm
      clear hl
      go_wp2
      go_ret
      rw [HM.out]
      exact ⟨rfl, bel⟩
end Go.Proofs.YtlaemmplemngmaaDoor.mac
/- Layer 9: seals of bytes by a key, by the program and by the document. -/
namespace Go.Proofs.YtlaemmplemngmaaDoor.mac
open Go.ChangeShapes Go.WideShapes Go.ChangeAt Go.RowKit kit byt dig
open oct

theorem take_str (l : List UInt8) (i : Nat) (h : i < l.length) : str (l.take i) ++ ⟨#[l[i]]⟩ = str (l.take (i + 1)) := by
  apply ByteArray.ext
  apply Array.toList_inj.1
  rw [ByteArray.data_append, Array.toList_append, str_data, str_data, List.take_succ_eq_append_getElem h]
theorem mask_at (k : List UInt8) (b : UInt8) (i : Nat) (h : i < 64) : ∃ hh, (mask k b)[i]'hh = (keyL k).getD i 0 ^^^ b := ⟨by rw [mask_len]; exact h, by simp [mask]⟩

end Go.Proofs.YtlaemmplemngmaaDoor.mac
/- Layer 9: seals of bytes by a key, by the program and by the document. -/
namespace Go.Proofs.YtlaemmplemngmaaDoor.mac
open Go.ChangeShapes Go.WideShapes Go.ChangeAt Go.RowKit kit byt dig
open oct

def macS (key s : ByteArray) : ByteArray := str (hmac key.data.toList s.data.toList)
theorem macS_size (key s : ByteArray) : (macS key s).size = 20 := by unfold macS; rw [str_len, hmac_len]
theorem macS_eq (key s : ByteArray) : digS (str (mask key.data.toList 92) ++ digS (str (mask key.data.toList 54) ++ s)) = macS key s := by
  unfold macS hmac
  rw [digS_eq, digS_eq]
  simp only [ByteArray.data_append, Array.toList_append, str_data]
theorem masked_92 (key : ByteArray) (w : World) (S0 : Starts w) (A : Added w) (hk : key.size ≤ 1000000) : Calls Tryd.prog 16 #[.string key, .int .u8 92] w fun e w' => e = .returned (.string (str (mask key.data.toList 92))) ∧ Below w.heap.size w w' := masked_any key 92 w S0 A hk
theorem masked_54 (key : ByteArray) (w : World) (S0 : Starts w) (A : Added w) (hk : key.size ≤ 1000000) : Calls Tryd.prog 16 #[.string key, .int .u8 54] w fun e w' => e = .returned (.string (str (mask key.data.toList 54))) ∧ Below w.heap.size w w' := masked_any key 54 w S0 A hk
set_option maxRecDepth 100000 in
set_option maxHeartbeats 1000000 in
theorem mac_any (key s : ByteArray) (w : World) (S0 : Starts w) (A : Added w) (hk : key.size ≤ 1000000) (hs : s.size ≤ 900000) : Calls Tryd.prog 9 #[.string key, .string s] w fun e w' => e = .returned (.string (macS key s)) ∧ Below w.heap.size w w' := by
  have h9 := fun w S0 A => masked_92 key w S0 A hk
  have h5 := fun w S0 A => masked_54 key w S0 A hk
  have l9 : (str (mask key.data.toList 92)).size ≤ 64 := by rw [str_len, mask_len]; omega
  have l5 : (str (mask key.data.toList 54)).size ≤ 64 := by rw [str_len, mask_len]; omega
  have HM := Lib.hid (macS_eq key s)
  have HS := Lib.hid S0
  have HA := Lib.hid A
  obtain ⟨M9, e9⟩ : ∃ M, str (mask key.data.toList 92) = M := ⟨_, rfl⟩
  obtain ⟨M5, e5⟩ : ∃ M, str (mask key.data.toList 54) = M := ⟨_, rfl⟩
  rw [e9] at h9 l9 HM
  rw [e5] at h5 l5 HM
  clear e9 e5
  have hO1 := fun w S0 A => of_dig (M5 ++ s) w S0 A (by rw [ByteArray.size_append]; omega)
  have lD : (digS (M5 ++ s)).size ≤ 20 := by rw [digS_size]; omega
  obtain ⟨D, hD⟩ : ∃ D, digS (M5 ++ s) = D := ⟨_, rfl⟩
  rw [hD] at hO1 HM lD
  clear hD
  have hO2 := fun w S0 A => of_dig (M9 ++ D) w S0 A (by rw [ByteArray.size_append]; omega)
  obtain ⟨E, hE⟩ : ∃ E, digS (M9 ++ D) = E := ⟨_, rfl⟩
  rw [hE] at hO2 HM
  clear hE S0 A hk
  go_enter Tryd.func9, Tryd.ntmps9
  go_wp2_with fail
  refine (h9 w HS.out HA.out).mono ?_
  rintro e w1 ⟨rfl, hb1⟩
  go_wp2_with fail
  refine (h5 _ (HS.out.below hb1) (HA.out.below hb1)).mono ?_
  rintro e w2 ⟨rfl, hb2⟩
  have b2 := hb1.trans (hb2.mono hb1.size)
  clear h9 h5
  go_wp2_with fail
  refine (hO1 _ (HS.out.below b2) (HA.out.below b2)).mono ?_
  rintro e w3 ⟨rfl, hb3⟩
  have b3 := b2.trans (hb3.mono b2.size)
  go_wp2_with fail
  refine (hO2 _ (HS.out.below b3) (HA.out.below b3)).mono ?_
  rintro e w4 ⟨rfl, hb4⟩
  clear hO1 hO2
  go_wp2
  go_ret
  exact ⟨by rw [HM.out]; rfl, b3.trans (hb4.mono b3.size)⟩

theorem mac_none : macS ⟨#[]⟩ ⟨#[]⟩ = ⟨#[251, 219, 29, 27, 24, 170, 108, 8, 50, 75, 125, 100, 183, 31, 183, 99, 112, 105, 14, 29]⟩ := by
  unfold macS
  show str (hmac [] []) = _
  rw [hmac_nil]
  rfl
end Go.Proofs.YtlaemmplemngmaaDoor.mac
/- Layer 9: whether a seal is that of bytes by a key; the statements walked. -/
namespace Go.Proofs.YtlaemmplemngmaaDoor.mac
open Go.ChangeShapes Go.WideShapes Go.ChangeAt Go.RowKit kit byt dig
open oct

theorem or_zero (a b : UInt8) : a ||| b = 0 ↔ a = 0 ∧ b = 0 := by
  rw [← UInt8.toNat_inj, UInt8.toNat_or, ← UInt8.toNat_inj, ← UInt8.toNat_inj]
  exact Nat.or_eq_zero_iff
theorem xor_zero8 (a b : UInt8) : a ^^^ b = 0 ↔ a = b := by
  constructor
  · intro h
    have : a ^^^ (a ^^^ b) = a := by rw [h, UInt8.xor_zero]
    rw [← UInt8.xor_assoc, UInt8.xor_self, UInt8.zero_xor] at this
    exact this.symm
  · rintro rfl
    exact UInt8.xor_self
def difL (M S : List UInt8) : Nat → UInt8
  | 0 => 0
  | n + 1 => difL M S n ||| (M.getD n 0 ^^^ S.getD n 0)
theorem dif_zero (M S : List UInt8) (n : Nat) : difL M S n = 0 ↔ ∀ i, i < n → M.getD i 0 = S.getD i 0 := by
  induction n with
  | zero => simp [difL]
  | succ n ih =>
    rw [difL, or_zero, ih, xor_zero8]
    constructor
    · rintro ⟨h, h'⟩ i hi
      by_cases e : i = n
      · subst e; exact h'
      · exact h i (by omega)
    · intro h
      exact ⟨fun i hi => h i (by omega), h n (by omega)⟩
theorem dif_eq (M S : ByteArray) (n : Nat) (hM : M.size = n) (hS : S.size = n) : difL M.data.toList S.data.toList n = 0 ↔ S = M := by
  rw [dif_zero]
  constructor
  · intro h
    apply ByteArray.ext
    apply Array.toList_inj.1
    apply List.ext_getElem?
    intro i
    have hm : M.data.toList.length = n := by simpa using hM
    have hs : S.data.toList.length = n := by simpa using hS
    by_cases hi : i < n
    · have := h i hi
      rw [List.getD_eq_getElem?_getD, List.getD_eq_getElem?_getD, List.getElem?_eq_getElem (by omega), List.getElem?_eq_getElem (by omega)] at this
      rw [List.getElem?_eq_getElem (by omega), List.getElem?_eq_getElem (by omega)]
      simpa using this.symm
    · rw [List.getElem?_eq_none (by omega), List.getElem?_eq_none (by omega)]
  · rintro rfl i _
    rfl
theorem or8 (x b : UInt8) : bits .or .u8 (x.toNat : Int) (b.toNat : Int) = ((x ||| b).toNat : Int) := by
  rw [u8_or_nat _ _ x.toNat_lt b.toNat_lt, UInt8.toNat_or]

set_option maxRecDepth 100000 in
set_option maxHeartbeats 1000000 in
theorem is_any (key s q : ByteArray) (w : World) (S0 : Starts w) (A : Added w) (hk : key.size ≤ 1000000) (hs : s.size ≤ 900000) (hl : q.size ≤ maxLen) : Calls Tryd.prog 13 #[.string key, .string s, .string q] w fun e w' => e = .returned (.bool (decide (q = macS key s))) ∧ Below w.heap.size w w' := by
  have hO := mac_any key s w S0 A hk hs
  have hM := macS_size key s
  have HQ := Lib.hid (fun h => dif_eq (macS key s) q 20 hM h)
  generalize macS key s = M at *
  clear S0 A hk hs
  unfold maxLen at hl
  go_enter Tryd.func13, Tryd.ntmps13
  go_wp2_with fail
  refine hO.mono ?_
  rintro e w1 ⟨rfl, hb1⟩
  clear hO
  by_cases h20 : q.size = 20
  · have hd0 : ((q.size : Int) != 20) = false := by rw [bne_eq_false_iff_eq]; omega
    have HE := Lib.hid (HQ.out h20)
    have HM := Lib.hid hM
    have HL := Lib.hid h20
    clear HQ hl
    go_upto_region 4 with (fail)
    clear hd0
    go_wp2
    go_loopw [8, 20] (fun s8 s20 wr => ∃ n : Nat, n ≤ 20 ∧ s20 = .int .i64 n ∧ s8 = .int .u8 ((difL M.data.toList q.data.toList n).toNat : Int) ∧ Below w.heap.size w wr) (fun _ s20 _ => 20 - (intOf s20).toNat)
    case atStart => exact ⟨0, by omega, rfl, rfl, hb1⟩
    case round =>
      clear hb1
      obtain ⟨n, hn, rfl, rfl, bel⟩ := hrel
      by_cases hlt : n < 20
      · have hd : decide ((n : Int) < 20) = true := decide_eq_true (by omega)
        have h1 : n < M.size := by have := HM.out; omega
        have h2 : n < q.size := by have := HL.out; omega
        have hx : bits .xor .u8 (M[n].toNat : Int) (q[n].toNat : Int) = ((M[n] ^^^ q[n]).toNat : Int) := xor8 _ _
        have HD := Lib.hid (show difL M.data.toList q.data.toList (n + 1) = difL M.data.toList q.data.toList n ||| (M[n] ^^^ q[n]) by
          show _ ||| (_ ^^^ _) = _
          rw [List.getD_eq_getElem?_getD, List.getD_eq_getElem?_getD, List.getElem?_eq_getElem (by simpa using h1), List.getElem?_eq_getElem (by simpa using h2)]
          rfl)
        generalize difL M.data.toList q.data.toList n = x at *
        have ho := or8 x (M[n] ^^^ q[n])
        have hn1 : (n : Int) < M.size := by omega
        have hn2 : (n : Int) < q.size := by omega
        clear hM h20
        go_upto_region 8 with (fail)
        refine wp_region_still_tail 9 (by kernel_rfl) (by kernel_rfl) ?_
        simp only [List.take_succ_cons, List.take_zero, List.drop_succ_cons, List.drop_zero]
        repeat still_step
        refine wpStill_nil ?_
        change wpList _ _ _ _ _ wr.drew
        have bel5 := bel.drew
        generalize wr.drew = w5 at *
        clear bel
        go_wp2
        clear hd hx ho
        go_roundw
        case rel => exact ⟨n + 1, by omega, by go_num, by rw [HD.out, ← UInt8.toNat_xor, or8], bel5⟩
        case measure => simp [intOf]; omega
      · have hn' : n = 20 := by omega
        subst hn'
        go_wp2
        go_ret
        have e : (((difL M.data.toList q.data.toList 20).toNat : Int) == 0) = decide (q = M) := by
          have := HE.out
          by_cases h : q = M
          · rw [this.2 h, decide_eq_true h]; rfl
          · rw [decide_eq_false h, beq_eq_false_iff_ne]
            intro c
            apply h
            rw [← this, ← UInt8.toNat_inj]
            exact Int.ofNat.inj c
        exact ⟨congrArg (fun b => Ending.returned (.bool b)) e, bel⟩
  · have hd0 : ((q.size : Int) != 20) = true := by rw [bne_iff_ne]; omega
    have hne : decide (q = M) = false := decide_eq_false (by rintro rfl; exact h20 hM)
    go_wp2
    go_ret
    rw [hne]
    exact ⟨rfl, hb1⟩

def firsts (n : Nat) (s : ByteArray) : ByteArray := s.extract 0 (min s.size n)
theorem firsts_size (n : Nat) (s : ByteArray) : (firsts n s).size ≤ n := by unfold firsts; rw [ByteArray.size_extract]; omega
theorem firsts_int (n : Nat) (s : ByteArray) : s.extract 0 (min (s.size : Int) (n : Int)).toNat = firsts n s := by unfold firsts; congr 1; omega
theorem slice_first (n : Nat) (s : ByteArray) (w : World) : (Instr.slice 9 (.string s) none (some (.int .i64 (min (s.size : Int) (n : Int)))) none).run Tryd.prog w = .ok (.string (firsts n s)) w := by
  rw [← firsts_int]
  exact run_slice_string_h w _ s Tryd.underlying9 .i64 _ (by omega) (by omega)
end Go.Proofs.YtlaemmplemngmaaDoor.mac
/- Layer 27: seals (gen-akc.py wrote this). -/
namespace Go.Proofs.YtlaemmplemngmaaDoor.ck
open Go.ChangeShapes Go.WideShapes Go.ChangeAt Go.RowKit kit oct par chk bld
set_option maxRecDepth 100000

/-- A seal. -/
def sealX (d : ByteArray) : Ck := ⟨15, 0, 0, 0, 1, 0, d, 0, 0, 0, 0, [], [], [], []⟩
theorem sealX_w (d : ByteArray) (h : d.size ≤ 950) : CkW (sealX d) := ⟨by simp [sealX], by simp [sealX], by simp [sealX], by simp [sealX], by simp [sealX], h, by simp [sealX], by simp [sealX], by simp [sealX], by simp [sealX], fun x hx => by simp [sealX] at hx, fun x hx => by simp [sealX] at hx⟩
theorem sealX_m (d : ByteArray) (w : World) : CkM w w.heap.size (sealX d) (.slice none 0 0) (.slice none 0 0) (.slice none 0 0) (.slice none 0 0) := ⟨Qo.row (Qo.nil w 0 2), Qo.row (Qo.nil w 0 2), Qo.row (Qo.nil w 0 2), Qo.row (Qo.nil w 0 1)⟩
set_option maxHeartbeats 4000000 in
theorem seal_any (d : ByteArray) (w : World) : Calls Tryd.prog 8 #[.string d] w fun e w' => e = .returned (.agg #[.int .i64 15, .int .i64 0, .int .u32 0, .int .i64 0, .int .i64 1, .int .u32 0, .string d, .int .u32 0, .int .u32 0, .int .i64 0, .int .i64 0, .slice none 0 0, .slice none 0 0, .slice none 0 0, .slice none 0 0]) ∧ Below w.heap.size w w' := by
  have R0 := Blk.new w 33 #[.int .i64 0, .int .i64 0, .int .u32 0, .int .i64 0, .int .i64 0, .int .u32 0, .string ⟨#[]⟩, .int .u32 0, .int .u32 0, .int .i64 0, .int .i64 0, .slice none 0 0, .slice none 0 0, .slice none 0 0, .slice none 0 0]
  have bel0 := (Below.refl w.heap.size w).alloc (Nat.le_refl _) (.cells #[.int .i64 0, .int .i64 0, .int .u32 0, .int .i64 0, .int .i64 0, .int .u32 0, .string ⟨#[]⟩, .int .u32 0, .int .u32 0, .int .i64 0, .int .i64 0, .slice none 0 0, .slice none 0 0, .slice none 0 0, .slice none 0 0] 33)
  obtain ⟨rb, hrb⟩ : ∃ rb, w.heap.size = rb := ⟨_, rfl⟩
  rw [hrb] at R0 bel0
  go_enter Tryd.func8, Tryd.ntmps8
  go_upto_region 1 with fail
  obtain ⟨w0, hw0⟩ : ∃ w0, w.alloc (.cells #[.int .i64 0, .int .i64 0, .int .u32 0, .int .i64 0, .int .i64 0, .int .u32 0, .string ⟨#[]⟩, .int .u32 0, .int .u32 0, .int .i64 0, .int .i64 0, .slice none 0 0, .slice none 0 0, .slice none 0 0, .slice none 0 0] 33) = w0 := ⟨_, rfl⟩
  rw [hw0] at R0 bel0
  try rw [hw0]
  try rw [hrb]
  have hone : (#[.int .i64 15, .int .i64 0, .int .u32 0, .int .i64 0, .int .i64 1, .int .u32 0, .string d, .int .u32 0, .int .u32 0, .int .i64 0, .int .i64 0, .slice none 0 0, .slice none 0 0, .slice none 0 0, .slice none 0 0] : Array Value).all (·.oneCell') = true := by kernel_rfl
  have szY : (Tryd.prog.info? 33).map (·.size) = some (#[.int .i64 15, .int .i64 0, .int .u32 0, .int .i64 0, .int .i64 1, .int .u32 0, .string d, .int .u32 0, .int .u32 0, .int .i64 0, .int .i64 0, .slice none 0 0, .slice none 0 0, .slice none 0 0, .slice none 0 0] : Array Value).size := by show _ = some 15; kernel_rfl
  have ZR := (Cel.of_blk R0).setCells_same (#[.int .i64 15, .int .i64 0, .int .u32 0, .int .i64 0, .int .i64 1, .int .u32 0, .string d, .int .u32 0, .int .u32 0, .int .i64 0, .int .i64 0, .slice none 0 0, .slice none 0 0, .slice none 0 0, .slice none 0 0] : Array Value).toList rfl
  have bel10 := below_setCells bel0 (Nat.le_refl rb) 0 (#[.int .i64 15, .int .i64 0, .int .u32 0, .int .i64 0, .int .i64 1, .int .u32 0, .string d, .int .u32 0, .int .u32 0, .int .i64 0, .int .i64 0, .slice none 0 0, .slice none 0 0, .slice none 0 0, .slice none 0 0] : Array Value).toList
  go_wp2_with (refine wpList_store_at rfl 33 _ _ rfl rb 0 #[.int .i64 15, .int .i64 0, .int .u32 0, .int .i64 0, .int .i64 1, .int .u32 0, .string d, .int .u32 0, .int .u32 0, .int .i64 0, .int .i64 0, .slice none 0 0, .slice none 0 0, .slice none 0 0, .slice none 0 0] rfl rfl #[.int .i64 0, .int .i64 0, .int .u32 0, .int .i64 0, .int .i64 0, .int .u32 0, .string ⟨#[]⟩, .int .u32 0, .int .u32 0, .int .i64 0, .int .i64 0, .slice none 0 0, .slice none 0 0, .slice none 0 0, .slice none 0 0] (Cel.of_blk R0) szY rfl hone ?_)
  exact bodyPost_ret (v := .agg #[.int .i64 15, .int .i64 0, .int .u32 0, .int .i64 0, .int .i64 1, .int .u32 0, .string d, .int .u32 0, .int .u32 0, .int .i64 0, .int .i64 0, .slice none 0 0, .slice none 0 0, .slice none 0 0, .slice none 0 0]) (results_cell_at (p := 2) (ty := 33) rfl _ _ rb 0 #[.int .i64 15, .int .i64 0, .int .u32 0, .int .i64 0, .int .i64 1, .int .u32 0, .string d, .int .u32 0, .int .u32 0, .int .i64 0, .int .i64 0, .slice none 0 0, .slice none 0 0, .slice none 0 0, .slice none 0 0] _ rfl (ZR.congr rfl) Tryd.underlying33 rfl szY) rfl ⟨rfl, bel10⟩
/-- What a seal is of. -/
def sealS (L : List Ck) : ByteArray := L.foldl (fun s X => s ++ putF X) (putF (sealX (zeros 20)))
theorem sealS_snoc (L : List Ck) (X : Ck) : sealS (L ++ [X]) = sealS L ++ putF X := by unfold sealS; rw [List.foldl_append]; rfl
theorem putF_le (X : Ck) : (putF X).size ≤ 17100 := by
  unfold putF
  by_cases h : mayF X = true
  · rw [if_pos h]
    have := bodyF_le ((may_iff X).1 h)
    unfold filled
    simp only [ByteArray.size_append, p1_size, p2_size, zeros_size]
    omega
  · rw [if_neg h]; simp
theorem sealS_le (L : List Ck) : (sealS L).size ≤ 17100 * (L.length + 1) := by
  have h : ∀ (L : List Ck) (s : ByteArray), (L.foldl (fun s X => s ++ putF X) s).size ≤ s.size + 17100 * L.length := by
    intro L
    induction L with
    | nil => intro s; simp
    | cons X r ih =>
      intro s
      have h1 := ih (s ++ putF X)
      have h2 := putF_le X
      simp only [List.foldl_cons, ByteArray.size_append, List.length_cons] at h1 ⊢
      omega
  have h1 := h L (putF (sealX (zeros 20)))
  have h2 := putF_le (sealX (zeros 20))
  unfold sealS
  omega
set_option maxHeartbeats 8000000 in
theorem sealed_any {w : World} {B : Nat} {v : Value} {M : List (Ck × V4)} (q : CR w B v M) (hB : B ≤ w.heap.size) (hn : M.length ≤ 20) : Calls Tryd.prog 10 #[v] w fun e w' => e = .returned (.string (sealS (M.map Prod.fst))) ∧ Below w.heap.size w w' := by
  obtain ⟨B0, hB0⟩ : ∃ B0, w.heap.size = B0 := ⟨_, rfl⟩
  have HB0 := Lib.hid hB0
  have HQ := Lib.hid (show ∀ w', Below B0 w w' → CR w' B v M from fun w' h => q.below (h.mono (by omega)))
  obtain ⟨oa, cap, hv, -, -⟩ := q.row.shape
  subst hv
  have I0 := Lib.fresh_isBuilder 45 5 w
  have bel0 := (Below.refl B0 w).alloc (by omega) (.cells #[.pointer none, .slice none 0 0] 45)
  have hs0 : (w.alloc (.cells #[.pointer none, .slice none 0 0] 45)).heap.size = B0 + 1 := by simp; omega
  rw [hB0] at I0
  rw [hB0]
  clear q hB0
  have ch := fun w => Tryd.strings_Repeat (strOfNums [0]) 20 w (by omega) (by rw [strOfNums_size]; simp)
  rw [show (strOfNums [0]).data.toList = [0] from rfl, repeat_zeros] at ch
  go_enter Tryd.func10, Tryd.ntmps10
  go_upto_region 2 with fail
  obtain ⟨w0, hw0⟩ : ∃ w0, w.alloc (.cells #[.pointer none, .slice none 0 0] 45) = w0 := ⟨_, rfl⟩
  rw [hw0] at I0 bel0 hs0
  try rw [hw0]
  try rw [HB0.out]
  clear hw0
  go_wp2_with fail
  refine (ch _).mono ?_
  rintro e w1 ⟨rfl, hb1⟩
  have I1 := IsB_below I0 hb1
  have bel1 := bel0.trans (hb1.mono (by omega))
  have hs1 := hb1.size
  clear I0 bel0 hb1 ch
  have c2 := seal_any (zeros 20) w1
  go_wp2_with fail
  refine c2.mono ?_
  rintro e w2 ⟨rfl, hb2⟩
  have I2 := IsB_below I1 hb2
  have bel2 := bel1.trans (hb2.mono (by omega))
  have hs2 := hb2.size
  clear I1 bel1 hb2 c2
  have c3 := cput_any (sealX_w (zeros 20) (by rw [zeros_size]; omega)) (sealX_m (zeros 20) w2) (Nat.le_refl _)
  unfold ckc sealX at c3
  dsimp only at c3
  obtain ⟨S0, hS0⟩ : ∃ S, putF (sealX (zeros 20)) = S := ⟨_, rfl⟩
  have hS0' := hS0
  unfold sealX at hS0'
  rw [hS0'] at c3
  have zS0 : S0.size ≤ 17100 := by rw [← hS0]; exact putF_le _
  clear hS0'
  go_wp2_with fail
  refine c3.mono ?_
  rintro e w3 ⟨rfl, hb3⟩
  have I3 := IsB_below I2 hb3
  have bel3 := bel2.trans (hb3.mono (by omega))
  have hs3 := hb3.size
  clear I2 bel2 hb3 c3
  have c4 := write_any B0 B0 [] S0 w3 I3 (by simp; omega) (by omega)
  go_wp2_with fail
  refine c4.mono ?_
  rintro e w4 ⟨rfl, U4, hb4⟩
  have bel4 := bel3.trans hb4
  rw [List.nil_append] at U4
  have HS0 := Lib.hid (show S0 = sealS [] from hS0.symm)
  clear I3 bel3 hb4 c4 hs0 hS0
  have HU4 := Lib.hid U4
  clear U4
  go_wp2_with fail
  go_loopw [12] (fun s12 wr => ∃ i : Nat, s12 = .int .i64 (i : Nat) ∧ i ≤ M.length ∧ IsB B0 B0 (Lib.strCells (sealS ((M.take i).map Prod.fst))) wr ∧ Below B0 w wr) (fun s12 _ => M.length - (intOf s12).toNat)
  case atStart => exact ⟨0, rfl, Nat.zero_le _, .inr (by rw [List.take_zero]; show UsedB B0 B0 (Lib.strCells (sealS [])) w4; rw [← HS0.out]; exact HU4.out), bel4⟩
  case round =>
    rename World => wr
    clear bel4 HU4
    obtain ⟨i, rfl, hi, hI, bel⟩ := hrel
    have hge : B0 ≤ wr.heap.size := by rw [← HB0.out]; exact bel.size
    by_cases hlt : i < M.length
    · have hii : (i : Int) < (M.length : Int) := by omega
      have hi0 : (0 : Int) ≤ (i : Int) := by omega
      obtain ⟨⟨X, u1, u2, u3, u4⟩, hx⟩ : ∃ x, M[i]? = some x := ⟨_, List.getElem?_eq_getElem hlt⟩
      obtain ⟨a, cap', hv, hab, hpc⟩ := (HQ.out _ bel).at hx
      injection hv with hv1 hv2 hv3
      subst hv1
      subst hv3
      clear hv2
      obtain ⟨HWx, MX⟩ := (HQ.out _ bel).ok _ (List.mem_of_getElem? hx)
      dsimp only at HWx MX
      unfold ckm at hpc
      dsimp only at hpc
      obtain ⟨oP, cP, rfl, -, -⟩ := MX.P.shape
      obtain ⟨oK, cK, rfl, -, -⟩ := MX.K.shape
      obtain ⟨oG, cG, rfl, -, -⟩ := MX.G.shape
      obtain ⟨oD, cD, rfl, -, -⟩ := MX.D.shape
      have hBw : B ≤ wr.heap.size := by have := HB0.out; omega
      have sz : (Tryd.prog.info? 33).map (·.size) = some (ckc X (.slice oP X.P.length cP) (.slice oK X.K.length cK) (.slice oG X.G.length cG) (.slice oD X.D.length cD)).size := by show _ = some 15; kernel_rfl
      have P2 := Blk.new wr 33 (ckc X (.slice oP X.P.length cP) (.slice oK X.K.length cK) (.slice oG X.G.length cG) (.slice oD X.D.length cD))
      have al2 := (Below.refl wr.heap.size wr).alloc (Nat.le_refl _) (.cells (ckc X (.slice oP X.P.length cP) (.slice oK X.K.length cK) (.slice oG X.G.length cG) (.slice oD X.D.length cD)) 33)
      have M2 := MX.below (al2.mono hBw)
      have c1 := cput_any HWx M2 (Nat.le_trans hBw al2.size)
      have I2 := IsB_below hI al2
      have bel2 := bel.trans (al2.mono hge)
      have hsn : sealS ((M.take (i + 1)).map Prod.fst) = sealS ((M.take i).map Prod.fst) ++ putF X := by rw [take_snoc hx, List.map_append]; exact sealS_snoc _ _
      obtain ⟨Z, hZ⟩ : ∃ Z, putF X = Z := ⟨_, rfl⟩
      have zZ : Z.size ≤ 17100 := by rw [← hZ]; exact putF_le X
      rw [hZ] at c1 hsn
      have hsz : (Lib.strCells (sealS ((M.take i).map Prod.fst))).length + Z.size ≤ 100000000 := by
        have := sealS_le ((M.take i).map Prod.fst)
        rw [Lib.strCells_length]
        rw [List.length_map, List.length_take] at this
        omega
      have HSn := Lib.hid hsn
      unfold ckc at c1 P2 al2 sz hpc I2 bel2
      clear hI bel hsn hZ M2 MX
      go_upto_region 6 with (refine wpList_load_from rfl 33 _ rfl (a.add (i * 15)) rfl #[.int .i64 X.ty, .int .i64 X.fl, .int .u32 X.tsn, .int .i64 X.st, .int .i64 X.ss, .int .u32 X.pr, .string X.d, .int .u32 X.tg, .int .u32 X.rw, .int .i64 X.ou, .int .i64 X.ii, .slice oP X.P.length cP, .slice oK X.K.length cK, .slice oG X.G.length cG, .slice oD X.D.length cD] _ hpc Tryd.underlying33 rfl sz ?_)
      obtain ⟨w2_, hw2⟩ : ∃ w2, wr.alloc (.cells #[.int .i64 X.ty, .int .i64 X.fl, .int .u32 X.tsn, .int .i64 X.st, .int .i64 X.ss, .int .u32 X.pr, .string X.d, .int .u32 X.tg, .int .u32 X.rw, .int .i64 X.ou, .int .i64 X.ii, .slice oP X.P.length cP, .slice oK X.K.length cK, .slice oG X.G.length cG, .slice oD X.D.length cD] 33) = w2 := ⟨_, rfl⟩
      rw [hw2] at P2 al2 c1 I2 bel2
      try rw [hw2]
      clear hw2 hpc sz
      obtain ⟨pb, hpb⟩ : ∃ pb, wr.heap.size = pb := ⟨_, rfl⟩
      rw [hpb] at P2
      try rw [hpb]
      go_wp2_with (refine wpList_load_at rfl 33 _ rfl pb 0 rfl #[.int .i64 X.ty, .int .i64 X.fl, .int .u32 X.tsn, .int .i64 X.st, .int .i64 X.ss, .int .u32 X.pr, .string X.d, .int .u32 X.tg, .int .u32 X.rw, .int .i64 X.ou, .int .i64 X.ii, .slice oP X.P.length cP, .slice oK X.K.length cK, .slice oG X.G.length cG, .slice oD X.D.length cD] _ (Cel.of_blk P2) Tryd.underlying33 rfl (by show _ = some 15; kernel_rfl) ?_)
      refine c1.mono ?_
      rintro e w5 ⟨rfl, hb5⟩
      have I5 := IsB_below I2 hb5
      have bel5 := bel2.trans (hb5.mono (Nat.le_trans hge al2.size))
      have hs5 := hb5.size
      clear c1 P2 I2 bel2 hb5
      have c6 := write_any B0 B0 _ Z w5 I5 hsz (Nat.le_trans hge (Nat.le_trans al2.size hs5))
      clear I5 al2
      go_wp2_with fail
      refine c6.mono ?_
      rintro e w6 ⟨rfl, hu, hb6⟩
      have bel6 := bel5.trans hb6
      have HU := Lib.hid hu
      clear hu c6 bel5 hb6
      go_wp2_with fail
      go_roundw
      case rel => exact ⟨i + 1, by go_num, by omega, .inr (by rw [HSn.out, strCells_append]; exact HU.out), bel6⟩
      case measure => simp [intOf]; omega
    · obtain rfl : i = M.length := by omega
      rw [List.take_length] at hI
      have hS := IsB_string B0 B0 _ wr hI hge
      obtain ⟨S, hS2⟩ : ∃ S, sealS (M.map Prod.fst) = S := ⟨_, rfl⟩
      rw [hS2] at hS
      clear hI
      go_wp2_with (go_at_call 20; refine hS.mono ?_; rintro e w7 ⟨rfl, hb7⟩)
      go_ret
      exact ⟨ret_str hS2.symm, bel.trans hb7⟩
end Go.Proofs.YtlaemmplemngmaaDoor.ck
/- Layer 27: chunks behind their seal (gen-akd.py wrote this). -/
namespace Go.Proofs.YtlaemmplemngmaaDoor.ck
open Go.ChangeShapes Go.WideShapes Go.ChangeAt Go.RowKit kit oct par chk bld
open dig (Starts Added)
open mac (macS mac_any macS_size)
set_option maxRecDepth 100000

theorem starts_below {w w' : World} {B : Nat} (h : Starts w) (hb : Below B w w') (hB : w.heap.size ≤ B) : Starts w' := fun i hi => (hb.cell (by have := block_lt_of_cell (h i hi); exact Nat.lt_of_lt_of_le this hB)).trans (h i hi)
theorem added_below {w w' : World} {B : Nat} (h : Added w) (hb : Below B w w') (hB : w.heap.size ≤ B) : Added w' := fun i hi => (hb.cell (by have := block_lt_of_cell (h i hi); exact Nat.lt_of_lt_of_le this hB)).trans (h i hi)
/-- A row of one, in a block of its own. -/
theorem qo_one {w : World} {g b : Nat} {t : TypeId} {cs : Array Value} (B : Blk w g t cs) (hb : b ≤ g) : Qo w b cs.size (.slice (some ⟨g, 0, none⟩) 1 1) 1 cs.toList := by
  refine ⟨by rw [Nat.one_mul]; exact Array.length_toList, _, 1, rfl, Nat.le_refl _, by unfold maxLen; omega, fun _ => ⟨g, 0, rfl, hb, B.lt, fun j hj => ?_, fun j hj => ?_⟩⟩
  · rw [Nat.one_mul] at hj
    rw [Nat.zero_add, B.cell j, B.frozen j]
    exact ⟨by rw [Array.getElem?_eq_getElem hj]; rfl, rfl⟩
  · rw [Nat.zero_add, B.cell j, Array.getElem?_toList]
theorem cellsK_one {w : World} {b : Nat} : ∀ (M : List (Ck × V4)), (∀ m ∈ M, CQ w b m) → ∀ u ∈ cellsK M, u.oneCell' = true
  | [], _, u, hu => by simp [cellsK] at hu
  | m :: r, h, u, hu => by
    have hm := h m (List.mem_cons_self ..)
    have f : ∀ {size n : Nat} {v : Value} {xs : List Value}, Qo w b size v n xs → v.oneCell' = true := fun q => by obtain ⟨o, c, rfl, _, _⟩ := q.shape; rfl
    rcases List.mem_append.1 (show u ∈ (ckm m).toList ++ cellsK r from hu) with h1 | h1
    · exact one15 (f hm.P) (f hm.K) (f hm.G) (f hm.D) u h1
    · exact cellsK_one r (fun m' hm' => h m' (List.mem_cons_of_mem _ hm')) u h1
set_option maxHeartbeats 8000000 in
theorem sign_any {w : World} {B : Nat} {v : Value} {M : List (Ck × V4)} (key : ByteArray) (q : CR w B v M) (hB : B ≤ w.heap.size) (hn : M.length ≤ 20) (S0 : Starts w) (A0 : Added w) (hk : key.size ≤ 1000000) : Calls Tryd.prog 6 #[.string key, v] w fun e w' => (∃ v' M', e = .returned v' ∧ M'.map Prod.fst = sealX (macS key (sealS (M.map Prod.fst))) :: M.map Prod.fst ∧ CR w' w'.heap.size v' M') ∧ Below w.heap.size w w' := by
  have HW := Lib.hid (fun m hm => (q.ok m hm).1)
  obtain ⟨B0, hB0⟩ : ∃ B0, w.heap.size = B0 := ⟨_, rfl⟩
  have HB0 := Lib.hid hB0
  have HQ := Lib.hid (show ∀ w', Below B0 w w' → CR w' B v M from fun w' h => q.below (h.mono (by omega)))
  obtain ⟨oa, cap, hv, -, -⟩ := q.row.shape
  subst hv
  have HS := Lib.hid (show ∀ w', Below B0 w w' → Starts w' ∧ Added w' from fun w' h => ⟨starts_below S0 h (by omega), added_below A0 h (by omega)⟩)
  have hBB : B ≤ B0 := by omega
  have bel0 := Below.refl B0 w
  have c1 := sealed_any q (by omega) hn
  clear q S0 A0
  obtain ⟨S, hS⟩ : ∃ S, sealS (M.map Prod.fst) = S := ⟨_, rfl⟩
  have zS : S.size ≤ 359100 := by rw [← hS]; have := sealS_le (M.map Prod.fst); rw [List.length_map] at this; omega
  rw [hS] at c1 ⊢
  obtain ⟨D, hD⟩ : ∃ D, macS key S = D := ⟨_, rfl⟩
  have zD : D.size ≤ 950 := by rw [← hD, macS_size]; omega
  rw [hD]
  go_enter Tryd.func6, Tryd.ntmps6
  go_wp2_with fail
  refine c1.mono ?_
  rintro e w1 ⟨rfl, hb1⟩
  have bel1 := bel0.trans (hb1.mono (by omega))
  have hs1 := hb1.size
  clear c1 bel0 hb1
  have c2 := mac_any key S w1 (HS.out _ bel1).1 (HS.out _ bel1).2 hk (by omega)
  rw [hD] at c2
  go_wp2_with fail
  refine c2.mono ?_
  rintro e w2 ⟨rfl, hb2⟩
  have bel2 := bel1.trans (hb2.mono (by omega))
  have hs2 := hb2.size
  clear c2 bel1 hb2
  have c3 := seal_any D w2
  go_wp2_with fail
  refine c3.mono ?_
  rintro e w3 ⟨rfl, hb3⟩
  have bel3 := bel2.trans (hb3.mono (by omega))
  have hs3 := hb3.size
  clear c3 bel2 hb3
  have X4 := Blk.new w3 33 #[.int .i64 15, .int .i64 0, .int .u32 0, .int .i64 0, .int .i64 1, .int .u32 0, .string D, .int .u32 0, .int .u32 0, .int .i64 0, .int .i64 0, .slice none 0 0, .slice none 0 0, .slice none 0 0, .slice none 0 0]
  have al4 := (Below.refl w3.heap.size w3).alloc (Nat.le_refl _) (.cells #[.int .i64 15, .int .i64 0, .int .u32 0, .int .i64 0, .int .i64 1, .int .u32 0, .string D, .int .u32 0, .int .u32 0, .int .i64 0, .int .i64 0, .slice none 0 0, .slice none 0 0, .slice none 0 0, .slice none 0 0] 33)
  have bel4 := bel3.trans (al4.mono (by omega))
  have hs4 : (w3.alloc (.cells #[.int .i64 15, .int .i64 0, .int .u32 0, .int .i64 0, .int .i64 1, .int .u32 0, .string D, .int .u32 0, .int .u32 0, .int .i64 0, .int .i64 0, .slice none 0 0, .slice none 0 0, .slice none 0 0, .slice none 0 0] 33)).heap.size = w3.heap.size + 1 := by simp
  have c5 := chunks_any (HQ.out _ bel4) (by omega) hn
  go_wp2_with fail
  refine c5.mono ?_
  rintro e w5 ⟨⟨v5, M5, rfl, hf5, q5, all5⟩, hb5⟩
  clear c5
  have X5 := X4.below hb5 X4.lt
  have bel5 := bel4.trans (hb5.mono (by omega))
  have hs5 := hb5.size
  have b5 : Qo w5 B0 15 (.slice (some ⟨w3.heap.size, 0, none⟩) 1 1) 1 (#[.int .i64 15, .int .i64 0, .int .u32 0, .int .i64 0, .int .i64 1, .int .u32 0, .string D, .int .u32 0, .int .u32 0, .int .i64 0, .int .i64 0, .slice none 0 0, .slice none 0 0, .slice none 0 0, .slice none 0 0] : Array Value).toList := qo_one X5 (by omega)
  have hlen5 : M5.length = M.length := by have := congrArg List.length hf5; simpa using this
  obtain ⟨o5, p5, e5, _, _⟩ := q5.shape
  subst e5
  obtain ⟨i0, hi0, hz0, hz1, hz2⟩ := info_parts infoC
  have I5 := q5.src (P := Tryd.prog) (tx := 25) Tryd.underlying25 (cellsK_one M5 fun m hm => (all5 m hm).1)
  obtain ⟨v6, w6, hr6, q6, gr, -⟩ := qo_append (P := Tryd.prog) (t := 25) (ty := 25) Tryd.underlying25 hi0 hz0 hz1 hz2 rfl b5 I5 (by unfold maxLen; omega) (by omega) (by omega)
  have bel6 := bel5.grown gr (by omega) (fun k hk => (b5.lt hk).1)
  have all6 : ∀ m ∈ M5, CQ w6 (w3.heap.size + 1) m := fun m hm => by
    have h5 := (all5 m hm).1
    rw [hs4] at h5
    exact CQ.grown h5 gr (CQ.ap_low h5 (fun k hk => by rw [blkOf_pos (by decide)] at hk; injection hk with hk; have hk : w3.heap.size = k := hk; omega))
  have hcr : CR w6 w6.heap.size v6 ((sealX D, .slice none 0 0, .slice none 0 0, .slice none 0 0, .slice none 0 0) :: M5) := by
    refine ⟨?_, fun m hm => ?_⟩
    · have r6 := Qo.row q6
      rw [List.length_cons, show M5.length + 1 = 1 + M5.length by omega]
      exact r6
    · rcases List.mem_cons.1 hm with rfl | h
      · exact ⟨sealX_w D zD, sealX_m D w6⟩
      · refine ⟨?_, (all6 m h).ckm⟩
        have h1 : m.1 ∈ M5.map Prod.fst := List.mem_map.2 ⟨m, h, rfl⟩
        rw [hf5] at h1
        obtain ⟨m', hm', e⟩ := List.mem_map.1 h1
        rw [← e]
        exact HW.out m' hm'
  obtain ⟨o6, p6, e6, _, _⟩ := q6.shape
  subst e6
  have HE := Lib.hid (And.intro hcr (And.intro hf5 bel6))
  clear hcr hf5 bel6 all6 gr q6 I5 b5 bel5 X5 all5 q5 hb5 bel4 al4 X4 bel3 hs4 hlen5 hS hD hB0 hs1 hs2 hs3 hs5
  go_wp2_with (at_builtin; refine wpList_append_q rfl _ _ _ rfl rfl rfl hr6 ?_)
  go_ret
  exact ⟨⟨_, _, rfl, by rw [List.map_cons, HE.out.2.1], HE.out.1⟩, by first | exact HE.out.2.2 | (rw [HB0.out]; exact HE.out.2.2)⟩
end Go.Proofs.YtlaemmplemngmaaDoor.ck
/- General words: long chains of '&&' and '||' in a region that draws its order (its operations only read, its callees only make), by one walk in the order of the text. -/
namespace Go.Proofs.YtlaemmplemngmaaDoor.kit
open Go.ChangeShapes Go.WideShapes Go.ChangeAt Go.RowKit
section
variable {P : Program} {ops : Array Oper} {C : World → Prop} {Q : Act → Prop}
theorem quiet_val {o : Oper} {rest : List Oper} {a : Act} {u : Value} {d : Nat} (hg : o.guard = none) (hd : o.dst = some d) (hrun : ∀ w, C w → (execOp a.eval o).run P w = .ok (.value u) w) (h : wpQuiet P ops C Q rest (a.put (some d) u)) : wpQuiet P ops C Q (o :: rest) a := by
  refine wpQuiet_step fun K hK => ?_
  rw [if_pos (by simp [Region.wanted, hg])]
  refine ⟨u, fun w hw => ?_, by rw [hd]; exact hK _ h⟩
  unfold Oper.quietAt
  rw [hrun w hw]
  exact ⟨rfl, rfl⟩
theorem quiet_if {o : Oper} {rest : List Oper} {a : Act} {u : Value} {d k dk : Nat} {b bb c c' : Bool} (hg : o.guard = some (k, bb)) (hk : (ops[k]?).bind (·.dst) = some dk) (he : a.eval (.tmp dk) = cv c (.bool b)) (hd : o.dst = some d) (hc : (c && (b == bb)) = c') (hrun : c' = true → ∀ w, C w → (execOp a.eval o).run P w = .ok (.value u) w)
    (h : wpQuiet P ops C Q rest (a.put (some d) (cv c' u))) : wpQuiet P ops C Q (o :: rest) a := by
  have hw : Region.wanted o (yielded ops a.tmps) = c' := by
    rw [← hc]
    cases c with
    | true => rw [cv_true] at he; rw [wanted_eq hg hk he, Bool.true_and]
    | false => rw [wanted_no hg hk he, Bool.false_and]
  refine wpQuiet_step fun K hK => ?_
  by_cases hb : c' = true
  · rw [cv_of hb] at h
    rw [if_pos (by rw [hw, hb])]
    refine ⟨u, fun w hw => ?_, by rw [hd]; exact hK _ h⟩
    unfold Oper.quietAt
    rw [hrun hb w hw]
    exact ⟨rfl, rfl⟩
  · rw [show cv c' u = undef from if_neg hb] at h
    rw [if_neg (by rw [hw]; exact hb)]
    rw [hd]
    exact hK _ h
theorem run_enter {o : Oper} {a : Act} {w : World} (f : FuncId) (fn : Func) (xs : Array Operand) (ts : Array TypeId) (hop : o.op = .call { callee := .value (.func f), args := xs, argTypes := ts })
    (hf : P.funcs[f]? = some fn) (hn : (fn.name == "runtime.NumGoroutine") = false) (hb : fn.body.isNone = false) : (execOp a.eval o).run P w = .ok (.enter f (xs.map a.eval)) w := by
  have h1 : ¬ fn.name = "runtime.NumGoroutine" := by simpa using hn
  have h2 : ¬ fn.body = none := by intro q; rw [q] at hb; cases hb
  simp [execOp, hop, resolve, invoke, Act.eval, Result.andThen, Deferred.ofValue, callFunc, hf, h1, h2]
theorem quiet_call (hCB : ∀ w w', C w → Below w.heap.size w w' → C w') {o : Oper} {rest : List Oper} {a : Act} {u : Value} {d : Nat} (hg : o.guard = none) (hd : o.dst = some d)
    (f : FuncId) (fn : Func) (xs : Array Operand) (ts : Array TypeId) (hop : o.op = .call { callee := .value (.func f), args := xs, argTypes := ts }) (hf : P.funcs[f]? = some fn) (hn : (fn.name == "runtime.NumGoroutine") = false) (hb : fn.body.isNone = false)
    (vs : Array Value) (hx : xs.map a.eval = vs) (hcall : ∀ w, C w → Calls P f vs w fun e w' => e = .returned u ∧ Below w.heap.size w w')
    (h : wpQuiet P ops C Q rest (a.put (some d) u)) : wpQuiet P ops C Q (o :: rest) a := by
  subst hx
  refine wpQuiet_step fun K hK => ?_
  rw [if_pos (by simp [Region.wanted, hg])]
  refine ⟨u, fun w hw => ?_, by rw [hd]; exact hK _ h⟩
  unfold Oper.quietAt
  rw [run_enter f fn xs ts hop hf hn hb]
  exact ⟨rfl, (hcall w hw).mono fun e w' ⟨h1, h2⟩ => ⟨h1, hCB w w' hw h2⟩⟩
theorem quiet_call_if (hCB : ∀ w w', C w → Below w.heap.size w w' → C w') {o : Oper} {rest : List Oper} {a : Act} {u : Value} {d k dk : Nat} {b bb c c' : Bool} (hg : o.guard = some (k, bb)) (hk : (ops[k]?).bind (·.dst) = some dk) (he : a.eval (.tmp dk) = cv c (.bool b)) (hd : o.dst = some d) (hc : (c && (b == bb)) = c')
    (f : FuncId) (fn : Func) (xs : Array Operand) (ts : Array TypeId) (hop : o.op = .call { callee := .value (.func f), args := xs, argTypes := ts }) (hf : P.funcs[f]? = some fn) (hn : (fn.name == "runtime.NumGoroutine") = false) (hb : fn.body.isNone = false)
    (vs : Array Value) (hx : c' = true → xs.map a.eval = vs) (hcall : c' = true → ∀ w, C w → Calls P f vs w fun e w' => e = .returned u ∧ Below w.heap.size w w')
    (h : wpQuiet P ops C Q rest (a.put (some d) (cv c' u))) : wpQuiet P ops C Q (o :: rest) a := by
  have hw : Region.wanted o (yielded ops a.tmps) = c' := by
    rw [← hc]
    cases c with
    | true => rw [cv_true] at he; rw [wanted_eq hg hk he, Bool.true_and]
    | false => rw [wanted_no hg hk he, Bool.false_and]
  refine wpQuiet_step fun K hK => ?_
  by_cases hb' : c' = true
  · rw [cv_of hb'] at h
    rw [if_pos (by rw [hw, hb'])]
    refine ⟨u, fun w hw => ?_, by rw [hd]; exact hK _ h⟩
    unfold Oper.quietAt
    rw [run_enter f fn xs ts hop hf hn hb, hx hb']
    exact ⟨rfl, (hcall hb' w hw).mono fun e w' ⟨h1, h2⟩ => ⟨h1, hCB w w' hw h2⟩⟩
  · rw [show cv c' u = undef from if_neg hb'] at h
    rw [if_neg (by rw [hw]; exact hb')]
    rw [hd]
    exact hK _ h
theorem abs_quiet {rest : List Oper} (a : Act) (h : ∀ b : Act, b = a → wpQuiet P ops C Q rest b) : wpQuiet P ops C Q rest a := h a rfl
/-- The class of worlds of QuietBelow. -/
theorem grown_cb (w0 : World) : ∀ w w' : World, (∃ p : Regrown, w = Sort.grow (redrawn w0 p.d) p.os) → Below w.heap.size w w' → ∃ p : Regrown, w' = Sort.grow (redrawn w0 p.d) p.os := by
  rintro w w' ⟨p, rfl⟩ hb
  exact regrown_of_below ((below_regrown w0 p.d p.os).trans (hb.mono (below_regrown w0 p.d p.os).size))
theorem grown_below (w0 : World) : ∀ w : World, (∃ p : Regrown, w = Sort.grow (redrawn w0 p.d) p.os) → Below w0.heap.size w0 w := by
  rintro w ⟨p, rfl⟩
  exact below_regrown w0 p.d p.os
end
end Go.Proofs.YtlaemmplemngmaaDoor.kit
/- Layer 27: which chunks pass (gen-ake.py wrote this). -/
namespace Go.Proofs.YtlaemmplemngmaaDoor.ck
open Go.ChangeShapes Go.WideShapes Go.ChangeAt Go.RowKit kit oct par chk bld
open dig (Starts Added)
open mac (macS mac_any is_any macS_size)
set_option maxRecDepth 100000

theorem row_drop {P : Program} {w : World} {B size n : Nat} {xs : List Value} {t e : TypeId} {a : Addr} {cap : Nat} (ht : P.underlying t = some (.slice e)) (hi : (P.info? e).map (·.size) = some size) (r : Row w B size (.slice (some a) n cap) n xs) (k : Nat) (hk : k ≤ n) : ∃ o c, (∀ W, (Instr.slice t (.slice (some a) n cap) (some (.int .i64 k)) none none).run P W = .ok (.slice o (n - k) c) W) ∧ Row w B size (.slice o (n - k) c) (n - k) (xs.drop (k * size)) := by
  obtain ⟨oa, a', cap', e0, hc, hm, h4, h5⟩ := r.val
  injection e0 with e1 e2 e3
  subst e1
  subst e3
  have hl := r.len
  cases hi' : P.info? e with
  | none => rw [hi'] at hi; cases hi
  | some i =>
    have hsz : i.size = size := by rw [hi'] at hi; exact Option.some.inj hi
    refine ⟨(if cap = k then some a else some (a.add (k * size))), (cap - k), fun W => ?_, ⟨?_, _, a.add (k * size), cap - k, rfl, by omega, by omega, fun h0 => ?_, fun i j hi hj => ?_⟩⟩
    · have h1 : (k : Int) ≤ (n : Int) := by omega
      simp [Instr.slice, run_underlying ht, Instr.sliceBounds, run_sliceBound, sizeOf, typeInfo, hi', hsz, h1, add_some]
    · rw [List.length_drop, hl, Nat.sub_mul]
    · rw [if_neg (by omega)]
      obtain ⟨e, hb⟩ := h4 (by omega)
      obtain rfl : a = a' := by simpa using e
      exact ⟨rfl, by rw [add_blk]; exact hb⟩
    · obtain ⟨e, hb⟩ := h4 (by omega)
      obtain rfl : a = a' := by simpa using e
      have e2 : (a.add (k * size)).add (i * size) = a.add ((k + i) * size) := by rw [Addr.add_add, Nat.add_mul]
      rw [e2, h5 (k + i) j (by omega) hj, List.getElem?_drop, Nat.add_mul, Nat.add_assoc]
theorem cellsK_drop : ∀ (M : List (Ck × V4)) (k : Nat), cellsK (M.drop k) = (cellsK M).drop (k * 15)
  | [], k => by simp [cellsK]
  | m :: r, 0 => by simp
  | m :: r, k + 1 => by
    rw [List.drop_succ_cons, cellsK_drop r k]
    show _ = ((ckm m).toList ++ cellsK r).drop ((k + 1) * 15)
    have h1 : (ckm m).toList.drop ((ckm m).toList.length + k * 15) = [] := List.drop_eq_nil_of_le (by omega)
    rw [show (k + 1) * 15 = (ckm m).toList.length + k * 15 by rw [ckm_size]; omega, List.drop_append, h1, List.nil_append, Nat.add_sub_cancel_left]
theorem CR.drop {w : World} {B : Nat} {a : Addr} {cap : Nat} {M : List (Ck × V4)} (q : CR w B (.slice (some a) M.length cap) M) (k : Nat) (hk : k ≤ M.length) : ∃ o c, (∀ W, (Instr.slice 25 (.slice (some a) M.length cap) (some (.int .i64 k)) none none).run Tryd.prog W = .ok (.slice o (M.length - k) c) W) ∧ CR w B (.slice o (M.length - k) c) (M.drop k) := by
  obtain ⟨o, c, h1, h2⟩ := row_drop Tryd.underlying25 (by show _ = some 15; kernel_rfl) q.row k hk
  refine ⟨o, c, h1, ?_, fun m hm => q.ok m (List.mem_of_mem_drop hm)⟩
  rw [List.length_drop, cellsK_drop]
  exact h2
theorem drop_cons {α : Type} {L : List α} {i : Nat} {x : α} (h : L[i]? = some x) : L.drop i = x :: L.drop (i + 1) := by
  obtain ⟨hi, rfl⟩ := List.getElem?_eq_some_iff.1 h
  exact List.drop_eq_getElem_cons hi
def sealB (key : ByteArray) (X : Ck) (r : List Ck) : Bool := ((((((X.st : Int) == (0 : Int))) && (((X.ss : Int) == (1 : Int)))) && (mayF X)) && ((decide (X.d = macS key (sealS r)))))
def passK (key : ByteArray) : List Ck → Bool → List Ck
  | [], _ => []
  | X :: r, right => if X.ty = 15 then passK key r (sealB key X r) else if (X.ty = 193 ∨ X.ty = 128) ∧ right = false then passK key r right else X :: passK key r right
theorem passK_seal {key : ByteArray} {X : Ck} {r : List Ck} {right : Bool} (h : X.ty = 15) : passK key (X :: r) right = passK key r (sealB key X r) := by rw [passK, if_pos h]
theorem passK_skip {key : ByteArray} {X : Ck} {r : List Ck} (h : X.ty ≠ 15) (h2 : X.ty = 193 ∨ X.ty = 128) : passK key (X :: r) false = passK key r false := by rw [passK, if_neg h, if_pos ⟨h2, rfl⟩]
theorem passK_keep {key : ByteArray} {X : Ck} {r : List Ck} {right : Bool} (h : X.ty ≠ 15) (h2 : ¬ ((X.ty = 193 ∨ X.ty = 128) ∧ right = false)) : passK key (X :: r) right = X :: passK key r right := by rw [passK, if_neg h, if_neg h2]
set_option maxHeartbeats 16000000 in
theorem pass_any {w : World} {B : Nat} {v : Value} {M : List (Ck × V4)} (key : ByteArray) (q : CR w B v M) (hB : B ≤ w.heap.size) (hn : M.length ≤ 20) (S0 : Starts w) (A0 : Added w) (hk : key.size ≤ 1000000) : Calls Tryd.prog 7 #[.string key, v] w fun e w' => (∃ v' M', e = .returned v' ∧ M'.map Prod.fst = passK key (M.map Prod.fst) false ∧ CR w' w'.heap.size v' M') ∧ Below w.heap.size w w' := by
  obtain ⟨B0, hB0⟩ : ∃ B0, w.heap.size = B0 := ⟨_, rfl⟩
  have HB0 := Lib.hid hB0
  have HQ := Lib.hid (show ∀ w', Below B0 w w' → CR w' B v M from fun w' h => q.below (h.mono (by omega)))
  obtain ⟨oa, cap, hv, -, -⟩ := q.row.shape
  subst hv
  have HSS := Lib.hid (show ∀ w', Below B0 w w' → Starts w' ∧ Added w' from fun w' h => ⟨starts_below S0 h (by omega), added_below A0 h (by omega)⟩)
  have hBB : B ≤ B0 := by omega
  have bel0 := Below.refl B0 w
  obtain ⟨PS, hPS⟩ : ∃ PS, passK key (M.map Prod.fst) false = PS := ⟨_, rfl⟩
  have HPS := Lib.hid hPS
  rw [hPS, hB0]
  clear q hB0 hPS S0 A0
  go_enter Tryd.func7, Tryd.ntmps7
  go_wp2_with fail
  go_loopw [5, 6, 11] (fun s5 s6 s11 wr => ∃ (i : Nat) (vo : Value) (rt : Bool) (M' : List (Ck × V4)), s11 = .int .i64 (i : Nat) ∧ i ≤ M.length ∧ s6 = .bool rt ∧ s5 = vo ∧ M'.map Prod.fst ++ passK key ((M.drop i).map Prod.fst) rt = PS ∧ (∀ m ∈ M', CkW m.1) ∧ Qo wr B0 15 vo M'.length (cellsK M') ∧ (∀ m ∈ M', CQ wr B0 m ∧ Ap m vo) ∧ M'.length ≤ i ∧ Below B0 w wr) (fun _ _ s11 _ => M.length - (intOf s11).toNat)
  case atStart => exact ⟨0, _, false, [], rfl, Nat.zero_le _, rfl, rfl, by rw [List.drop_zero]; exact HPS.out, fun m hm => by simp at hm, Qo.nil _ _ _, fun m hm => by simp at hm, Nat.le_refl _, bel0⟩
  case round =>
    rename World => wr
    clear bel0
    obtain ⟨i, vo, rt, M', rfl, hi, rfl, rfl, hps, hcw, qo, hall, hlm, bel⟩ := hrel
    obtain ⟨oq, cq, hvq, _, _⟩ := qo.shape
    subst hvq
    by_cases hlt : i < M.length
    · have hii : (i : Int) < (M.length : Int) := by omega
      have hi0 : (0 : Int) ≤ (i : Int) := by omega
      obtain ⟨⟨X, u1, u2, u3, u4⟩, hx⟩ : ∃ x, M[i]? = some x := ⟨_, List.getElem?_eq_getElem hlt⟩
      obtain ⟨a, cap', hv, hab, hpc⟩ := (HQ.out _ bel).at hx
      injection hv with hv1 hv2 hv3
      subst hv1
      subst hv3
      clear hv2
      obtain ⟨HWx, MX⟩ := (HQ.out _ bel).ok _ (List.mem_of_getElem? hx)
      dsimp only at HWx MX
      unfold ckm at hpc
      dsimp only at hpc
      obtain ⟨oP, cP, rfl, -, -⟩ := MX.P.shape
      obtain ⟨oK, cK, rfl, -, -⟩ := MX.K.shape
      obtain ⟨oG, cG, rfl, -, -⟩ := MX.G.shape
      obtain ⟨oD, cD, rfl, -, -⟩ := MX.D.shape
      have hge : B0 ≤ wr.heap.size := by rw [← HB0.out]; exact bel.size
      have HX := Lib.hid (show (M.drop i).map Prod.fst = X :: (M.drop (i + 1)).map Prod.fst by rw [drop_cons hx]; rfl)
      have HDR := Lib.hid (rfl : passK key (X :: (M.drop (i + 1)).map Prod.fst) rt = passK key (X :: (M.drop (i + 1)).map Prod.fst) rt)
      have sz : (Tryd.prog.info? 33).map (·.size) = some (ckc X (.slice oP X.P.length cP) (.slice oK X.K.length cK) (.slice oG X.G.length cG) (.slice oD X.D.length cD)).size := by show _ = some 15; kernel_rfl
      have P2 := Blk.new wr 33 (ckc X (.slice oP X.P.length cP) (.slice oK X.K.length cK) (.slice oG X.G.length cG) (.slice oD X.D.length cD))
      have b12 := (Below.refl wr.heap.size wr).alloc (Nat.le_refl _) (.cells (ckc X (.slice oP X.P.length cP) (.slice oK X.K.length cK) (.slice oG X.G.length cG) (.slice oD X.D.length cD)) 33)
      have b2 := bel.trans (b12.mono hge)
      have HWX := Lib.hid HWx
      have MX2 := MX.below (b12.mono (by omega))
      clear HWx MX hx bel
      unfold ckc at P2 b12 sz hpc b2 MX2
      go_upto_region 6 with (refine wpList_load_from rfl 33 _ rfl (a.add (i * 15)) rfl #[.int .i64 X.ty, .int .i64 X.fl, .int .u32 X.tsn, .int .i64 X.st, .int .i64 X.ss, .int .u32 X.pr, .string X.d, .int .u32 X.tg, .int .u32 X.rw, .int .i64 X.ou, .int .i64 X.ii, .slice oP X.P.length cP, .slice oK X.K.length cK, .slice oG X.G.length cG, .slice oD X.D.length cD] _ hpc Tryd.underlying33 rfl sz ?_)
      obtain ⟨w2, hw2⟩ : ∃ w2, wr.alloc (.cells #[.int .i64 X.ty, .int .i64 X.fl, .int .u32 X.tsn, .int .i64 X.st, .int .i64 X.ss, .int .u32 X.pr, .string X.d, .int .u32 X.tg, .int .u32 X.rw, .int .i64 X.ou, .int .i64 X.ii, .slice oP X.P.length cP, .slice oK X.K.length cK, .slice oG X.G.length cG, .slice oD X.D.length cD] 33) = w2 := ⟨_, rfl⟩
      rw [hw2] at P2 b12 b2 MX2
      try rw [hw2]
      clear hw2 hpc sz
      obtain ⟨pb, hpb⟩ : ∃ pb, wr.heap.size = pb := ⟨_, rfl⟩
      rw [hpb] at P2
      try rw [hpb]
      clear hpb
      have hBw : B ≤ w2.heap.size := by have := b12.size; omega
      have hB02 : B0 ≤ w2.heap.size := by have := b12.size; omega
      have HMX := Lib.hid (show ∀ w', Below w2.heap.size w2 w' → CkM w' B X _ _ _ _ from fun w' h => MX2.below (h.mono hBw))
      clear MX2
      have x0 : w2.cell? ⟨pb, 0, none⟩ = some (.int .i64 X.ty) := P2.cell 0
      by_cases h15 : X.ty = 15
      · have e15 : (X.ty == 15) = true := by rw [h15]; rfl
        obtain ⟨oS, cS, hsl, HC⟩ := (HQ.out _ b2).drop (i + 1) (by omega)
        have HCR := Lib.hid (show ∀ w', Below w2.heap.size w2 w' → CR w' B (.slice oS (M.length - (i + 1)) cS) (M.drop (i + 1)) from fun w' h => HC.below (h.mono hBw))
        have HSA := Lib.hid (show ∀ w', Below w2.heap.size w2 w' → Starts w' ∧ Added w' from fun w' h => HSS.out _ (b2.trans (h.mono hB02)))
        obtain ⟨S, hS⟩ : ∃ S, sealS ((M.drop (i + 1)).map Prod.fst) = S := ⟨_, rfl⟩
        have zS : S.size ≤ 359100 := by rw [← hS]; have := sealS_le ((M.drop (i + 1)).map Prod.fst); rw [List.length_map, List.length_drop] at this; omega
        have HS := Lib.hid hS
        clear HC hS
        go_upto_region 8 with fail
        clear x0
        have XQ := fun w' (h : ∃ p : Regrown, w' = Sort.grow (redrawn w2 p.d) p.os) => P2.below (grown_below w2 w' h) P2.lt
        obtain ⟨t1B, ht1B⟩ : ∃ b : Bool, ((X.st : Int) == (0 : Int)) = b := ⟨_, rfl⟩
        obtain ⟨t2B, ht2B⟩ : ∃ b : Bool, ((X.ss : Int) == (1 : Int)) = b := ⟨_, rfl⟩
        obtain ⟨t3B, ht3B⟩ : ∃ b : Bool, mayF X = b := ⟨_, rfl⟩
        obtain ⟨t4B, ht4B⟩ : ∃ b : Bool, (decide (X.d = macS key S)) = b := ⟨_, rfl⟩
        refine wp_region_quiet_below (by kernel_rfl) (by kernel_rfl) ?_
        refine abs_quiet _ (fun ac hac => ?_)
        have hsz : ac.tmps.size = 55 := by rw [hac]; rfl
        have f8 : ac.eval (.tmp 8) = .pointer (some ⟨pb, 0, none⟩) := by rw [hac]; rfl
        have f0 : ac.eval (.tmp 0) = .string key := by rw [hac]; rfl
        have f1 : ac.eval (.tmp 1) = .slice (some a) M.length cap := by rw [hac]; rfl
        have f7 : ac.eval (.tmp 7) = .int .i64 (i : Nat) := by rw [hac]; rfl
        have HB := Lib.hid hac
        clear hac
        refine quiet_val (u := .pointer (some ⟨pb, 3, none⟩)) rfl rfl (fun qw hq => run_field (s := .pointer (some ⟨pb, 0, none⟩)) rfl f8 (by kernel_rfl)) ?_
        refine abs_quiet _ (fun a1 h1 => ?_)
        have z1 := sp h1 hsz
        replace f8 := kp h1 (by decide) f8
        replace f0 := kp h1 (by decide) f0
        replace f1 := kp h1 (by decide) f1
        replace f7 := kp h1 (by decide) f7
        have f20 := nw h1 hsz (by decide)
        replace h1 := Lib.hid h1
        refine quiet_val (u := .int .i64 X.st) rfl rfl (fun qw hq => run_load1 (s := .pointer (some ⟨pb, 3, none⟩)) rfl f20 (by have c : qw.cell? ⟨pb, 3, none⟩ = some (.int .i64 X.st) := (XQ qw hq).cell 3; go_simp)) ?_
        refine abs_quiet _ (fun a2 h2 => ?_)
        have z2 := sp h2 z1
        replace f8 := kp h2 (by decide) f8
        replace f0 := kp h2 (by decide) f0
        replace f1 := kp h2 (by decide) f1
        replace f7 := kp h2 (by decide) f7
        have f21 := nw h2 z1 (by decide)
        clear f20 z1
        replace h2 := Lib.hid h2
        refine quiet_val (u := .bool t1B) rfl rfl (fun qw hq => run_cmp_int (k := .i64) (p := X.st) (q := 0) rfl (.inr rfl) f21 rfl ((eql_i3 _ _ _).trans (by rw [ht1B]))) ?_
        refine abs_quiet _ (fun a3 h3 => ?_)
        have z3 := sp h3 z2
        replace f8 := kp h3 (by decide) f8
        replace f0 := kp h3 (by decide) f0
        replace f1 := kp h3 (by decide) f1
        replace f7 := kp h3 (by decide) f7
        have f22 := nw h3 z2 (by decide)
        clear f21 z2
        replace h3 := Lib.hid h3
        refine quiet_val (u := .bool t1B) rfl rfl (fun qw hq => run_move rfl f22 _) ?_
        refine abs_quiet _ (fun a4 h4 => ?_)
        have z4 := sp h4 z3
        replace f8 := kp h4 (by decide) f8
        replace f0 := kp h4 (by decide) f0
        replace f1 := kp h4 (by decide) f1
        replace f7 := kp h4 (by decide) f7
        have f23 := nw h4 z3 (by decide)
        clear f22 z3
        replace h4 := Lib.hid h4
        refine quiet_if (u := .pointer (some ⟨pb, 4, none⟩)) (b := t1B) (c := true) (c' := t1B) (dk := 23) rfl (by kernel_rfl) (f23.trans (cv_true _).symm) rfl (by cases t1B <;> rfl) (fun h qw hq => run_field (s := .pointer (some ⟨pb, 0, none⟩)) rfl f8 (by kernel_rfl)) ?_
        refine abs_quiet _ (fun a5 h5 => ?_)
        have z5 := sp h5 z4
        replace f8 := kp h5 (by decide) f8
        replace f0 := kp h5 (by decide) f0
        replace f1 := kp h5 (by decide) f1
        replace f7 := kp h5 (by decide) f7
        replace f23 := kp h5 (by decide) f23
        have f24 := nw h5 z4 (by decide)
        clear z4
        replace h5 := Lib.hid h5
        refine quiet_if (u := .int .i64 X.ss) (b := t1B) (c := true) (c' := t1B) (dk := 23) rfl (by kernel_rfl) (f23.trans (cv_true _).symm) rfl (by cases t1B <;> rfl) (fun h qw hq => run_load1 (s := .pointer (some ⟨pb, 4, none⟩)) rfl (f24.trans (cv_of h)) (by have c : qw.cell? ⟨pb, 4, none⟩ = some (.int .i64 X.ss) := (XQ qw hq).cell 4; go_simp)) ?_
        refine abs_quiet _ (fun a6 h6 => ?_)
        have z6 := sp h6 z5
        replace f8 := kp h6 (by decide) f8
        replace f0 := kp h6 (by decide) f0
        replace f1 := kp h6 (by decide) f1
        replace f7 := kp h6 (by decide) f7
        replace f23 := kp h6 (by decide) f23
        have f25 := nw h6 z5 (by decide)
        clear f24 z5
        replace h6 := Lib.hid h6
        refine quiet_if (u := .bool t2B) (b := t1B) (c := true) (c' := t1B) (dk := 23) rfl (by kernel_rfl) (f23.trans (cv_true _).symm) rfl (by cases t1B <;> rfl) (fun h qw hq => run_cmp_int (k := .i64) (p := X.ss) (q := 1) rfl (.inr rfl) (f25.trans (cv_of h)) rfl ((eql_i3 _ _ _).trans (by rw [ht2B]))) ?_
        refine abs_quiet _ (fun a7 h7 => ?_)
        have z7 := sp h7 z6
        replace f8 := kp h7 (by decide) f8
        replace f0 := kp h7 (by decide) f0
        replace f1 := kp h7 (by decide) f1
        replace f7 := kp h7 (by decide) f7
        replace f23 := kp h7 (by decide) f23
        have f26 := nw h7 z6 (by decide)
        clear f25 z6
        replace h7 := Lib.hid h7
        obtain ⟨q1B, hq1B⟩ : ∃ q : Bool, (t1B && t2B) = q := ⟨_, rfl⟩
        refine quiet_val (u := .bool q1B) rfl rfl (fun qw hq => run_pick (b := t1B) rfl f23 (by rw [f26, ← hq1B]; cases t1B <;> cases t2B <;> simp [cv, eval_const])) ?_
        refine abs_quiet _ (fun a8 h8 => ?_)
        have z8 := sp h8 z7
        replace f8 := kp h8 (by decide) f8
        replace f0 := kp h8 (by decide) f0
        replace f1 := kp h8 (by decide) f1
        replace f7 := kp h8 (by decide) f7
        have f27 := nw h8 z7 (by decide)
        clear f23 f26 z7
        replace h8 := Lib.hid h8
        refine quiet_val (u := .bool q1B) rfl rfl (fun qw hq => run_move rfl f27 _) ?_
        refine abs_quiet _ (fun a9 h9 => ?_)
        have z9 := sp h9 z8
        replace f8 := kp h9 (by decide) f8
        replace f0 := kp h9 (by decide) f0
        replace f1 := kp h9 (by decide) f1
        replace f7 := kp h9 (by decide) f7
        have f28 := nw h9 z8 (by decide)
        clear f27 z8
        replace h9 := Lib.hid h9
        refine quiet_if (u := .agg #[.int .i64 X.ty, .int .i64 X.fl, .int .u32 X.tsn, .int .i64 X.st, .int .i64 X.ss, .int .u32 X.pr, .string X.d, .int .u32 X.tg, .int .u32 X.rw, .int .i64 X.ou, .int .i64 X.ii, .slice oP X.P.length cP, .slice oK X.K.length cK, .slice oG X.G.length cG, .slice oD X.D.length cD]) (b := q1B) (c := true) (c' := q1B) (dk := 28) rfl (by kernel_rfl) (f28.trans (cv_true _).symm) rfl (by cases q1B <;> rfl) (fun h qw hq => run_load_at (h := pb) (off := 0) (cs := #[.int .i64 X.ty, .int .i64 X.fl, .int .u32 X.tsn, .int .i64 X.st, .int .i64 X.ss, .int .u32 X.pr, .string X.d, .int .u32 X.tg, .int .u32 X.rw, .int .i64 X.ou, .int .i64 X.ii, .slice oP X.P.length cP, .slice oK X.K.length cK, .slice oG X.G.length cG, .slice oD X.D.length cD]) rfl f8 _ Tryd.underlying33 rfl (by kernel_rfl) (Cel.of_blk (XQ qw hq))) ?_
        refine abs_quiet _ (fun a10 h10 => ?_)
        have z10 := sp h10 z9
        replace f8 := kp h10 (by decide) f8
        replace f0 := kp h10 (by decide) f0
        replace f1 := kp h10 (by decide) f1
        replace f7 := kp h10 (by decide) f7
        replace f28 := kp h10 (by decide) f28
        have f29 := nw h10 z9 (by decide)
        clear z9
        replace h10 := Lib.hid h10
        refine quiet_call_if (grown_cb _) (u := .bool t3B) (b := q1B) (c := true) (c' := q1B) (dk := 28) rfl (by kernel_rfl) (f28.trans (cv_true _).symm) rfl (by cases q1B <;> rfl) 12 Tryd.f12 _ _ rfl Tryd.func12 (by kernel_rfl) (by kernel_rfl) #[.agg #[.int .i64 X.ty, .int .i64 X.fl, .int .u32 X.tsn, .int .i64 X.st, .int .i64 X.ss, .int .u32 X.pr, .string X.d, .int .u32 X.tg, .int .u32 X.rw, .int .i64 X.ou, .int .i64 X.ii, .slice oP X.P.length cP, .slice oK X.K.length cK, .slice oG X.G.length cG, .slice oD X.D.length cD]] (fun h => by rw [show ((#[.tmp 29] : Array Operand).map a10.eval) = #[a10.eval (.tmp 29)] by simp, (f29.trans (cv_of h))]) (fun h qw hq => by rw [← ht3B]; exact cmay_law HWX.out (HMX.out _ (grown_below w2 qw hq)) (Nat.le_trans hBw (grown_below w2 qw hq).size)) ?_
        refine abs_quiet _ (fun a11 h11 => ?_)
        have z11 := sp h11 z10
        replace f8 := kp h11 (by decide) f8
        replace f0 := kp h11 (by decide) f0
        replace f1 := kp h11 (by decide) f1
        replace f7 := kp h11 (by decide) f7
        replace f28 := kp h11 (by decide) f28
        have f30 := nw h11 z10 (by decide)
        clear f29 z10
        replace h11 := Lib.hid h11
        obtain ⟨q2B, hq2B⟩ : ∃ q : Bool, (q1B && t3B) = q := ⟨_, rfl⟩
        refine quiet_val (u := .bool q2B) rfl rfl (fun qw hq => run_pick (b := q1B) rfl f28 (by rw [f30, ← hq2B]; cases q1B <;> cases t3B <;> simp [cv, eval_const])) ?_
        refine abs_quiet _ (fun a12 h12 => ?_)
        have z12 := sp h12 z11
        replace f8 := kp h12 (by decide) f8
        replace f0 := kp h12 (by decide) f0
        replace f1 := kp h12 (by decide) f1
        replace f7 := kp h12 (by decide) f7
        have f31 := nw h12 z11 (by decide)
        clear f28 f30 z11
        replace h12 := Lib.hid h12
        refine quiet_val (u := .bool q2B) rfl rfl (fun qw hq => run_move rfl f31 _) ?_
        refine abs_quiet _ (fun a13 h13 => ?_)
        have z13 := sp h13 z12
        replace f8 := kp h13 (by decide) f8
        replace f0 := kp h13 (by decide) f0
        replace f1 := kp h13 (by decide) f1
        replace f7 := kp h13 (by decide) f7
        have f32 := nw h13 z12 (by decide)
        clear f31 z12
        replace h13 := Lib.hid h13
        refine quiet_if (u := .string key) (b := q2B) (c := true) (c' := q2B) (dk := 32) rfl (by kernel_rfl) (f32.trans (cv_true _).symm) rfl (by cases q2B <;> rfl) (fun h qw hq => run_move rfl f0 _) ?_
        refine abs_quiet _ (fun a14 h14 => ?_)
        have z14 := sp h14 z13
        replace f8 := kp h14 (by decide) f8
        replace f0 := kp h14 (by decide) f0
        replace f1 := kp h14 (by decide) f1
        replace f7 := kp h14 (by decide) f7
        replace f32 := kp h14 (by decide) f32
        have f33 := nw h14 z13 (by decide)
        clear z13
        replace h14 := Lib.hid h14
        refine quiet_if (u := .slice (some a) M.length cap) (b := q2B) (c := true) (c' := q2B) (dk := 32) rfl (by kernel_rfl) (f32.trans (cv_true _).symm) rfl (by cases q2B <;> rfl) (fun h qw hq => run_move rfl f1 _) ?_
        refine abs_quiet _ (fun a15 h15 => ?_)
        have z15 := sp h15 z14
        replace f8 := kp h15 (by decide) f8
        replace f0 := kp h15 (by decide) f0
        replace f1 := kp h15 (by decide) f1
        replace f7 := kp h15 (by decide) f7
        replace f32 := kp h15 (by decide) f32
        replace f33 := kp h15 (by decide) f33
        have f34 := nw h15 z14 (by decide)
        clear z14
        replace h15 := Lib.hid h15
        refine quiet_if (u := .int .i64 (i : Nat)) (b := q2B) (c := true) (c' := q2B) (dk := 32) rfl (by kernel_rfl) (f32.trans (cv_true _).symm) rfl (by cases q2B <;> rfl) (fun h qw hq => run_move rfl f7 _) ?_
        refine abs_quiet _ (fun a16 h16 => ?_)
        have z16 := sp h16 z15
        replace f8 := kp h16 (by decide) f8
        replace f0 := kp h16 (by decide) f0
        replace f1 := kp h16 (by decide) f1
        replace f7 := kp h16 (by decide) f7
        replace f32 := kp h16 (by decide) f32
        replace f33 := kp h16 (by decide) f33
        replace f34 := kp h16 (by decide) f34
        have f35 := nw h16 z15 (by decide)
        clear z15
        replace h16 := Lib.hid h16
        refine quiet_if (u := .int .i64 ((i + 1 : Nat) : Nat)) (b := q2B) (c := true) (c' := q2B) (dk := 32) rfl (by kernel_rfl) (f32.trans (cv_true _).symm) rfl (by cases q2B <;> rfl) (fun h qw hq => run_ord (s := .int .i64 (i : Nat)) (j := .int .i64 1) rfl (.inr (.inr (.inr (.inr (.inl rfl))))) (f35.trans (cv_of h)) rfl (add_n (i) (1) (by omega) _)) ?_
        refine abs_quiet _ (fun a17 h17 => ?_)
        have z17 := sp h17 z16
        replace f8 := kp h17 (by decide) f8
        replace f0 := kp h17 (by decide) f0
        replace f1 := kp h17 (by decide) f1
        replace f7 := kp h17 (by decide) f7
        replace f32 := kp h17 (by decide) f32
        replace f33 := kp h17 (by decide) f33
        replace f34 := kp h17 (by decide) f34
        have f36 := nw h17 z16 (by decide)
        clear f35 z16
        replace h17 := Lib.hid h17
        refine quiet_if (u := .slice oS (M.length - (i + 1)) cS) (b := q2B) (c := true) (c' := q2B) (dk := 32) rfl (by kernel_rfl) (f32.trans (cv_true _).symm) rfl (by cases q2B <;> rfl) (fun h qw hq => run_slice_lo rfl (f34.trans (cv_of h)) (f36.trans (cv_of h)) Tryd.underlying25 (hsl _)) ?_
        refine abs_quiet _ (fun a18 h18 => ?_)
        have z18 := sp h18 z17
        replace f8 := kp h18 (by decide) f8
        replace f0 := kp h18 (by decide) f0
        replace f1 := kp h18 (by decide) f1
        replace f7 := kp h18 (by decide) f7
        replace f32 := kp h18 (by decide) f32
        replace f33 := kp h18 (by decide) f33
        have f37 := nw h18 z17 (by decide)
        clear f34 f36 z17
        replace h18 := Lib.hid h18
        refine quiet_call_if (grown_cb _) (u := .string S) (b := q2B) (c := true) (c' := q2B) (dk := 32) rfl (by kernel_rfl) (f32.trans (cv_true _).symm) rfl (by cases q2B <;> rfl) 10 Tryd.f10 _ _ rfl Tryd.func10 (by kernel_rfl) (by kernel_rfl) #[.slice oS (M.length - (i + 1)) cS] (fun h => by rw [show ((#[.tmp 37] : Array Operand).map a18.eval) = #[a18.eval (.tmp 37)] by simp, (f37.trans (cv_of h))]) (fun h qw hq => by rw [← HS.out]; exact sealed_any (HCR.out _ (grown_below w2 qw hq)) (Nat.le_trans hBw (grown_below w2 qw hq).size) (by rw [List.length_drop]; omega)) ?_
        refine abs_quiet _ (fun a19 h19 => ?_)
        have z19 := sp h19 z18
        replace f8 := kp h19 (by decide) f8
        replace f0 := kp h19 (by decide) f0
        replace f1 := kp h19 (by decide) f1
        replace f7 := kp h19 (by decide) f7
        replace f32 := kp h19 (by decide) f32
        replace f33 := kp h19 (by decide) f33
        have f38 := nw h19 z18 (by decide)
        clear f37 z18
        replace h19 := Lib.hid h19
        refine quiet_if (u := .pointer (some ⟨pb, 6, none⟩)) (b := q2B) (c := true) (c' := q2B) (dk := 32) rfl (by kernel_rfl) (f32.trans (cv_true _).symm) rfl (by cases q2B <;> rfl) (fun h qw hq => run_field (s := .pointer (some ⟨pb, 0, none⟩)) rfl f8 (by kernel_rfl)) ?_
        refine abs_quiet _ (fun a20 h20 => ?_)
        have z20 := sp h20 z19
        replace f8 := kp h20 (by decide) f8
        replace f0 := kp h20 (by decide) f0
        replace f1 := kp h20 (by decide) f1
        replace f7 := kp h20 (by decide) f7
        replace f32 := kp h20 (by decide) f32
        replace f33 := kp h20 (by decide) f33
        replace f38 := kp h20 (by decide) f38
        have f39 := nw h20 z19 (by decide)
        clear z19
        replace h20 := Lib.hid h20
        refine quiet_if (u := .string X.d) (b := q2B) (c := true) (c' := q2B) (dk := 32) rfl (by kernel_rfl) (f32.trans (cv_true _).symm) rfl (by cases q2B <;> rfl) (fun h qw hq => run_load1 (s := .pointer (some ⟨pb, 6, none⟩)) rfl (f39.trans (cv_of h)) (by have c : qw.cell? ⟨pb, 6, none⟩ = some (.string X.d) := (XQ qw hq).cell 6; go_simp)) ?_
        refine abs_quiet _ (fun a21 h21 => ?_)
        have z21 := sp h21 z20
        replace f8 := kp h21 (by decide) f8
        replace f0 := kp h21 (by decide) f0
        replace f1 := kp h21 (by decide) f1
        replace f7 := kp h21 (by decide) f7
        replace f32 := kp h21 (by decide) f32
        replace f33 := kp h21 (by decide) f33
        replace f38 := kp h21 (by decide) f38
        have f40 := nw h21 z20 (by decide)
        clear f39 z20
        replace h21 := Lib.hid h21
        refine quiet_call_if (grown_cb _) (u := .bool t4B) (b := q2B) (c := true) (c' := q2B) (dk := 32) rfl (by kernel_rfl) (f32.trans (cv_true _).symm) rfl (by cases q2B <;> rfl) 13 Tryd.f13 _ _ rfl Tryd.func13 (by kernel_rfl) (by kernel_rfl) #[.string key, .string S, .string X.d] (fun h => by rw [show ((#[.tmp 33, .tmp 38, .tmp 40] : Array Operand).map a21.eval) = #[a21.eval (.tmp 33), a21.eval (.tmp 38), a21.eval (.tmp 40)] by simp, (f33.trans (cv_of h)), (f38.trans (cv_of h)), (f40.trans (cv_of h))]) (fun h qw hq => by rw [← ht4B]; exact is_any key S X.d qw (HSA.out _ (grown_below w2 qw hq)).1 (HSA.out _ (grown_below w2 qw hq)).2 hk (by omega) (by have := HWX.out.d; unfold maxLen; omega)) ?_
        refine abs_quiet _ (fun a22 h22 => ?_)
        have z22 := sp h22 z21
        replace f8 := kp h22 (by decide) f8
        replace f0 := kp h22 (by decide) f0
        replace f1 := kp h22 (by decide) f1
        replace f7 := kp h22 (by decide) f7
        replace f32 := kp h22 (by decide) f32
        have f41 := nw h22 z21 (by decide)
        clear f33 f38 f40 z21
        replace h22 := Lib.hid h22
        obtain ⟨q3B, hq3B⟩ : ∃ q : Bool, (q2B && t4B) = q := ⟨_, rfl⟩
        refine quiet_val (u := .bool q3B) rfl rfl (fun qw hq => run_pick (b := q2B) rfl f32 (by rw [f41, ← hq3B]; cases q2B <;> cases t4B <;> simp [cv, eval_const])) ?_
        refine abs_quiet _ (fun a23 h23 => ?_)
        have z23 := sp h23 z22
        replace f8 := kp h23 (by decide) f8
        replace f0 := kp h23 (by decide) f0
        replace f1 := kp h23 (by decide) f1
        replace f7 := kp h23 (by decide) f7
        have f42 := nw h23 z22 (by decide)
        clear f32 f41 z22
        replace h23 := Lib.hid h23
        refine quiet_val (u := .bool q3B) rfl rfl (fun qw hq => run_assign rfl f42 _) ?_
        refine abs_quiet _ (fun a24 h24 => ?_)
        have z24 := sp h24 z23
        replace f8 := kp h24 (by decide) f8
        replace f0 := kp h24 (by decide) f0
        replace f1 := kp h24 (by decide) f1
        replace f7 := kp h24 (by decide) f7
        have f6 := nw h24 z23 (by decide)
        clear f42 z23
        replace h24 := Lib.hid h24
        refine wpQuiet_nil ?_
        rw [h24.out, h23.out, h22.out, h21.out, h20.out, h19.out, h18.out, h17.out, h16.out, h15.out, h14.out, h13.out, h12.out, h11.out, h10.out, h9.out, h8.out, h7.out, h6.out, h5.out, h4.out, h3.out, h2.out, h1.out, HB.out]
        simp only [Act.put, List.setIfInBounds_toArray, List.set_cons_zero, List.set_cons_succ]
        intro w3 hw3
        have b3 := b2.trans ((grown_below w2 w3 hw3).mono hB02)
        clear f8 f0 f1 f7 f6 z24 HB hsz h1 h2 h3 h4 h5 h6 h7 h8 h9 h10 h11 h12 h13 h14 h15 h16 h17 h18 h19 h20 h21 h22 h23 h24
        have HSB := Lib.hid (show sealB key X ((M.drop (i + 1)).map Prod.fst) = q3B by
          unfold sealB
          rw [HS.out, ht1B, ht2B, ht3B, ht4B]
          subst_vars
          rfl)
        clear ht1B ht2B ht3B ht4B hq1B hq2B hq3B
        have HE := Lib.hid (And.intro (qo.below (b12.trans ((grown_below w2 w3 hw3).mono b12.size)) (Nat.le_refl _)) (And.intro (fun m hm => And.intro ((hall m hm).1.below (b12.trans ((grown_below w2 w3 hw3).mono b12.size)) (Nat.le_refl _)) (hall m hm).2) b3))
        clear qo hall b3 hw3 XQ
        go_wp2_with fail
        go_roundw
        case rel => exact ⟨i + 1, _, _, M', by go_num, by omega, rfl, rfl, by rw [← hps, HX.out, HDR.out, passK_seal h15, HSB.out], hcw, HE.out.1, HE.out.2.1, by omega, HE.out.2.2⟩
        case measure => simp [intOf]; omega
      · by_cases h193 : X.ty = 193
        · cases rt with
          | false =>
            have e15 : (X.ty == 15) = false := by rw [beq_eq_false_iff_ne]; omega
            have e193 : (X.ty == 193) = true := by rw [h193]; rfl
            have e128 : (X.ty == 128) = false := by rw [beq_eq_false_iff_ne]; omega
            have HE := Lib.hid (And.intro (qo.below b12 (Nat.le_refl _)) (And.intro (fun m hm => And.intro ((hall m hm).1.below b12 (Nat.le_refl _)) (hall m hm).2) b2))
            clear qo hall
            go_wp2_with fail
            go_roundw
            case rel => exact ⟨i + 1, _, _, M', by go_num, by omega, rfl, rfl, by rw [← hps, HX.out, HDR.out]; exact (congrArg _ (passK_skip (by omega) (by omega))).symm, hcw, HE.out.1, HE.out.2.1, by omega, HE.out.2.2⟩
            case measure => simp [intOf]; omega
          | true =>
            have e15 : (X.ty == 15) = false := by rw [beq_eq_false_iff_ne]; omega
            have e193 : (X.ty == 193) = true := by rw [h193]; rfl
            have e128 : (X.ty == 128) = false := by rw [beq_eq_false_iff_ne]; omega
            have HKEEP := Lib.hid (passK_keep (key := key) (r := (M.drop (i + 1)).map Prod.fst) h15 (fun hq => by rcases hq with ⟨h1, h2⟩; first | omega | cases h2) : passK key (X :: (M.drop (i + 1)).map Prod.fst) true = _)
            clear HDR
            go_upto_region 12 with fail
            clear h15 h193 x0 e15 e193 e128
            have c1 := cclone_any HWX.out (HMX.out _ (Below.refl _ _)) hBw
            unfold ckc at c1
            go_wp2_with (refine wpList_load_at rfl 33 _ rfl pb 0 rfl #[.int .i64 X.ty, .int .i64 X.fl, .int .u32 X.tsn, .int .i64 X.st, .int .i64 X.ss, .int .u32 X.pr, .string X.d, .int .u32 X.tg, .int .u32 X.rw, .int .i64 X.ou, .int .i64 X.ii, .slice oP X.P.length cP, .slice oK X.K.length cK, .slice oG X.G.length cG, .slice oD X.D.length cD] _ (Cel.of_blk P2) Tryd.underlying33 rfl (by show _ = some 15; kernel_rfl) ?_)
            refine c1.mono ?_
            rintro e w3 ⟨⟨y1, y2, y3, y4, rfl, Q3⟩, hb3⟩
            clear c1
            have b23 := b12.trans (hb3.mono b12.size)
            have q3 := qo.below b23 (Nat.le_refl _)
            have hall3 : ∀ m ∈ M', CQ w3 B0 m ∧ Ap m (.slice oq M'.length cq) := fun m hm => ⟨(hall m hm).1.below b23 (Nat.le_refl _), (hall m hm).2⟩
            have bel3 := b2.trans (hb3.mono hB02)
            obtain ⟨rP, dP, e1, _, _⟩ := Q3.P.shape
            subst e1
            obtain ⟨rK, dK, e2, _, _⟩ := Q3.K.shape
            subst e2
            obtain ⟨rG, dG, e3, _, _⟩ := Q3.G.shape
            subst e3
            obtain ⟨rD, dD, e4, _, _⟩ := Q3.D.shape
            subst e4
            have hlow : ∀ k, blkOf (.slice oq M'.length cq) = some k → k < w2.heap.size := fun k hk => Nat.lt_of_lt_of_le (qo.lt hk).2 b12.size
            have hs3 := b23.size
            have ap3 : Ap (X, (.slice rP X.P.length dP), (.slice rK X.K.length dK), (.slice rG X.G.length dG), (.slice rD X.D.length dD)) (.slice oq M'.length cq) := CQ.ap_low (m := (X, _, _, _, _)) Q3 hlow
            have Q3' : CQ w3 B0 (X, (.slice rP X.P.length dP), (.slice rK X.K.length dK), (.slice rG X.G.length dG), (.slice rD X.D.length dD)) := ⟨Q3.P.weaken (Nat.le_trans hge b12.size), Q3.K.weaken (Nat.le_trans hge b12.size), Q3.G.weaken (Nat.le_trans hge b12.size), Q3.D.weaken (Nat.le_trans hge b12.size)⟩
            clear Q3 qo hall
            obtain ⟨i0, hi0', hz0, hz1, hz2⟩ := info_parts infoC
            have IT := Blk.new w3 33 (ckc X (.slice rP X.P.length dP) (.slice rK X.K.length dK) (.slice rG X.G.length dG) (.slice rD X.D.length dD))
            have I4 := src_item (P := Tryd.prog) (SL := 25) (sz := 15) Tryd.underlying25 IT (one15 rfl rfl rfl rfl) rfl
            have al4 := (Below.refl w3.heap.size w3).alloc (Nat.le_refl _) (.cells (ckc X (.slice rP X.P.length dP) (.slice rK X.K.length dK) (.slice rG X.G.length dG) (.slice rD X.D.length dD)) 33)
            have q4 := q3.below al4 (Nat.le_refl _)
            have hge3 : B0 ≤ w3.heap.size := by omega
            obtain ⟨v', w8, hr8, q8, gr, hvn⟩ := qo_append (P := Tryd.prog) (t := 25) (ty := 25) Tryd.underlying25 hi0' hz0 hz1 hz2 rfl q4 I4 (by unfold maxLen; omega) (by omega) (Nat.le_trans hge3 al4.size)
            have bel8 := (bel3.trans (al4.mono hge3)).grown gr (Nat.le_trans hge3 al4.size) (fun k hk => (q4.lt hk).1)
            have apn : ∀ m : Ck × V4, CQ (w3.alloc (.cells (ckc X (.slice rP X.P.length dP) (.slice rK X.K.length dK) (.slice rG X.G.length dG) (.slice rD X.D.length dD)) 33)) B0 m → Ap m (.slice oq M'.length cq) → Ap m v' := fun m hm ha k hk => by
              rcases hvn with e | e | e
              · exact ha k (e ▸ hk)
              · exact CQ.ap_high hm (fun k hk => by rw [e] at hk; injection hk with hk; omega) k hk
              · rw [e] at hk; cases hk
            have hall8 : ∀ m ∈ M' ++ [(X, (.slice rP X.P.length dP), (.slice rK X.K.length dK), (.slice rG X.G.length dG), (.slice rD X.D.length dD))], CQ w8 B0 m ∧ Ap m v' := fun m hm => by
              rcases List.mem_append.1 hm with h | h
              · have h4 := (hall3 m h).1.below al4 (Nat.le_refl _)
                exact ⟨CQ.grown h4 gr (hall3 m h).2, apn m h4 (hall3 m h).2⟩
              · obtain rfl := List.mem_singleton.1 h
                have h4 := Q3'.below al4 (Nat.le_refl _)
                exact ⟨CQ.grown h4 gr ap3, apn _ h4 ap3⟩
            have q9 : Qo w8 B0 15 v' (M' ++ [(X, (.slice rP X.P.length dP), (.slice rK X.K.length dK), (.slice rG X.G.length dG), (.slice rD X.D.length dD))] : List (Ck × V4)).length (cellsK (M' ++ [(X, (.slice rP X.P.length dP), (.slice rK X.K.length dK), (.slice rG X.G.length dG), (.slice rD X.D.length dD))])) := by rw [cellsK_snoc, List.length_append]; exact q8
            have hps9 : ((M' ++ [(X, (.slice rP X.P.length dP), (.slice rK X.K.length dK), (.slice rG X.G.length dG), (.slice rD X.D.length dD))] : List (Ck × V4)).map Prod.fst) ++ passK key ((M.drop (i + 1)).map Prod.fst) true = PS := by
              rw [← hps, HX.out, HKEEP.out, List.map_append, List.append_assoc]; rfl
            have hcw9 : ∀ m ∈ M' ++ [(X, (.slice rP X.P.length dP), (.slice rK X.K.length dK), (.slice rG X.G.length dG), (.slice rD X.D.length dD))], CkW m.1 := fun m hm => by
              rcases List.mem_append.1 hm with h | h
              · exact hcw m h
              · obtain rfl := List.mem_singleton.1 h; exact HWX.out
            have HE := Lib.hid (And.intro hps9 (And.intro hcw9 (And.intro q9 (And.intro hall8 bel8))))
            clear hps9 hcw9 q9 hall8 bel8 apn hvn gr q8 q4 al4 I4 IT q3 hall3 bel3 ap3 Q3' hlow
            unfold ckc at hr8
            go_wp2_with (at_builtin; refine wpList_append_q rfl _ _ _ rfl rfl rfl hr8 ?_)
            go_roundw
            case rel => exact ⟨i + 1, _, _, _, by go_num, by omega, rfl, rfl, HE.out.1, HE.out.2.1, HE.out.2.2.1, HE.out.2.2.2.1, by rw [List.length_append]; show M'.length + 1 ≤ i + 1; omega, HE.out.2.2.2.2⟩
            case measure => simp [intOf]; omega
        · by_cases h128 : X.ty = 128
          · cases rt with
            | false =>
              have e15 : (X.ty == 15) = false := by rw [beq_eq_false_iff_ne]; omega
              have e193 : (X.ty == 193) = false := by rw [beq_eq_false_iff_ne]; omega
              have e128 : (X.ty == 128) = true := by rw [h128]; rfl
              have HE := Lib.hid (And.intro (qo.below b12 (Nat.le_refl _)) (And.intro (fun m hm => And.intro ((hall m hm).1.below b12 (Nat.le_refl _)) (hall m hm).2) b2))
              clear qo hall
              go_wp2_with fail
              go_roundw
              case rel => exact ⟨i + 1, _, _, M', by go_num, by omega, rfl, rfl, by rw [← hps, HX.out, HDR.out]; exact (congrArg _ (passK_skip (by omega) (by omega))).symm, hcw, HE.out.1, HE.out.2.1, by omega, HE.out.2.2⟩
              case measure => simp [intOf]; omega
            | true =>
              have e15 : (X.ty == 15) = false := by rw [beq_eq_false_iff_ne]; omega
              have e193 : (X.ty == 193) = false := by rw [beq_eq_false_iff_ne]; omega
              have e128 : (X.ty == 128) = true := by rw [h128]; rfl
              have HKEEP := Lib.hid (passK_keep (key := key) (r := (M.drop (i + 1)).map Prod.fst) h15 (fun hq => by rcases hq with ⟨h1, h2⟩; first | omega | cases h2) : passK key (X :: (M.drop (i + 1)).map Prod.fst) true = _)
              clear HDR
              go_upto_region 12 with fail
              clear h15 h193 h128 x0 e15 e193 e128
              have c1 := cclone_any HWX.out (HMX.out _ (Below.refl _ _)) hBw
              unfold ckc at c1
              go_wp2_with (refine wpList_load_at rfl 33 _ rfl pb 0 rfl #[.int .i64 X.ty, .int .i64 X.fl, .int .u32 X.tsn, .int .i64 X.st, .int .i64 X.ss, .int .u32 X.pr, .string X.d, .int .u32 X.tg, .int .u32 X.rw, .int .i64 X.ou, .int .i64 X.ii, .slice oP X.P.length cP, .slice oK X.K.length cK, .slice oG X.G.length cG, .slice oD X.D.length cD] _ (Cel.of_blk P2) Tryd.underlying33 rfl (by show _ = some 15; kernel_rfl) ?_)
              refine c1.mono ?_
              rintro e w3 ⟨⟨y1, y2, y3, y4, rfl, Q3⟩, hb3⟩
              clear c1
              have b23 := b12.trans (hb3.mono b12.size)
              have q3 := qo.below b23 (Nat.le_refl _)
              have hall3 : ∀ m ∈ M', CQ w3 B0 m ∧ Ap m (.slice oq M'.length cq) := fun m hm => ⟨(hall m hm).1.below b23 (Nat.le_refl _), (hall m hm).2⟩
              have bel3 := b2.trans (hb3.mono hB02)
              obtain ⟨rP, dP, e1, _, _⟩ := Q3.P.shape
              subst e1
              obtain ⟨rK, dK, e2, _, _⟩ := Q3.K.shape
              subst e2
              obtain ⟨rG, dG, e3, _, _⟩ := Q3.G.shape
              subst e3
              obtain ⟨rD, dD, e4, _, _⟩ := Q3.D.shape
              subst e4
              have hlow : ∀ k, blkOf (.slice oq M'.length cq) = some k → k < w2.heap.size := fun k hk => Nat.lt_of_lt_of_le (qo.lt hk).2 b12.size
              have hs3 := b23.size
              have ap3 : Ap (X, (.slice rP X.P.length dP), (.slice rK X.K.length dK), (.slice rG X.G.length dG), (.slice rD X.D.length dD)) (.slice oq M'.length cq) := CQ.ap_low (m := (X, _, _, _, _)) Q3 hlow
              have Q3' : CQ w3 B0 (X, (.slice rP X.P.length dP), (.slice rK X.K.length dK), (.slice rG X.G.length dG), (.slice rD X.D.length dD)) := ⟨Q3.P.weaken (Nat.le_trans hge b12.size), Q3.K.weaken (Nat.le_trans hge b12.size), Q3.G.weaken (Nat.le_trans hge b12.size), Q3.D.weaken (Nat.le_trans hge b12.size)⟩
              clear Q3 qo hall
              obtain ⟨i0, hi0', hz0, hz1, hz2⟩ := info_parts infoC
              have IT := Blk.new w3 33 (ckc X (.slice rP X.P.length dP) (.slice rK X.K.length dK) (.slice rG X.G.length dG) (.slice rD X.D.length dD))
              have I4 := src_item (P := Tryd.prog) (SL := 25) (sz := 15) Tryd.underlying25 IT (one15 rfl rfl rfl rfl) rfl
              have al4 := (Below.refl w3.heap.size w3).alloc (Nat.le_refl _) (.cells (ckc X (.slice rP X.P.length dP) (.slice rK X.K.length dK) (.slice rG X.G.length dG) (.slice rD X.D.length dD)) 33)
              have q4 := q3.below al4 (Nat.le_refl _)
              have hge3 : B0 ≤ w3.heap.size := by omega
              obtain ⟨v', w8, hr8, q8, gr, hvn⟩ := qo_append (P := Tryd.prog) (t := 25) (ty := 25) Tryd.underlying25 hi0' hz0 hz1 hz2 rfl q4 I4 (by unfold maxLen; omega) (by omega) (Nat.le_trans hge3 al4.size)
              have bel8 := (bel3.trans (al4.mono hge3)).grown gr (Nat.le_trans hge3 al4.size) (fun k hk => (q4.lt hk).1)
              have apn : ∀ m : Ck × V4, CQ (w3.alloc (.cells (ckc X (.slice rP X.P.length dP) (.slice rK X.K.length dK) (.slice rG X.G.length dG) (.slice rD X.D.length dD)) 33)) B0 m → Ap m (.slice oq M'.length cq) → Ap m v' := fun m hm ha k hk => by
                rcases hvn with e | e | e
                · exact ha k (e ▸ hk)
                · exact CQ.ap_high hm (fun k hk => by rw [e] at hk; injection hk with hk; omega) k hk
                · rw [e] at hk; cases hk
              have hall8 : ∀ m ∈ M' ++ [(X, (.slice rP X.P.length dP), (.slice rK X.K.length dK), (.slice rG X.G.length dG), (.slice rD X.D.length dD))], CQ w8 B0 m ∧ Ap m v' := fun m hm => by
                rcases List.mem_append.1 hm with h | h
                · have h4 := (hall3 m h).1.below al4 (Nat.le_refl _)
                  exact ⟨CQ.grown h4 gr (hall3 m h).2, apn m h4 (hall3 m h).2⟩
                · obtain rfl := List.mem_singleton.1 h
                  have h4 := Q3'.below al4 (Nat.le_refl _)
                  exact ⟨CQ.grown h4 gr ap3, apn _ h4 ap3⟩
              have q9 : Qo w8 B0 15 v' (M' ++ [(X, (.slice rP X.P.length dP), (.slice rK X.K.length dK), (.slice rG X.G.length dG), (.slice rD X.D.length dD))] : List (Ck × V4)).length (cellsK (M' ++ [(X, (.slice rP X.P.length dP), (.slice rK X.K.length dK), (.slice rG X.G.length dG), (.slice rD X.D.length dD))])) := by rw [cellsK_snoc, List.length_append]; exact q8
              have hps9 : ((M' ++ [(X, (.slice rP X.P.length dP), (.slice rK X.K.length dK), (.slice rG X.G.length dG), (.slice rD X.D.length dD))] : List (Ck × V4)).map Prod.fst) ++ passK key ((M.drop (i + 1)).map Prod.fst) true = PS := by
                rw [← hps, HX.out, HKEEP.out, List.map_append, List.append_assoc]; rfl
              have hcw9 : ∀ m ∈ M' ++ [(X, (.slice rP X.P.length dP), (.slice rK X.K.length dK), (.slice rG X.G.length dG), (.slice rD X.D.length dD))], CkW m.1 := fun m hm => by
                rcases List.mem_append.1 hm with h | h
                · exact hcw m h
                · obtain rfl := List.mem_singleton.1 h; exact HWX.out
              have HE := Lib.hid (And.intro hps9 (And.intro hcw9 (And.intro q9 (And.intro hall8 bel8))))
              clear hps9 hcw9 q9 hall8 bel8 apn hvn gr q8 q4 al4 I4 IT q3 hall3 bel3 ap3 Q3' hlow
              unfold ckc at hr8
              go_wp2_with (at_builtin; refine wpList_append_q rfl _ _ _ rfl rfl rfl hr8 ?_)
              go_roundw
              case rel => exact ⟨i + 1, _, _, _, by go_num, by omega, rfl, rfl, HE.out.1, HE.out.2.1, HE.out.2.2.1, HE.out.2.2.2.1, by rw [List.length_append]; show M'.length + 1 ≤ i + 1; omega, HE.out.2.2.2.2⟩
              case measure => simp [intOf]; omega
          · have e15 : (X.ty == 15) = false := by rw [beq_eq_false_iff_ne]; omega
            have e193 : (X.ty == 193) = false := by rw [beq_eq_false_iff_ne]; omega
            have e128 : (X.ty == 128) = false := by rw [beq_eq_false_iff_ne]; omega
            have HKEEP := Lib.hid (passK_keep (key := key) (r := (M.drop (i + 1)).map Prod.fst) h15 (fun hq => by rcases hq with ⟨h1, h2⟩; first | omega | cases h2) : passK key (X :: (M.drop (i + 1)).map Prod.fst) rt = _)
            clear HDR
            go_upto_region 12 with fail
            clear h15 h193 h128 x0 e15 e193 e128
            have c1 := cclone_any HWX.out (HMX.out _ (Below.refl _ _)) hBw
            unfold ckc at c1
            go_wp2_with (refine wpList_load_at rfl 33 _ rfl pb 0 rfl #[.int .i64 X.ty, .int .i64 X.fl, .int .u32 X.tsn, .int .i64 X.st, .int .i64 X.ss, .int .u32 X.pr, .string X.d, .int .u32 X.tg, .int .u32 X.rw, .int .i64 X.ou, .int .i64 X.ii, .slice oP X.P.length cP, .slice oK X.K.length cK, .slice oG X.G.length cG, .slice oD X.D.length cD] _ (Cel.of_blk P2) Tryd.underlying33 rfl (by show _ = some 15; kernel_rfl) ?_)
            refine c1.mono ?_
            rintro e w3 ⟨⟨y1, y2, y3, y4, rfl, Q3⟩, hb3⟩
            clear c1
            have b23 := b12.trans (hb3.mono b12.size)
            have q3 := qo.below b23 (Nat.le_refl _)
            have hall3 : ∀ m ∈ M', CQ w3 B0 m ∧ Ap m (.slice oq M'.length cq) := fun m hm => ⟨(hall m hm).1.below b23 (Nat.le_refl _), (hall m hm).2⟩
            have bel3 := b2.trans (hb3.mono hB02)
            obtain ⟨rP, dP, e1, _, _⟩ := Q3.P.shape
            subst e1
            obtain ⟨rK, dK, e2, _, _⟩ := Q3.K.shape
            subst e2
            obtain ⟨rG, dG, e3, _, _⟩ := Q3.G.shape
            subst e3
            obtain ⟨rD, dD, e4, _, _⟩ := Q3.D.shape
            subst e4
            have hlow : ∀ k, blkOf (.slice oq M'.length cq) = some k → k < w2.heap.size := fun k hk => Nat.lt_of_lt_of_le (qo.lt hk).2 b12.size
            have hs3 := b23.size
            have ap3 : Ap (X, (.slice rP X.P.length dP), (.slice rK X.K.length dK), (.slice rG X.G.length dG), (.slice rD X.D.length dD)) (.slice oq M'.length cq) := CQ.ap_low (m := (X, _, _, _, _)) Q3 hlow
            have Q3' : CQ w3 B0 (X, (.slice rP X.P.length dP), (.slice rK X.K.length dK), (.slice rG X.G.length dG), (.slice rD X.D.length dD)) := ⟨Q3.P.weaken (Nat.le_trans hge b12.size), Q3.K.weaken (Nat.le_trans hge b12.size), Q3.G.weaken (Nat.le_trans hge b12.size), Q3.D.weaken (Nat.le_trans hge b12.size)⟩
            clear Q3 qo hall
            obtain ⟨i0, hi0', hz0, hz1, hz2⟩ := info_parts infoC
            have IT := Blk.new w3 33 (ckc X (.slice rP X.P.length dP) (.slice rK X.K.length dK) (.slice rG X.G.length dG) (.slice rD X.D.length dD))
            have I4 := src_item (P := Tryd.prog) (SL := 25) (sz := 15) Tryd.underlying25 IT (one15 rfl rfl rfl rfl) rfl
            have al4 := (Below.refl w3.heap.size w3).alloc (Nat.le_refl _) (.cells (ckc X (.slice rP X.P.length dP) (.slice rK X.K.length dK) (.slice rG X.G.length dG) (.slice rD X.D.length dD)) 33)
            have q4 := q3.below al4 (Nat.le_refl _)
            have hge3 : B0 ≤ w3.heap.size := by omega
            obtain ⟨v', w8, hr8, q8, gr, hvn⟩ := qo_append (P := Tryd.prog) (t := 25) (ty := 25) Tryd.underlying25 hi0' hz0 hz1 hz2 rfl q4 I4 (by unfold maxLen; omega) (by omega) (Nat.le_trans hge3 al4.size)
            have bel8 := (bel3.trans (al4.mono hge3)).grown gr (Nat.le_trans hge3 al4.size) (fun k hk => (q4.lt hk).1)
            have apn : ∀ m : Ck × V4, CQ (w3.alloc (.cells (ckc X (.slice rP X.P.length dP) (.slice rK X.K.length dK) (.slice rG X.G.length dG) (.slice rD X.D.length dD)) 33)) B0 m → Ap m (.slice oq M'.length cq) → Ap m v' := fun m hm ha k hk => by
              rcases hvn with e | e | e
              · exact ha k (e ▸ hk)
              · exact CQ.ap_high hm (fun k hk => by rw [e] at hk; injection hk with hk; omega) k hk
              · rw [e] at hk; cases hk
            have hall8 : ∀ m ∈ M' ++ [(X, (.slice rP X.P.length dP), (.slice rK X.K.length dK), (.slice rG X.G.length dG), (.slice rD X.D.length dD))], CQ w8 B0 m ∧ Ap m v' := fun m hm => by
              rcases List.mem_append.1 hm with h | h
              · have h4 := (hall3 m h).1.below al4 (Nat.le_refl _)
                exact ⟨CQ.grown h4 gr (hall3 m h).2, apn m h4 (hall3 m h).2⟩
              · obtain rfl := List.mem_singleton.1 h
                have h4 := Q3'.below al4 (Nat.le_refl _)
                exact ⟨CQ.grown h4 gr ap3, apn _ h4 ap3⟩
            have q9 : Qo w8 B0 15 v' (M' ++ [(X, (.slice rP X.P.length dP), (.slice rK X.K.length dK), (.slice rG X.G.length dG), (.slice rD X.D.length dD))] : List (Ck × V4)).length (cellsK (M' ++ [(X, (.slice rP X.P.length dP), (.slice rK X.K.length dK), (.slice rG X.G.length dG), (.slice rD X.D.length dD))])) := by rw [cellsK_snoc, List.length_append]; exact q8
            have hps9 : ((M' ++ [(X, (.slice rP X.P.length dP), (.slice rK X.K.length dK), (.slice rG X.G.length dG), (.slice rD X.D.length dD))] : List (Ck × V4)).map Prod.fst) ++ passK key ((M.drop (i + 1)).map Prod.fst) rt = PS := by
              rw [← hps, HX.out, HKEEP.out, List.map_append, List.append_assoc]; rfl
            have hcw9 : ∀ m ∈ M' ++ [(X, (.slice rP X.P.length dP), (.slice rK X.K.length dK), (.slice rG X.G.length dG), (.slice rD X.D.length dD))], CkW m.1 := fun m hm => by
              rcases List.mem_append.1 hm with h | h
              · exact hcw m h
              · obtain rfl := List.mem_singleton.1 h; exact HWX.out
            have HE := Lib.hid (And.intro hps9 (And.intro hcw9 (And.intro q9 (And.intro hall8 bel8))))
            clear hps9 hcw9 q9 hall8 bel8 apn hvn gr q8 q4 al4 I4 IT q3 hall3 bel3 ap3 Q3' hlow
            unfold ckc at hr8
            go_wp2_with (at_builtin; refine wpList_append_q rfl _ _ _ rfl rfl rfl hr8 ?_)
            go_roundw
            case rel => exact ⟨i + 1, _, _, _, by go_num, by omega, rfl, rfl, HE.out.1, HE.out.2.1, HE.out.2.2.1, HE.out.2.2.2.1, by rw [List.length_append]; show M'.length + 1 ≤ i + 1; omega, HE.out.2.2.2.2⟩
            case measure => simp [intOf]; omega
    · obtain rfl : i = M.length := by omega
      rw [List.drop_length] at hps
      have hps2 : M'.map Prod.fst = PS := by rw [← hps]; simp [passK]
      have hcr : CR wr wr.heap.size (.slice oq M'.length cq) M' := ⟨Qo.row qo, fun m hm => ⟨hcw m hm, (hall m hm).1.ckm⟩⟩
      have HE := Lib.hid (And.intro hps2 (And.intro hcr bel))
      clear hps hps2 hcr bel qo hall hcw
      go_wp2_with fail
      go_ret
      exact ⟨⟨_, M', rfl, HE.out.1, HE.out.2.1⟩, HE.out.2.2⟩
end Go.Proofs.YtlaemmplemngmaaDoor.ck
/- Layer 27: the key of two. -/
namespace Go.Proofs.YtlaemmplemngmaaDoor.ck
open Go.ChangeShapes Go.WideShapes Go.ChangeAt Go.RowKit kit oct par chk bld
open dig (Starts Added)
set_option maxRecDepth 100000

def ls (x y : ByteArray) : Bool := Op.bytesLess x.toList y.toList
theorem less_asym : ∀ (x y : List UInt8), Op.bytesLess x y = true → Op.bytesLess y x = false
  | [], [], h => by simp [Op.bytesLess] at h
  | _ :: _, [], h => by simp [Op.bytesLess] at h
  | [], _ :: _, _ => by simp [Op.bytesLess]
  | a :: x, b :: y, h => by
    simp only [Op.bytesLess, Bool.or_eq_true, decide_eq_true_eq, Bool.and_eq_true, beq_iff_eq] at h
    simp only [Op.bytesLess, Bool.or_eq_false_iff, decide_eq_false_iff_not, Bool.and_eq_false_iff, beq_eq_false_iff_ne]
    rcases h with h | ⟨rfl, h⟩
    · have h' : a.toNat < b.toNat := h
      exact ⟨fun q => by have q' : b.toNat < a.toNat := q; omega, .inl fun q => by rw [q] at h'; omega⟩
    · exact ⟨fun q => by have q' : a.toNat < a.toNat := q; omega, .inr (less_asym x y h)⟩
theorem less_total : ∀ (x y : List UInt8), Op.bytesLess x y = false → Op.bytesLess y x = false → x = y
  | [], [], _, _ => rfl
  | _ :: _, [], _, h => by simp [Op.bytesLess] at h
  | [], _ :: _, h, _ => by simp [Op.bytesLess] at h
  | a :: x, b :: y, h1, h2 => by
    simp only [Op.bytesLess, Bool.or_eq_false_iff, decide_eq_false_iff_not, Bool.and_eq_false_iff, beq_eq_false_iff_ne] at h1 h2
    have e : a = b := by
      apply UInt8.toNat_inj.1
      have q1 : ¬ a.toNat < b.toNat := h1.1
      have q2 : ¬ b.toNat < a.toNat := h2.1
      omega
    subst e
    rw [less_total x y (h1.2.resolve_left (fun q => q rfl)) (h2.2.resolve_left (fun q => q rfl))]
/-- The key of two. -/
def keyF (x y : ByteArray) : ByteArray := if ls y x = true then y ++ x else x ++ y
theorem key_same (x y : ByteArray) : keyF y x = keyF x y := by
  unfold keyF
  cases h1 : ls x y <;> cases h2 : ls y x
  · have := less_total _ _ h1 h2
    rw [toList_same] at this
    subst this
    rfl
  · rfl
  · rfl
  · have := less_asym _ _ h1
    have h2' : Op.bytesLess y.toList x.toList = true := h2
    rw [this] at h2'; cases h2'
theorem le_ls (x y : ByteArray) : (Op.bytesLess x.toList y.toList || x.toList == y.toList) = !(ls y x) := by
  unfold ls
  cases e1 : Op.bytesLess x.toList y.toList <;> cases e2 : Op.bytesLess y.toList x.toList
  · rw [less_total _ _ e1 e2]; simp
  · have : ¬ x.toList = y.toList := fun e => by rw [e] at e1 e2; rw [e1] at e2; cases e2
    simp [this]
  · rfl
  · have := less_asym _ _ e1
    rw [e2] at this; cases this
theorem min_s (x y : ByteArray) (w : World) : (Builtin.min_ #[9, 9] 9 #[.string x, .string y]).run Tryd.prog w = .ok (.string (if ls y x = true then y else x)) w := by
  have h := le_ls x y
  cases e : ls y x <;> rw [e] at h <;> simp [Builtin.min_, List.foldlM, Builtin.min2, Op.stringOp, asBool, h, go_sem]
theorem max_s (x y : ByteArray) (w : World) : (Builtin.max_ #[9, 9] 9 #[.string x, .string y]).run Tryd.prog w = .ok (.string (if ls x y = true then y else x)) w := by
  have h : Op.bytesLess x.toList y.toList = ls x y := rfl
  cases e : ls x y <;> rw [e] at h <;> simp [Builtin.max_, List.foldlM, Builtin.max2, Op.stringOp, asBool, h, go_sem]
theorem key_any (x y : ByteArray) (w : World) (hx : x.size ≤ 20) (hy : y.size ≤ 20) : Calls Tryd.prog 5 #[.string x, .string y] w fun e w' => e = .returned (.string (keyF x y)) ∧ Below w.heap.size w w' := by
  have h1 := fun w => min_s x y w
  have h2 := fun w => max_s x y w
  have hk : (if ls y x = true then y else x) ++ (if ls x y = true then y else x) = keyF x y := by
    unfold keyF
    cases e1 : ls x y <;> cases e2 : ls y x
    · have := less_total _ _ e1 e2
      rw [toList_same] at this
      subst this
      rfl
    · rfl
    · rfl
    · have := less_asym _ _ e1
      have h2' : Op.bytesLess y.toList x.toList = true := e2
      rw [this] at h2'; cases h2'
  obtain ⟨A, hA⟩ : ∃ A, (if ls y x = true then y else x) = A := ⟨_, rfl⟩
  obtain ⟨Bb, hB⟩ : ∃ A, (if ls x y = true then y else x) = A := ⟨_, rfl⟩
  have zA : A.size ≤ 20 := by rw [← hA]; split <;> assumption
  have zB : Bb.size ≤ 20 := by rw [← hB]; split <;> assumption
  rw [hA, hB] at hk
  rw [hA] at h1
  rw [hB] at h2
  have HK := Lib.hid hk
  clear hA hB hk
  go_enter Tryd.func5, Tryd.ntmps5
  go_wp2_with fail
  go_ret
  exact ⟨ret_str HK.out, Below.refl _ _⟩
end Go.Proofs.YtlaemmplemngmaaDoor.ck
/- Layer 27: what is sealed passes. -/
namespace Go.Proofs.YtlaemmplemngmaaDoor.ck
open Go.ChangeShapes Go.WideShapes Go.ChangeAt Go.RowKit kit oct par chk bld
open dig (Starts Added)
open mac (macS mac_any is_any macS_size)
set_option maxRecDepth 100000

def confX : Ck := ⟨193, 0, 5, 0, 0, 0, ⟨#[]⟩, 0, 0, 0, 0, [], [], [], []⟩
theorem confX_w : CkW confX := ⟨by decide, by decide, by decide, by decide, by decide, by decide, by decide, by decide, by decide, by decide, fun x hx => by simp [confX] at hx, fun x hx => by simp [confX] at hx⟩
theorem sealX_ok (d : ByteArray) (h : d.size ≤ 900) : CkOk (sealX d) := by
  refine ⟨by simp [sealX], ⟨by simp [sealX], by show (0 : Int) ≤ flagsV 15; decide⟩, by simp [sealX], by simp [sealX], by simp [sealX], by simp [sealX], h, by simp [sealX], by simp [sealX], by simp [sealX], by simp [sealX], fun p hp => by simp [sealX] at hp, fun p hp => by simp [sealX] at hp, rfl, .inr (by show kindV 15 ≠ 1; decide), ?_⟩
  have e : kindV (sealX d).ty = 15 := by show kindV 15 = 15; decide
  rw [e]
  exact ⟨⟨fun _ _ _ _ _ => rfl, fun _ h => absurd rfl h, fun _ => rfl, fun _ _ _ h => absurd rfl h⟩, ⟨fun _ => ⟨rfl, rfl, rfl⟩, fun _ _ => rfl⟩, fun _ _ => rfl, fun _ => rfl, fun _ => ⟨rfl, rfl⟩⟩
theorem pass_two (key : ByteArray) : passK key [sealX (macS key (sealS [confX])), confX] false = [confX] := by
  have h : sealB key (sealX (macS key (sealS [confX]))) [confX] = true := by
    unfold sealB
    have := (may_iff _).2 (sealX_ok (macS key (sealS [confX])) (by rw [macS_size]; omega))
    rw [this]
    simp [sealX]
  rw [passK_seal rfl, h, passK_keep (by decide) (by simp)]
  rfl
theorem pass_one (key : ByteArray) : passK key [confX] false = [] := by
  rw [passK_skip (by decide) (.inl rfl)]
  rfl
set_option maxHeartbeats 8000000 in
theorem awake27 (w : World) (S0 : Starts w) (A0 : Added w) : Calls Tryd.prog 4 #[] w fun e w' => e = .returned (.bool true) ∧ Below w.heap.size w w' := by
  have X1 := Blk.new w 33 #[.int .i64 193, .int .i64 0, .int .u32 5, .int .i64 0, .int .i64 0, .int .u32 0, .string ⟨#[]⟩, .int .u32 0, .int .u32 0, .int .i64 0, .int .i64 0, .slice none 0 0, .slice none 0 0, .slice none 0 0, .slice none 0 0]
  have al1 := (Below.refl w.heap.size w).alloc (Nat.le_refl _) (.cells #[.int .i64 193, .int .i64 0, .int .u32 5, .int .i64 0, .int .i64 0, .int .u32 0, .string ⟨#[]⟩, .int .u32 0, .int .u32 0, .int .i64 0, .int .i64 0, .slice none 0 0, .slice none 0 0, .slice none 0 0, .slice none 0 0] 33)
  go_enter Tryd.func4, Tryd.ntmps4
  obtain ⟨w1, hw1⟩ : ∃ w1, w.alloc (.cells #[.int .i64 193, .int .i64 0, .int .u32 5, .int .i64 0, .int .i64 0, .int .u32 0, .string ⟨#[]⟩, .int .u32 0, .int .u32 0, .int .i64 0, .int .i64 0, .slice none 0 0, .slice none 0 0, .slice none 0 0, .slice none 0 0] 33) = w1 := ⟨_, rfl⟩
  have cr1 : CR w1 w1.heap.size (.slice (some ⟨w.heap.size, 0, none⟩) 1 1) [(confX, .slice none 0 0, .slice none 0 0, .slice none 0 0, .slice none 0 0)] := by
    rw [hw1] at X1
    refine ⟨Qo.row (qo_one (b := 0) X1 (Nat.zero_le _)), fun m hm => ?_⟩
    obtain rfl := List.mem_singleton.1 hm
    exact ⟨confX_w, ⟨Qo.row (Qo.nil w1 0 2), Qo.row (Qo.nil w1 0 2), Qo.row (Qo.nil w1 0 2), Qo.row (Qo.nil w1 0 1)⟩⟩
  have hsA : Starts w1 ∧ Added w1 := by rw [← hw1]; exact ⟨starts_below S0 al1 (Nat.le_refl _), added_below A0 al1 (Nat.le_refl _)⟩
  have c1 := sign_any ⟨#[107]⟩ cr1 (Nat.le_refl _) (by simp) hsA.1 hsA.2 (by decide)
  have bel1 := al1
  rw [hw1] at bel1
  go_wp2_with fail
  try rw [hw1]
  refine c1.mono ?_
  rintro e w2 ⟨⟨v2, M2, rfl, hf2, cr2⟩, hb2⟩
  have bel2 := bel1.trans (hb2.mono bel1.size)
  have hS2 : Starts w2 ∧ Added w2 := ⟨starts_below hsA.1 hb2 (Nat.le_refl _), added_below hsA.2 hb2 (Nat.le_refl _)⟩
  clear c1 cr1 hsA X1 al1
  have hlen : M2.length = 2 := by have := congrArg List.length hf2; simpa using this
  obtain ⟨m0, hm0⟩ : ∃ m, M2[0]? = some m := ⟨_, List.getElem?_eq_getElem (by omega)⟩
  obtain ⟨a2, cap2, e2, -, -⟩ := cr2.at hm0
  subst e2
  have c3 := pass_any ⟨#[107]⟩ cr2 (Nat.le_refl _) (by omega) hS2.1 hS2.2 (by decide)
  rw [show passK ⟨#[107]⟩ (M2.map Prod.fst) false = [confX] by rw [hf2]; exact pass_two _] at c3
  obtain ⟨o4, c4, hsl, cr4⟩ := cr2.drop 1 (by omega)
  have hd4 : (M2.drop 1).map Prod.fst = [confX] := by rw [List.map_drop, hf2]; rfl
  rw [hlen] at c3 hsl cr4
  rw [hlen]
  have hcap : 2 ≤ cap2 := by
    obtain ⟨_, _, e, h1, _⟩ := cr2.row.shape
    injection e with _ _ e
    rw [hlen] at h1
    omega
  have hne : ¬ cap2 = 1 := by omega
  have hev : (Instr.slice 25 (.slice (some a2) 2 cap2) (some (.int .i64 1)) none none).run Tryd.prog w2 = .ok (.slice (some { block := a2.block, off := a2.off + 15 }) 1 (cap2 - 1)) w2 := by go_simp
  have he4 := (hsl w2).symm.trans hev
  injection he4 with he4 _
  injection he4 with h1 h2 h3
  subst h1
  subst h3
  have HF := Lib.hid (And.intro hlen hd4)
  clear hsl hev
  clear hf2 hm0 hlen hd4 cr2 m0
  go_wp2_with fail
  refine c3.mono ?_
  rintro e w5 ⟨⟨v5, M5, rfl, hf5, cr5⟩, hb5⟩
  have bel5 := bel2.trans (hb5.mono bel2.size)
  have h51 : M5.length = 1 := by have := congrArg List.length hf5; simpa using this
  obtain ⟨o5, p5, e5, _, _⟩ := cr5.row.shape
  rw [h51] at e5
  subst e5
  have c6 := pass_any ⟨#[107]⟩ (cr4.below hb5) hb5.size (by rw [List.length_drop]; have := HF.out.1; omega) (starts_below hS2.1 hb5 (Nat.le_refl _)) (added_below hS2.2 hb5 (Nat.le_refl _)) (by decide)
  rw [show passK ⟨#[107]⟩ ((M2.drop 1).map Prod.fst) false = [] by rw [HF.out.2]; exact pass_one _] at c6
  clear c3 cr4 hS2 hf5 h51 cr5 hb5 bel2
  dsimp only [Nat.add_one_sub_one, Nat.reduceSub] at c6
  go_wp2_with fail
  refine c6.mono ?_
  rintro e w7 ⟨⟨v7, M7, rfl, hf7, cr7⟩, hb7⟩
  have bel7 := bel5.trans (hb7.mono bel5.size)
  have h70 : M7.length = 0 := by have := congrArg List.length hf7; simpa using this
  obtain ⟨o7, p7, e7, _, _⟩ := cr7.row.shape
  rw [h70] at e7
  subst e7
  clear c6 hf7 h70 cr7 hb7 bel5
  go_wp2_with fail
  go_ret
  exact ⟨rfl, bel7⟩
end Go.Proofs.YtlaemmplemngmaaDoor.ck
/- Layer 27: AuthKey, walked (gen-akh.py wrote this). -/
namespace Go.Proofs.YtlaemmplemngmaaDoor.ck
open Go.ChangeShapes Go.WideShapes Go.ChangeAt Go.RowKit kit oct par chk bld
open dig (Starts Added)
set_option maxRecDepth 100000

theorem run_min {P : Program} {oi : Oper} {a : Act} {x y : Operand} {t1 t2 : TypeId} {s j u : Value} {v : World} (ho : oi.op = .call { callee := .builtin .min, args := #[x, y], argTypes := #[t1, t2] }) (hx : a.eval x = s) (hy : a.eval y = j) (hr : ∀ cs, (builtin .min #[t1, t2] oi.type cs #[s, j]).run P v = .ok (.value u) v) : (execOp a.eval oi).run P v = .ok (.value u) v := by
  unfold execOp
  simp [ho, resolve, invoke, hx, hy, hr]
theorem run_slice_s {P : Program} {oi : Oper} {a : Act} {x h : Operand} {ty : TypeId} {j u : Value} {s : ByteArray} {v : World} (hu : P.underlying ty = some .string) (ho : oi.op = .slice ty x none (some h) none) (hx : a.eval x = .string s) (hh : a.eval h = j) (hr : (Instr.slice ty (.string s) none (some j) none).run P v = .ok u v) : (execOp a.eval oi).run P v = .ok (.value u) v := by
  unfold execOp
  simp [ho, hx, hh, Instr.sliceAt, run_underlying hu, hr]
theorem min_run (n m k : Nat) (M : Int) (hM : M = (m : Int)) (hk : min n m = k) (W : World) (cs) : (builtin .min #[3, 3] 3 cs #[.int .i64 (n : Nat), .int .i64 M]).run Tryd.prog W = .ok (.value (.int .i64 (k : Nat))) W := by
  subst hk
  subst hM
  by_cases h : (n : Int) ≤ (m : Int)
  · rw [show min n m = n by omega]; go_simp <;> first | omega | (intro; omega) | (simp; omega)
  · rw [show min n m = m by omega]; go_simp <;> first | omega | (intro; omega) | (simp; omega)
theorem slice_s (s : ByteArray) (k : Nat) (hk : k ≤ s.size) (hs : s.size ≤ maxLen) (W : World) : (Instr.slice 9 (.string s) none (some (.int .i64 (k : Nat))) none).run Tryd.prog W = .ok (.string (s.extract 0 k)) W := by
  unfold maxLen at hs
  have h0 : (0 : Int) ≤ (k : Int) := by omega
  have h1 : (k : Int) ≤ (s.size : Int) := by omega
  go_simp
set_option maxHeartbeats 8000000 in
theorem authkey (a b : ByteArray) (w : World) (ha : a.size ≤ maxLen) (hb : b.size ≤ maxLen) (S0 : Starts w) (A0 : Added w) : Calls Tryd.prog 3 #[.string a, .string b] w fun e w' => e = .returned (.bool true) ∧ Below w.heap.size w w' := by
  obtain ⟨w0, hw0⟩ : ∃ w0, w = w0 := ⟨_, rfl⟩
  obtain ⟨B0, hB0⟩ : ∃ B0, w.heap.size = B0 := ⟨_, rfl⟩
  have belw0 : Below B0 w w0 := by rw [← hw0]; exact Below.refl _ _
  have HSA := Lib.hid (show ∀ w', Below B0 w w' → Starts w' ∧ Added w' from fun w' h => ⟨starts_below S0 h (by omega), added_below A0 h (by omega)⟩)
  have HB := Lib.hid hB0
  obtain ⟨ka, hka⟩ : ∃ k, min a.size 20 = k := ⟨_, rfl⟩
  obtain ⟨kb, hkb⟩ : ∃ k, min b.size 20 = k := ⟨_, rfl⟩
  have hka2 : ka ≤ a.size := by omega
  have hkb2 : kb ≤ b.size := by omega
  have hza : (a.extract 0 ka).size ≤ 20 := by simp; omega
  have hzb : (b.extract 0 kb).size ≤ 20 := by simp; omega
  clear S0 A0
  have hgo : Calls Tryd.prog 3 #[.string a, .string b] w0 fun e w' => e = .returned (.bool true) ∧ Below B0 w w' := by
    clear hw0 hB0
    have HBX := Lib.hid HB.out
    clear HB
    go_enter Tryd.func3, Tryd.ntmps3
    go_upto_region 1 with fail
    refine wp_region_noPanic ?_
    replace belw0 := belw0.drew
    refine wp_region_held_drew (S := fun v => True) (by kernel_rfl) trivial (fun _ => ?_)
    obtain ⟨dw, hdw⟩ : ∃ dw, w0.drew = dw := ⟨_, rfl⟩
    rw [hdw] at belw0 ⊢
    clear hdw
    have beldw := belw0
    clear belw0
    refine wpAnyH_abs _ (fun ac hac => ?_)
    have hsz : ac.tmps.size = 42 := by rw [hac]; rfl
    have f0 : ac.eval (.tmp 0) = .string a := by rw [hac]; rfl
    have f1 : ac.eval (.tmp 1) = .string b := by rw [hac]; rfl
    have HB := Lib.hid hac
    clear hac
    refine take_run (i := 0) (u := .string a) rfl (by kernel_rfl) (by kernel_rfl) (by kernel_rfl) rfl rfl (fun _ _ _ h => h) trivial (fun v hv => run_move rfl f0 _) ?_
    refine wpAnyH_abs _ (fun a1 h1 => ?_)
    have z1 := sp h1 hsz
    replace f0 := kp h1 (by decide) f0
    replace f1 := kp h1 (by decide) f1
    have f8 := nw h1 hsz (by decide)
    replace h1 := Lib.hid h1
    refine take_run (i := 1) (u := .string a) rfl (by kernel_rfl) (by kernel_rfl) (by kernel_rfl) rfl rfl (fun _ _ _ h => h) trivial (fun v hv => run_move rfl f0 _) ?_
    refine wpAnyH_abs _ (fun a2 h2 => ?_)
    have z2 := sp h2 z1
    replace f0 := kp h2 (by decide) f0
    replace f1 := kp h2 (by decide) f1
    replace f8 := kp h2 (by decide) f8
    have f9 := nw h2 z1 (by decide)
    clear z1
    replace h2 := Lib.hid h2
    refine take_run (i := 2) (u := .int .i64 (a.size : Nat)) rfl (by kernel_rfl) (by kernel_rfl) (by kernel_rfl) rfl rfl (fun _ _ _ h => h) trivial (fun v hv => run_lens (s := .string a) rfl f9 (fun cs => len_st _ _ cs)) ?_
    refine wpAnyH_abs _ (fun a3 h3 => ?_)
    have z3 := sp h3 z2
    replace f0 := kp h3 (by decide) f0
    replace f1 := kp h3 (by decide) f1
    replace f8 := kp h3 (by decide) f8
    have f10 := nw h3 z2 (by decide)
    clear f9 z2
    replace h3 := Lib.hid h3
    refine take_run (i := 3) (u := .int .i64 (ka : Nat)) rfl (by kernel_rfl) (by kernel_rfl) (by kernel_rfl) rfl rfl (fun _ _ _ h => h) trivial (fun v hv => run_min rfl f10 (by rfl) (fun cs => min_run (a.size) 20 ka 20 rfl hka v cs)) ?_
    refine wpAnyH_abs _ (fun a4 h4 => ?_)
    have z4 := sp h4 z3
    replace f0 := kp h4 (by decide) f0
    replace f1 := kp h4 (by decide) f1
    replace f8 := kp h4 (by decide) f8
    have f11 := nw h4 z3 (by decide)
    clear f10 z3
    replace h4 := Lib.hid h4
    refine take_run (i := 4) (u := .string (a.extract 0 ka)) rfl (by kernel_rfl) (by kernel_rfl) (by kernel_rfl) rfl rfl (fun _ _ _ h => h) trivial (fun v hv => run_slice_s Tryd.underlying9 rfl f8 f11 (slice_s a ka hka2 ha v)) ?_
    refine wpAnyH_abs _ (fun a5 h5 => ?_)
    have z5 := sp h5 z4
    replace f0 := kp h5 (by decide) f0
    replace f1 := kp h5 (by decide) f1
    have f12 := nw h5 z4 (by decide)
    clear f8 f11 z4
    replace h5 := Lib.hid h5
    refine take_run (i := 5) (u := .string b) rfl (by kernel_rfl) (by kernel_rfl) (by kernel_rfl) rfl rfl (fun _ _ _ h => h) trivial (fun v hv => run_move rfl f1 _) ?_
    refine wpAnyH_abs _ (fun a6 h6 => ?_)
    have z6 := sp h6 z5
    replace f0 := kp h6 (by decide) f0
    replace f1 := kp h6 (by decide) f1
    replace f12 := kp h6 (by decide) f12
    have f13 := nw h6 z5 (by decide)
    clear z5
    replace h6 := Lib.hid h6
    refine take_run (i := 6) (u := .string b) rfl (by kernel_rfl) (by kernel_rfl) (by kernel_rfl) rfl rfl (fun _ _ _ h => h) trivial (fun v hv => run_move rfl f1 _) ?_
    refine wpAnyH_abs _ (fun a7 h7 => ?_)
    have z7 := sp h7 z6
    replace f0 := kp h7 (by decide) f0
    replace f1 := kp h7 (by decide) f1
    replace f12 := kp h7 (by decide) f12
    replace f13 := kp h7 (by decide) f13
    have f14 := nw h7 z6 (by decide)
    clear z6
    replace h7 := Lib.hid h7
    refine take_run (i := 7) (u := .int .i64 (b.size : Nat)) rfl (by kernel_rfl) (by kernel_rfl) (by kernel_rfl) rfl rfl (fun _ _ _ h => h) trivial (fun v hv => run_lens (s := .string b) rfl f14 (fun cs => len_st _ _ cs)) ?_
    refine wpAnyH_abs _ (fun a8 h8 => ?_)
    have z8 := sp h8 z7
    replace f0 := kp h8 (by decide) f0
    replace f1 := kp h8 (by decide) f1
    replace f12 := kp h8 (by decide) f12
    replace f13 := kp h8 (by decide) f13
    have f15 := nw h8 z7 (by decide)
    clear f14 z7
    replace h8 := Lib.hid h8
    refine take_run (i := 8) (u := .int .i64 (kb : Nat)) rfl (by kernel_rfl) (by kernel_rfl) (by kernel_rfl) rfl rfl (fun _ _ _ h => h) trivial (fun v hv => run_min rfl f15 (by rfl) (fun cs => min_run (b.size) 20 kb 20 rfl hkb v cs)) ?_
    refine wpAnyH_abs _ (fun a9 h9 => ?_)
    have z9 := sp h9 z8
    replace f0 := kp h9 (by decide) f0
    replace f1 := kp h9 (by decide) f1
    replace f12 := kp h9 (by decide) f12
    replace f13 := kp h9 (by decide) f13
    have f16 := nw h9 z8 (by decide)
    clear f15 z8
    replace h9 := Lib.hid h9
    refine take_run (i := 9) (u := .string (b.extract 0 kb)) rfl (by kernel_rfl) (by kernel_rfl) (by kernel_rfl) rfl rfl (fun _ _ _ h => h) trivial (fun v hv => run_slice_s Tryd.underlying9 rfl f13 f16 (slice_s b kb hkb2 hb v)) ?_
    refine wpAnyH_abs _ (fun a10 h10 => ?_)
    have z10 := sp h10 z9
    replace f0 := kp h10 (by decide) f0
    replace f1 := kp h10 (by decide) f1
    replace f12 := kp h10 (by decide) f12
    have f17 := nw h10 z9 (by decide)
    clear f13 f16 z9
    replace h10 := Lib.hid h10
    refine take_run (i := 10) (u := .string (a.extract 0 ka)) rfl (by kernel_rfl) (by kernel_rfl) (by kernel_rfl) rfl rfl (fun _ _ _ h => h) trivial (fun v hv => run_assign rfl f12 _) ?_
    refine wpAnyH_abs _ (fun a11 h11 => ?_)
    have z11 := sp h11 z10
    replace f0 := kp h11 (by decide) f0
    replace f1 := kp h11 (by decide) f1
    replace f17 := kp h11 (by decide) f17
    have f5 := nw h11 z10 (by decide)
    clear f12 z10
    replace h11 := Lib.hid h11
    refine take_run (i := 11) (u := .string (b.extract 0 kb)) rfl (by kernel_rfl) (by kernel_rfl) (by kernel_rfl) rfl rfl (fun _ _ _ h => h) trivial (fun v hv => run_assign rfl f17 _) ?_
    refine wpAnyH_abs _ (fun a12 h12 => ?_)
    have z12 := sp h12 z11
    replace f0 := kp h12 (by decide) f0
    replace f1 := kp h12 (by decide) f1
    have f6 := nw h12 z11 (by decide)
    clear f17 f5 z11
    replace h12 := Lib.hid h12
    refine wpAnyH_done (by kernel_rfl) ?_ _
    refine NoPanic.normal ?_
    rw [h12.out, h11.out, h10.out, h9.out, h8.out, h7.out, h6.out, h5.out, h4.out, h3.out, h2.out, h1.out, HB.out]
    simp only [Act.put, List.setIfInBounds_toArray, List.set_cons_zero, List.set_cons_succ]
    clear f0 f1 f6 z12 HB hsz h1 h2 h3 h4 h5 h6 h7 h8 h9 h10 h11 h12
    obtain ⟨x, hx⟩ : ∃ x, a.extract 0 ka = x := ⟨_, rfl⟩
    obtain ⟨y, hy⟩ : ∃ y, b.extract 0 kb = y := ⟨_, rfl⟩
    rw [hx, hy]
    rw [hx] at hza
    rw [hy] at hzb
    clear hx hy hka hkb hka2 hkb2 ha hb
    have c1 := awake27 dw (HSA.out _ beldw).1 (HSA.out _ beldw).2
    have k1 := fun w => key_any x y w hza hzb
    have k2 := fun w => key_any y x w hzb hza
    rw [key_same] at k2
    cases e : ls y x with
    | true =>
      have hl : Op.bytesLess y.toList x.toList = true := e
      have ek : keyF x y = y ++ x := by unfold keyF; rw [e]; rfl
      rw [ek] at k1 k2
      clear e ek
      go_wp2_with fail
      refine c1.mono ?_
      rintro e w1 ⟨rfl, hb1⟩
      have bel1 := beldw.trans (hb1.mono (by have := HBX.out; have := beldw.size; omega))
      go_wp2_with fail
      refine (k1 w1).mono ?_
      rintro e w2 ⟨rfl, hb2⟩
      have bel2 := bel1.trans (hb2.mono (by have := HBX.out; have := bel1.size; omega))
      go_wp2_with fail
      refine (k2 w2).mono ?_
      rintro e w3 ⟨rfl, hb3⟩
      have bel3 := bel2.trans (hb3.mono (by have := HBX.out; have := bel2.size; omega))
      go_wp2_with fail
      go_ret
      exact ⟨rfl, bel3⟩
    | false =>
      have hl : Op.bytesLess y.toList x.toList = false := e
      have ek : keyF x y = x ++ y := by unfold keyF; rw [e]; rfl
      rw [ek] at k1 k2
      clear e ek
      go_wp2_with fail
      refine c1.mono ?_
      rintro e w1 ⟨rfl, hb1⟩
      have bel1 := beldw.trans (hb1.mono (by have := HBX.out; have := beldw.size; omega))
      go_wp2_with fail
      refine (k1 w1).mono ?_
      rintro e w2 ⟨rfl, hb2⟩
      have bel2 := bel1.trans (hb2.mono (by have := HBX.out; have := bel1.size; omega))
      go_wp2_with fail
      refine (k2 w2).mono ?_
      rintro e w3 ⟨rfl, hb3⟩
      have bel3 := bel2.trans (hb3.mono (by have := HBX.out; have := bel2.size; omega))
      go_wp2_with fail
      go_ret
      exact ⟨rfl, bel3⟩
  rw [← hw0] at hgo
  rw [hB0]
  exact hgo
end Go.Proofs.YtlaemmplemngmaaDoor.ck
