/- Layer 8: a block mixed into five words by the document. -/
import Derived.Test.YtbdbcjhahlofiaaDoorDigC
namespace Go.Proofs.YtbdbcjhahlofiaaDoor.dig
open Go.ChangeShapes Go.WideShapes Go.ChangeAt Go.RowKit kit
open crc (ones xor_ones word)
open oct

theorem turn1q (x : Nat) (w : World) (h : x < 4294967296) : Calls Tryd.prog 55 #[.int .u32 x, .int .u64 1] w fun e w' => e = .returned (.int .u32 (rot x 1 : Nat)) ∧ w' = w := (turn1 x w h).mono fun _ _ h => ⟨h.1, h.2.symm⟩
theorem turn5q (x : Nat) (w : World) (h : x < 4294967296) : Calls Tryd.prog 55 #[.int .u32 x, .int .u64 5] w fun e w' => e = .returned (.int .u32 (rot x 5 : Nat)) ∧ w' = w := (turn5 x w h).mono fun _ _ h => ⟨h.1, h.2.symm⟩
theorem turn30q (x : Nat) (w : World) (h : x < 4294967296) : Calls Tryd.prog 55 #[.int .u32 x, .int .u64 30] w fun e w' => e = .returned (.int .u32 (rot x 30 : Nat)) ∧ w' = w := (turn30 x w h).mono fun _ _ h => ⟨h.1, h.2.symm⟩
theorem sum_eq2 (r f e w k : Nat) : ((((r + f) % 4294967296 + e) % 4294967296 + k) % 4294967296 + w) % 4294967296 = (r + f + e + w + k) % 4294967296 := by omega
theorem made80 : madeCells #[Value.int .u32 0] 80 = rowOf 80 [] := by kernel_rfl
theorem mk80 (w : World) : (Instr.makeSlice 46 (.int .i64 80) (.int .i64 80)).run Tryd.prog w = .ok (.slice (some ⟨w.heap.size, 0, none⟩) 80 80) (w.alloc (.cells (rowOf 80 []) 22)) := by
  have h : (Tryd.prog.info? 22).map (fun i => (i.zero, i.size, i.bytes)) = some (some (.int .u32 0), 1, 4) := by kernel_rfl
  cases hi : Tryd.prog.info? 22 with
  | none => rw [hi] at h; cases h
  | some i =>
    rw [hi] at h
    simp only [Option.map_some, Option.some.injEq, Prod.mk.injEq] at h
    obtain ⟨h1, h2, h3⟩ := h
    have := run_make w 46 22 i (.int .u32 0) Tryd.underlying46 hi h1 .i64 .i64 80 80 (by omega) (by omega) (by rw [h3]; decide) (by decide)
    rw [this, h2, ← made80]
    rfl
theorem ext_self (S : ByteArray) (n : Nat) (h : n = S.size) : S.extract 0 n = S := by subst h; simp
theorem num_any (B : ByteArray) (k : Nat) (w : World) (hB : B.size = 64) (hk : k < 16) : ∃ (S' : ByteArray) (e' : Int), Calls Tryd.prog 54 #[.agg #[.string (B.extract (4 * k) (4 * k + 4)), .int .i64 0], .int .i64 4] w fun y w' => y = .returned (.tuple #[.agg #[.string S', .int .i64 e'], .int .u64 (base B.data.toList k : Nat)]) ∧ Below w.heap.size w w' := by
  have hs : (B.extract (4 * k) (4 * k + 4)).size = 4 := by rw [ByteArray.size_extract]; omega
  have h := rnum_any (B.extract (4 * k) (4 * k + 4)) 0 4 w (by omega) (by rw [hs]; unfold maxLen; omega)
  have e : tkR (B.extract (4 * k) (4 * k + 4)) 0 ((4 : Nat) : Int) = B.extract (4 * k) (4 * k + 4) := by
    unfold tkR
    rw [if_neg (by simp), if_pos (by rw [hs]; simp)]
    exact ext_self _ _ (by rw [hs]; rfl)
  have e2 : numV (B.extract (4 * k) (4 * k + 4)).data.toList = base B.data.toList k := by
    rw [numV_eq]
    unfold base
    congr 1
    simp only [ByteArray.data_extract, Array.toList_extract, List.extract_eq_take_drop]
    congr 1
    omega
  rw [e, e2] at h
  exact ⟨_, _, h⟩

set_option maxRecDepth 100000 in
set_option maxHeartbeats 1000000 in
theorem block_any (s : St) (B : ByteArray) (w : World) (hs : s.ok) (hB : B.size = 64) : Calls Tryd.prog 41 #[.agg (cells5 s), .string B] w fun e w' => e = .returned (.agg (cells5 (fin s (rds (wl B.data.toList 80) s 80)))) ∧ Below w.heap.size w w' := by
  have HB := Lib.hid hB
  have HS := Lib.hid hs
  have hMk := fun w => mk80 w
  clear hB hs
  go_enter Tryd.func41, Tryd.ntmps41
  go_wp2
  have B0 : Blk (((w.alloc (.cells (cells5 s) 65)).alloc (.cells #[.int .u32 0, .int .u32 0, .int .u32 0, .int .u32 0, .int .u32 0] 65)).alloc (.cells (rowOf 80 []) 22)) w.heap.size 65 (cells5 s) := ((Blk.new _ _ _).alloc _).alloc _
  have B2 : Blk (((w.alloc (.cells (cells5 s) 65)).alloc (.cells #[.int .u32 0, .int .u32 0, .int .u32 0, .int .u32 0, .int .u32 0] 65)).alloc (.cells (rowOf 80 []) 22)) (w.heap.size + 1) 65 #[.int .u32 0, .int .u32 0, .int .u32 0, .int .u32 0, .int .u32 0] := (blk_new2 w (.cells (cells5 s) 65) 65 #[.int .u32 0, .int .u32 0, .int .u32 0, .int .u32 0, .int .u32 0]).alloc _
  have B1 : Blk (((w.alloc (.cells (cells5 s) 65)).alloc (.cells #[.int .u32 0, .int .u32 0, .int .u32 0, .int .u32 0, .int .u32 0] 65)).alloc (.cells (rowOf 80 []) 22)) (w.heap.size + 1 + 1) 22 (rowOf 80 []) := by
    simpa using Blk.new ((w.alloc (.cells (cells5 s) 65)).alloc (.cells #[.int .u32 0, .int .u32 0, .int .u32 0, .int .u32 0, .int .u32 0] 65)) 22 (rowOf 80 [])
  have bel := (((Below.refl w.heap.size w).alloc (Nat.le_refl _) (.cells (cells5 s) 65)).alloc (by simp) (.cells #[.int .u32 0, .int .u32 0, .int .u32 0, .int .u32 0, .int .u32 0] 65)).alloc (by simp; omega) (.cells (rowOf 80 []) 22)
  generalize ((w.alloc (.cells (cells5 s) 65)).alloc (.cells #[.int .u32 0, .int .u32 0, .int .u32 0, .int .u32 0, .int .u32 0] 65)).alloc (.cells (rowOf 80 []) 22) = w1 at *
  clear hMk
  go_loopw [6] (fun s6 wr => ∃ k : Nat, k ≤ 80 ∧ s6 = .int .i64 k ∧ Blk wr w.heap.size 65 (cells5 s) ∧ Blk wr (w.heap.size + 1) 65 #[.int .u32 0, .int .u32 0, .int .u32 0, .int .u32 0, .int .u32 0] ∧ Blk wr (w.heap.size + 1 + 1) 22 (rowOf 80 (wl B.data.toList k)) ∧ Below w.heap.size w wr) (fun s6 _ => 80 - (intOf s6).toNat)
  case atStart => exact ⟨0, by omega, rfl, B0, B2, B1, bel⟩
  case round =>
    clear B0 B1 B2 bel
    obtain ⟨k, hk, rfl, B0, B2, B1, bel⟩ := hrel
    have hlen := wl_len B.data.toList k
    by_cases hlt : k < 80
    · by_cases h16 : k < 16
      · have hN := fun W => num_any B k W HB.out h16
        have hb64 : 64 ≤ B.size := by have := HB.out; omega
        have hb64' : B.size ≤ 64 := by have := HB.out; omega
        have hv := base_lt B.data.toList k
        have HW := Lib.hid (wl_succ_lt B.data.toList k h16)
        have HL := Lib.hid hlen
        clear hlen
        obtain ⟨bv, hbv⟩ : ∃ x, base B.data.toList k = x := ⟨_, rfl⟩
        rw [hbv] at hN hv HW
        clear hbv
        go_wp2_with fail
        obtain ⟨S', e', hN1⟩ := hN wr
        refine hN1.mono ?_
        rintro e w5 ⟨rfl, hb5⟩
        have B05 := B0.below hb5 B0.lt
        have B15 := B1.below hb5 B1.lt
        have B25 := B2.below hb5 B2.lt
        have bel5 := bel.trans (hb5.mono bel.size)
        clear hN hN1 B0 B1 B2 bel hb5
        go_upto_region 7 with (fail)
        replace B05 := B05.alloc (.cells #[.string S', .int .i64 e'] 82)
        replace B15 := B15.alloc (.cells #[.string S', .int .i64 e'] 82)
        replace B25 := B25.alloc (.cells #[.string S', .int .i64 e'] 82)
        replace bel5 := bel5.alloc bel5.size (.cells #[.string S', .int .i64 e'] 82)
        generalize w5.alloc (.cells #[.string S', .int .i64 e'] 82) = w6 at *
        obtain ⟨u, hu⟩ := rowOf_any (p := wl B.data.toList k) (i := k) (by rw [HL.out]; omega) hlt
        have c0 := (B15.cell k).trans hu
        have f0 := B15.frozen k
        clear hu
        go_wp2
        clear c0 f0
        go_roundw
        case rel => exact ⟨k + 1, by omega, by go_num, B05.far (by simp; omega) _, B25.far (by simp) _, by
            rw [HW.out, ← rowOf_set _ (by rw [HL.out]; exact hlt), HL.out]; exact B15.set_ k _, bel5.setCell (by simp; omega) _⟩
        case measure => simp [intOf]; omega
      · have h16' : 16 ≤ k := by omega
        have hp : ∀ i, i < k → (rowOf 80 (wl B.data.toList k))[i]? = some (word ((wl B.data.toList k).getD i 0)) := fun i hi => rowOf_at (by rw [hlen]; exact hi)
        have hv := wl_lt B.data.toList k
        have HW := Lib.hid (wl_succ_ge B.data.toList k h16)
        obtain ⟨a3, ha3⟩ : ∃ a, (wl B.data.toList k).getD (k - 3) 0 = a := ⟨_, rfl⟩
        obtain ⟨a8, ha8⟩ : ∃ a, (wl B.data.toList k).getD (k - 8) 0 = a := ⟨_, rfl⟩
        obtain ⟨a14, ha14⟩ : ∃ a, (wl B.data.toList k).getD (k - 14) 0 = a := ⟨_, rfl⟩
        obtain ⟨a16, ha16⟩ : ∃ a, (wl B.data.toList k).getD (k - 16) 0 = a := ⟨_, rfl⟩
        have v3 := hv (k - 3)
        have v8 := hv (k - 8)
        have v14 := hv (k - 14)
        have v16 := hv (k - 16)
        rw [ha3] at v3
        rw [ha8] at v8
        rw [ha14] at v14
        rw [ha16] at v16
        rw [ha3, ha8, ha14, ha16] at HW
        have c3 := (B1.cell (k - 3)).trans ((hp (k - 3) (by omega)).trans (by rw [ha3]))
        have c8 := (B1.cell (k - 8)).trans ((hp (k - 8) (by omega)).trans (by rw [ha8]))
        have c14 := (B1.cell (k - 14)).trans ((hp (k - 14) (by omega)).trans (by rw [ha14]))
        have c16 := (B1.cell (k - 16)).trans ((hp (k - 16) (by omega)).trans (by rw [ha16]))
        unfold word at c3 c8 c14 c16
        have x1 := xor32 a3 a8 v3 v8
        have x2 := xor32 (a3 ^^^ a8) a14 (xor_lt v3 v8) v14
        have x3 := xor32 (a3 ^^^ a8 ^^^ a14) a16 (xor_lt (xor_lt v3 v8) v14) v16
        have hR := fun w => (turn1q (a3 ^^^ a8 ^^^ a14 ^^^ a16) w (xor_lt (xor_lt (xor_lt v3 v8) v14) v16))
        have HL := Lib.hid hlen
        obtain ⟨u, hu⟩ := rowOf_any (p := wl B.data.toList k) (i := k) (by omega) hlt
        have c0 := (B1.cell k).trans hu
        have f0 := B1.frozen k
        clear hu hlen hp hv ha3 ha8 ha14 ha16 v3 v8 v14 v16 h16
        generalize a3 ^^^ a8 ^^^ a14 ^^^ a16 = x at *
        generalize a3 ^^^ a8 ^^^ a14 = y at *
        generalize a3 ^^^ a8 = z at *
        obtain ⟨j3, q3⟩ : ∃ j, k - 3 = j := ⟨_, rfl⟩
        obtain ⟨j8, q8⟩ : ∃ j, k - 8 = j := ⟨_, rfl⟩
        obtain ⟨j14, q14⟩ : ∃ j, k - 14 = j := ⟨_, rfl⟩
        obtain ⟨j16, q16⟩ : ∃ j, k - 16 = j := ⟨_, rfl⟩
        rw [q3] at c3
        rw [q8] at c8
        rw [q14] at c14
        rw [q16] at c16
        have w3 : IntKind.i64.wrap ((k : Int) - 3) = (j3 : Int) := by rw [IntWalk.i64_in _ (by omega)]; omega
        have w8 : IntKind.i64.wrap ((k : Int) - 8) = (j8 : Int) := by rw [IntWalk.i64_in _ (by omega)]; omega
        have w14 : IntKind.i64.wrap ((k : Int) - 14) = (j14 : Int) := by rw [IntWalk.i64_in _ (by omega)]; omega
        have w16 : IntKind.i64.wrap ((k : Int) - 16) = (j16 : Int) := by rw [IntWalk.i64_in _ (by omega)]; omega
        have b3 : (j3 : Int) < 80 := by omega
        have b8 : (j8 : Int) < 80 := by omega
        have b14 : (j14 : Int) < 80 := by omega
        have b16 : (j16 : Int) < 80 := by omega
        have bk : (k : Int) < 80 := by omega
        clear q3 q8 q14 q16
        go_upto_region 8 with (fail)
        refine wp_region_still_tail 27 (by kernel_rfl) (by kernel_rfl) ?_
        simp only [List.take_succ_cons, List.take_zero, List.drop_succ_cons, List.drop_zero]
        repeat still_step
        still_call (hR _)
        repeat still_step
        refine wpStill_nil ?_
        change wpList _ _ _ _ _ wr.drew
        have B05 : Blk wr.drew _ _ _ := B0
        have B15 : Blk wr.drew _ _ _ := B1
        have B25 : Blk wr.drew _ _ _ := B2
        have bel5 := bel.drew
        have c05 : wr.drew.cell? ⟨w.heap.size + 1 + 1, k, none⟩ = some u := c0
        have f05 : wr.drew.frozen? ⟨w.heap.size + 1 + 1, k, none⟩ = false := f0
        generalize wr.drew = w5 at *
        clear c0 f0 c3 c8 c14 c16 x1 x2 x3 hR w3 w8 w14 w16 b3 b8 b14 b16 B0 B1 B2 bel
        go_wp2
        clear c05 f05
        go_roundw
        case rel => exact ⟨k + 1, by omega, by go_num, B05.far (by simp; omega) _, B25.far (by simp) _, by
            rw [HW.out, ← rowOf_set _ (by rw [HL.out]; exact hlt), HL.out]; exact B15.set_ k _, bel5.setCell (by simp; omega) _⟩
        case measure => simp [intOf]; omega
    · have hk' : k = 80 := by omega
      subst hk'
      clear hlt hk
      obtain ⟨p, hpp⟩ : ∃ p, wl B.data.toList 80 = p := ⟨_, rfl⟩
      have HPP := Lib.hid hpp
      have HV := Lib.hid (show ∀ i, p.getD i 0 < 4294967296 by rw [← hpp]; exact wl_lt B.data.toList 80)
      rw [hpp] at B1 hlen
      have HP := Lib.hid hlen
      clear hpp hlen
      have c0 : wr.cell? ⟨w.heap.size, 0, none⟩ = some (.int .u32 (s.a : Int)) := B0.cell 0
      have c1 : wr.cell? ⟨w.heap.size, 1, none⟩ = some (.int .u32 (s.b : Int)) := B0.cell 1
      have c2 : wr.cell? ⟨w.heap.size, 2, none⟩ = some (.int .u32 (s.c : Int)) := B0.cell 2
      have c3 : wr.cell? ⟨w.heap.size, 3, none⟩ = some (.int .u32 (s.d : Int)) := B0.cell 3
      have c4 : wr.cell? ⟨w.heap.size, 4, none⟩ = some (.int .u32 (s.e : Int)) := B0.cell 4
      go_upto_region 9 with (fail)
      refine wp_region_still_lit (by kernel_rfl) (by kernel_rfl) ?_
      repeat still_step
      refine wpStill_nil ?_
      clear c0 c1 c2 c3 c4
      change Exit.then _ _ _ _ wr.drew
      replace B0 : Blk wr.drew _ _ _ := B0
      replace B1 : Blk wr.drew _ _ _ := B1
      replace B2 : Blk wr.drew _ _ _ := B2
      replace bel := bel.drew
      generalize wr.drew = w2 at *
      go_wp2
      go_loopw [9, 10, 11, 12, 13, 14] (fun s5 s6 s7 s8 s9 s22 wr => ∃ (k : Nat) (t : St), k ≤ 80 ∧ t = rds p s k ∧ s22 = .int .i64 k ∧ s5 = .int .u32 (t.a : Int) ∧ s6 = .int .u32 (t.b : Int) ∧ s7 = .int .u32 (t.c : Int) ∧ s8 = .int .u32 (t.d : Int) ∧ s9 = .int .u32 (t.e : Int) ∧ Blk wr w.heap.size 65 (cells5 s) ∧ Blk wr (w.heap.size + 1 + 1) 22 (rowOf 80 p) ∧ Blk wr (w.heap.size + 1) 65 #[.int .u32 0, .int .u32 0, .int .u32 0, .int .u32 0, .int .u32 0] ∧ Below w.heap.size w wr) (fun _ _ _ _ _ s22 _ => 80 - (intOf s22).toNat)
      case atStart => exact ⟨0, s, by omega, rfl, rfl, rfl, rfl, rfl, rfl, rfl, B0, B1, B2, bel⟩
      case round =>
        clear B0 B1 B2 bel
        obtain ⟨k, t, hk, ht, rfl, rfl, rfl, rfl, rfl, rfl, B0, B1, B2, bel⟩ := hrel
        have hok : t.ok := by rw [ht]; exact rds_ok p HS.out k
        obtain ⟨o1, o2, o3, o4, o5⟩ := hok
        have HT := Lib.hid ht
        clear ht
        by_cases hlt : k < 80
        · have hrd := rd1_of k (p.getD k 0) (s := t) rfl _ (sum_eq2 (rot t.a 5) (ch k t.b t.c t.d) t.e (p.getD k 0) (ad k))
          have HN := Lib.hid (show rds p s (k + 1) = _ from (show rds p s (k + 1) = rd1 k (p.getD k 0) (rds p s k) from rfl).trans ((congrArg (rd1 k (p.getD k 0)) HT.out.symm).trans hrd))
          obtain ⟨wv, hwv⟩ : ∃ x, p.getD k 0 = x := ⟨_, rfl⟩
          have cw := (B1.cell k).trans (rowOf_at (by rw [HP.out]; exact hlt))
          rw [hwv] at cw HN
          obtain ⟨av, hav⟩ : ∃ x, ad k = x := ⟨_, rfl⟩
          unfold word at cw
          have hR := fun w => turn5q t.a w o1
          have hC := fun w => round_any k t.b t.c t.d w hlt o2 o3 o4
          rw [hav] at HN hC
          have hR2 := fun w => turn30q t.b w o2
          obtain ⟨ta, tb, tc, td, te⟩ := t
          simp only at hR hC hR2 HN cw o1 o2 o3 o4 o5 ⊢
          generalize rot ta 5 = r at *
          generalize ch k tb tc td = f at *
          generalize rot tb 30 = rb at *
          have s1 := wrap_add r f
          have s2 := wrap_add ((r + f) % 4294967296) te
          have s3 := wrap_add (((r + f) % 4294967296 + te) % 4294967296) av
          have s4 := wrap_add ((((r + f) % 4294967296 + te) % 4294967296 + av) % 4294967296) wv
          generalize ((((r + f) % 4294967296 + te) % 4294967296 + av) % 4294967296 + wv) % 4294967296 = u4 at *
          generalize (((r + f) % 4294967296 + te) % 4294967296 + av) % 4294967296 = u3 at *
          generalize ((r + f) % 4294967296 + te) % 4294967296 = u2 at *
          generalize (r + f) % 4294967296 = u1 at *
          have bk : (k : Int) < 80 := by omega
          clear hwv hav o1 o2 o3 o4 o5 hrd
          go_upto_region 14 with (go_at_call 56; refine (hC _).mono ?_; rintro e w4 ⟨rfl, rfl⟩)
          refine wp_region_still_lit (by kernel_rfl) (by kernel_rfl) ?_
          repeat still_step
          still_call (hR _)
          repeat still_step
          still_call (hR2 _)
          repeat still_step
          refine wpStill_nil ?_
          change Exit.inBlock _ _ _ _ wr.drew
          replace B0 : Blk wr.drew _ _ _ := B0
          replace B1 : Blk wr.drew _ _ _ := B1
          replace B2 : Blk wr.drew _ _ _ := B2
          replace bel := bel.drew
          generalize wr.drew = w3 at *
          clear hR hC hR2 s1 s2 s3 s4 cw
          go_wp2
          go_roundw
          case rel => exact ⟨k + 1, ⟨u4, ta, rb, tc, td⟩, by omega, HN.out.symm, by go_num, rfl, rfl, rfl, rfl, rfl, B0, B1, B2, bel⟩
          case measure => simp [intOf]; omega
        · have hk' : k = 80 := by omega
          subst hk'
          clear hlt hk B1
          have c0 : wr.cell? ⟨w.heap.size, 0, none⟩ = some (.int .u32 (s.a : Int)) := B0.cell 0
          have c1 : wr.cell? ⟨w.heap.size, 1, none⟩ = some (.int .u32 (s.b : Int)) := B0.cell 1
          have c2 : wr.cell? ⟨w.heap.size, 2, none⟩ = some (.int .u32 (s.c : Int)) := B0.cell 2
          have c3 : wr.cell? ⟨w.heap.size, 3, none⟩ = some (.int .u32 (s.d : Int)) := B0.cell 3
          have c4 : wr.cell? ⟨w.heap.size, 4, none⟩ = some (.int .u32 (s.e : Int)) := B0.cell 4
          clear B0 o1 o2 o3 o4 o5
          have d0 : wr.cell? ⟨w.heap.size + 1, 0, none⟩ = some (.int .u32 0) := B2.cell 0
          have d1 : wr.cell? ⟨w.heap.size + 1, 1, none⟩ = some (.int .u32 0) := B2.cell 1
          have d2 : wr.cell? ⟨w.heap.size + 1, 2, none⟩ = some (.int .u32 0) := B2.cell 2
          have d3 : wr.cell? ⟨w.heap.size + 1, 3, none⟩ = some (.int .u32 0) := B2.cell 3
          have d4 : wr.cell? ⟨w.heap.size + 1, 4, none⟩ = some (.int .u32 0) := B2.cell 4
          have f0 := B2.frozen 0
          have f1 := B2.frozen 1
          have f2 := B2.frozen 2
          have f3 := B2.frozen 3
          have f4 := B2.frozen 4
          have HF := Lib.hid (show cells5 (fin s t) = #[.int .u32 (((s.a : Int) + t.a) % 4294967296), .int .u32 (((s.b : Int) + t.b) % 4294967296), .int .u32 (((s.c : Int) + t.c) % 4294967296), .int .u32 (((s.d : Int) + t.d) % 4294967296), .int .u32 (((s.e : Int) + t.e) % 4294967296)] by simp [cells5, fin, word])
          go_wp2
          have B3 := ((((B2.set_ 0 (.int .u32 (((s.a : Int) + t.a) % 4294967296))).set_ 1 (.int .u32 (((s.b : Int) + t.b) % 4294967296))).set_ 2 (.int .u32 (((s.c : Int) + t.c) % 4294967296))).set_ 3 (.int .u32 (((s.d : Int) + t.d) % 4294967296))).set_ 4 (.int .u32 (((s.e : Int) + t.e) % 4294967296))
          refine bodyPost_ret (v := .agg (cells5 (fin s t))) ?_ rfl ⟨by rw [HPP.out, ← HT.out], ?_⟩
          · rw [HF.out]
            exact results_cell_row rfl _ _ (w.heap.size + 1) 65 _ (0, 0) _ rfl B3 Tryd.underlying65 rfl (by kernel_rfl)
          · exact ((((bel.setCell (p := ⟨w.heap.size + 1, 0, none⟩) (by simp) _).setCell (p := ⟨w.heap.size + 1, 1, none⟩) (by simp) _).setCell (p := ⟨w.heap.size + 1, 2, none⟩) (by simp) _).setCell (p := ⟨w.heap.size + 1, 3, none⟩) (by simp) _).setCell (p := ⟨w.heap.size + 1, 4, none⟩) (by simp) _
end Go.Proofs.YtbdbcjhahlofiaaDoor.dig
