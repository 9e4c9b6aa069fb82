/- Layer 37: messages of few streams and bytes, made out of whatever ones (gen-mob.py wrote this). -/
import Derived.Test.YthjhiogbnacmdaaMoA
namespace Go.Proofs.Ythjhiogbnacmdaa.mo
open Go.Sort (grow)
open Go.ChangeShapes Go.WideShapes Go.ChangeAt Go.RowKit kit cut
set_option maxRecDepth 100000

set_option maxHeartbeats 4000000 in
theorem cut37 (oa : Option Addr) (a : Addr) (n c : Nat) (E : Nat → Ma) (B : Nat) (w : World) (hB : B ≤ w.heap.size) (hR : MsR w B oa a n c E) :
    Calls Try.prog 11 #[.slice oa n c] w fun e w' => (∃ v : Value, e = .returned v ∧ QM w' w.heap.size v (tm E (min n 20))) ∧ Below w.heap.size w w' := by
  obtain ⟨B0, hB0⟩ : ∃ B0, w.heap.size = B0 := ⟨_, rfl⟩
  have HR := Lib.hid (show ∀ w', Below B0 w w' → MsR w' B oa a n c E from fun w' h => hR.below (h.mono (by omega)))
  have HAB := Lib.hid (show 0 < n → a.block < B0 from fun h => by have := hR.hb h; omega)
  obtain ⟨mm, hmm, hm1, hm2⟩ : ∃ m : Nat, m = min n 20 ∧ m ≤ n ∧ m ≤ 20 := ⟨min n 20, rfl, by omega, by omega⟩
  rw [← hmm]
  have HMM := Lib.hid hmm
  have bel1 : Below B0 w (w.alloc (.cells #[] 71)) := by rw [← hB0]; exact (Below.refl w.heap.size w).alloc (Nat.le_refl _) _
  have q1 : QM (w.alloc (.cells #[] 71)) B0 (.slice (some ⟨w.heap.size, 0, none⟩) 0 0) (tm E 0) := Qo.empty _ _ _ _
  rw [hB0] at q1
  rw [hB0]
  clear hR hmm hB
  go_enter Try.func11, Try.ntmps11
  go_upto_region 2 with fail
  obtain ⟨w1, hw1⟩ : ∃ w1, w.alloc (.cells #[] 71) = w1 := ⟨_, rfl⟩
  rw [hw1] at bel1 q1
  try rw [hw1]
  clear hw1
  go_wp2_with fail
  go_loopw [3, 4] (fun s3 s4 wr => ∃ i : Nat, s4 = .int .i64 (i : Nat) ∧ i ≤ mm ∧ QM wr B0 s3 (tm E i) ∧ Below B0 w wr) (fun _ s4 _ => mm - (intOf s4).toNat)
  case atStart => exact ⟨0, rfl, Nat.zero_le _, q1, bel1⟩
  case round =>
    rename World => wr
    clear q1 bel1
    obtain ⟨i, rfl, hi, q, bel⟩ := hrel
    obtain ⟨oq, cq, hvq, _, _⟩ := q.shape
    rw [tm_len] at hvq
    subst hvq
    by_cases hlt : i < mm
    · have hin : i < n := by omega
      have hii : (i : Int) < (n : Int) := by omega
      have hi20 : (i : Int) < 20 := by omega
      have hi0 : (0 : Int) ≤ (i : Int) := by omega
      have R := HR.out _ bel
      obtain rfl := R.ho (by omega)
      have hrow := R.cell i hin
      have hsz := R.sz i hin
      obtain ⟨⟨e1, e2, e3, e4, e5⟩, hee⟩ : ∃ e, E i = e := ⟨_, rfl⟩
      rw [hee] at hrow hsz
      have he5 : e5.size ≤ maxLen := hsz
      have r0 : wr.cell? (a.add (i * 5)) = some (.int .i64 e1) := by have := hrow 0 _ rfl; rw [add_zz] at this; exact this
      have r2 : wr.cell? ⟨(a.add (i * 5)).block, (a.add (i * 5)).off + 2, none⟩ = some (.bool e3) := by have := hrow 2 _ rfl; rw [add_off _ _ _ (by decide)] at this; exact this
      have r4 : wr.cell? ⟨(a.add (i * 5)).block, (a.add (i * 5)).off + 4, none⟩ = some (.string e5) := by have := hrow 4 _ rfl; rw [add_off _ _ _ (by decide)] at this; exact this
      obtain ⟨k, hk⟩ : ∃ k, min e5.size 2 = k := ⟨_, rfl⟩
      have hk2 : k ≤ e5.size := by omega
      have hab := HAB.out (by omega)
      have HEE := Lib.hid (show lowM (E i) = ⟨bits .and .i64 e1 1, e3, e5.extract 0 k⟩ by rw [hee, ← hk]; rfl)
      have qD := q.drew
      have belD := bel.drew
      have hbs := bel.size
      clear R hrow hee hsz
      go_upto_region 5 with fail
      refine wp_region_noPanic ?_
      have HS : ((fun v => v.cell? (a.add (i * 5)) = some (.int .i64 e1) ∧ v.cell? ⟨(a.add (i * 5)).block, (a.add (i * 5)).off + 2, none⟩ = some (.bool e3) ∧ v.cell? ⟨(a.add (i * 5)).block, (a.add (i * 5)).off + 4, none⟩ = some (.string e5)) : World → Prop) wr.drew := ⟨r0, r2, r4⟩
      refine begin_C (fun v => v.cell? (a.add (i * 5)) = some (.int .i64 e1) ∧ v.cell? ⟨(a.add (i * 5)).block, (a.add (i * 5)).off + 2, none⟩ = some (.bool e3) ∧ v.cell? ⟨(a.add (i * 5)).block, (a.add (i * 5)).off + 4, none⟩ = some (.string e5)) 27 (by kernel_rfl) ?_
      obtain ⟨w6, hw6⟩ : ∃ w6, wr.drew = w6 := ⟨_, rfl⟩
      have hs6 : wr.heap.size = w6.heap.size := by rw [← hw6]; rfl
      rw [hw6] at qD belD HS
      rw [hw6]
      clear hw6 q bel r0 r2 r4
      refine abs_C _ (fun ac hac => ?_)
      have hsz : ac.tmps.size = 45 := by rw [hac]; rfl
      have ea : ac.eval (.tmp 3) = .slice oq i cq := by rw [hac]; rfl
      have eb : ac.eval (.tmp 0) = .slice (some a) n c := by rw [hac]; rfl
      have ec : ac.eval (.tmp 4) = .int .i64 (i : Nat) := by rw [hac]; rfl
      have HB := Lib.hid hac
      clear hac
      have EV := And.intro @Act.eval_put_ne (And.intro @Act.eval_put_same (And.intro @Act.size_put (And.intro hsz (And.intro ea (And.intro eb ec)))))
      refine take_Y (i := 0) (u := .slice oq i cq) rfl (by kernel_rfl) (by kernel_rfl) (by kernel_rfl) (by decide) rfl rfl (fun _ _ _ h => h) HS (fun v => run_move rfl (by simp [EV]) v) ?_
      refine take_Y (i := 1) (u := .slice (some a) n c) rfl (by kernel_rfl) (by kernel_rfl) (by kernel_rfl) (by decide) rfl rfl (fun _ _ _ h => h) HS (fun v => run_move rfl (by simp [EV]) v) ?_
      refine take_Y (i := 2) (u := .int .i64 (i : Nat)) rfl (by kernel_rfl) (by kernel_rfl) (by kernel_rfl) (by decide) rfl rfl (fun _ _ _ h => h) HS (fun v => run_move rfl (by simp [EV]) v) ?_
      refine take_Y (i := 3) (u := .pointer (some (a.add (i * 5)))) rfl (by kernel_rfl) (by kernel_rfl) (by kernel_rfl) (by decide) rfl rfl (fun _ _ _ h => h) HS (fun v => run_index (s := .slice (some a) n c) (j := .int .i64 (i : Nat)) rfl (by simp [EV]) (by simp [EV]) (by go_simp)) ?_
      refine take_Y (i := 4) (u := .pointer (some (a.add (i * 5)))) rfl (by kernel_rfl) (by kernel_rfl) (by kernel_rfl) (by decide) rfl rfl (fun _ _ _ h => h) HS (fun v => run_field (s := .pointer (some (a.add (i * 5)))) rfl (by simp [EV]) (by go_simp)) ?_
      refine take_C (i := 5) [6, 25, 26] (u := .int .i64 e1) rfl (by kernel_rfl) (by kernel_rfl) (by kernel_rfl) (by kernel_rfl) (by kernel_rfl) (by decide) rfl rfl (fun _ _ _ h => h) HS (fun v hv => run_load1 (s := .pointer (some (a.add (i * 5)))) rfl (by simp [EV]) (by have c : v.cell? (a.add (i * 5)) = some (.int .i64 e1) := hv.1; go_simp)) ?_
      refine take_Y (i := 6) (u := .int .i64 (bits .and .i64 e1 1)) rfl (by kernel_rfl) (by kernel_rfl) (by kernel_rfl) (by decide) rfl rfl (fun _ _ _ h => h) HS (fun v => run_and9 (s := .int .i64 e1) (j := .int .i64 1) rfl (by simp [EV]) rfl (andI9 e1 1 v)) ?_
      refine take_Y (i := 7) (u := .slice (some a) n c) rfl (by kernel_rfl) (by kernel_rfl) (by kernel_rfl) (by decide) rfl rfl (fun _ _ _ h => h) HS (fun v => run_move rfl (by simp [EV]) v) ?_
      refine take_Y (i := 8) (u := .int .i64 (i : Nat)) rfl (by kernel_rfl) (by kernel_rfl) (by kernel_rfl) (by decide) rfl rfl (fun _ _ _ h => h) HS (fun v => run_move rfl (by simp [EV]) v) ?_
      refine take_Y (i := 9) (u := .pointer (some (a.add (i * 5)))) rfl (by kernel_rfl) (by kernel_rfl) (by kernel_rfl) (by decide) rfl rfl (fun _ _ _ h => h) HS (fun v => run_index (s := .slice (some a) n c) (j := .int .i64 (i : Nat)) rfl (by simp [EV]) (by simp [EV]) (by go_simp)) ?_
      refine take_Y (i := 10) (u := .pointer (some ⟨(a.add (i * 5)).block, (a.add (i * 5)).off + 2, none⟩)) rfl (by kernel_rfl) (by kernel_rfl) (by kernel_rfl) (by decide) rfl rfl (fun _ _ _ h => h) HS (fun v => run_field (s := .pointer (some (a.add (i * 5)))) rfl (by simp [EV]) (by go_simp)) ?_
      refine take_C (i := 11) [25, 26] (u := .bool e3) rfl (by kernel_rfl) (by kernel_rfl) (by kernel_rfl) (by kernel_rfl) (by kernel_rfl) (by decide) rfl rfl (fun _ _ _ h => h) HS (fun v hv => run_load1 (s := .pointer (some ⟨(a.add (i * 5)).block, (a.add (i * 5)).off + 2, none⟩)) rfl (by simp [EV]) (by have c : v.cell? ⟨(a.add (i * 5)).block, (a.add (i * 5)).off + 2, none⟩ = some (.bool e3) := hv.2.1; go_simp)) ?_
      refine take_Y (i := 12) (u := .slice (some a) n c) rfl (by kernel_rfl) (by kernel_rfl) (by kernel_rfl) (by decide) rfl rfl (fun _ _ _ h => h) HS (fun v => run_move rfl (by simp [EV]) v) ?_
      refine take_Y (i := 13) (u := .int .i64 (i : Nat)) rfl (by kernel_rfl) (by kernel_rfl) (by kernel_rfl) (by decide) rfl rfl (fun _ _ _ h => h) HS (fun v => run_move rfl (by simp [EV]) v) ?_
      refine take_Y (i := 14) (u := .pointer (some (a.add (i * 5)))) rfl (by kernel_rfl) (by kernel_rfl) (by kernel_rfl) (by decide) rfl rfl (fun _ _ _ h => h) HS (fun v => run_index (s := .slice (some a) n c) (j := .int .i64 (i : Nat)) rfl (by simp [EV]) (by simp [EV]) (by go_simp)) ?_
      refine take_Y (i := 15) (u := .pointer (some ⟨(a.add (i * 5)).block, (a.add (i * 5)).off + 4, none⟩)) rfl (by kernel_rfl) (by kernel_rfl) (by kernel_rfl) (by decide) rfl rfl (fun _ _ _ h => h) HS (fun v => run_field (s := .pointer (some (a.add (i * 5)))) rfl (by simp [EV]) (by go_simp)) ?_
      refine take_C (i := 16) [24, 25, 26] (u := .string e5) rfl (by kernel_rfl) (by kernel_rfl) (by kernel_rfl) (by kernel_rfl) (by kernel_rfl) (by decide) rfl rfl (fun _ _ _ h => h) HS (fun v hv => run_load1 (s := .pointer (some ⟨(a.add (i * 5)).block, (a.add (i * 5)).off + 4, none⟩)) rfl (by simp [EV]) (by have c : v.cell? ⟨(a.add (i * 5)).block, (a.add (i * 5)).off + 4, none⟩ = some (.string e5) := hv.2.2; go_simp)) ?_
      refine take_Y (i := 17) (u := .slice (some a) n c) rfl (by kernel_rfl) (by kernel_rfl) (by kernel_rfl) (by decide) rfl rfl (fun _ _ _ h => h) HS (fun v => run_move rfl (by simp [EV]) v) ?_
      refine take_Y (i := 18) (u := .int .i64 (i : Nat)) rfl (by kernel_rfl) (by kernel_rfl) (by kernel_rfl) (by decide) rfl rfl (fun _ _ _ h => h) HS (fun v => run_move rfl (by simp [EV]) v) ?_
      refine take_Y (i := 19) (u := .pointer (some (a.add (i * 5)))) rfl (by kernel_rfl) (by kernel_rfl) (by kernel_rfl) (by decide) rfl rfl (fun _ _ _ h => h) HS (fun v => run_index (s := .slice (some a) n c) (j := .int .i64 (i : Nat)) rfl (by simp [EV]) (by simp [EV]) (by go_simp)) ?_
      refine take_Y (i := 20) (u := .pointer (some ⟨(a.add (i * 5)).block, (a.add (i * 5)).off + 4, none⟩)) rfl (by kernel_rfl) (by kernel_rfl) (by kernel_rfl) (by decide) rfl rfl (fun _ _ _ h => h) HS (fun v => run_field (s := .pointer (some (a.add (i * 5)))) rfl (by simp [EV]) (by go_simp)) ?_
      refine take_C (i := 21) [22, 23, 24, 25, 26] (u := .string e5) rfl (by kernel_rfl) (by kernel_rfl) (by kernel_rfl) (by kernel_rfl) (by kernel_rfl) (by decide) rfl rfl (fun _ _ _ h => h) HS (fun v hv => run_load1 (s := .pointer (some ⟨(a.add (i * 5)).block, (a.add (i * 5)).off + 4, none⟩)) rfl (by simp [EV]) (by have c : v.cell? ⟨(a.add (i * 5)).block, (a.add (i * 5)).off + 4, none⟩ = some (.string e5) := hv.2.2; go_simp)) ?_
      refine take_Y (i := 22) (u := .int .i64 (e5.size : Nat)) rfl (by kernel_rfl) (by kernel_rfl) (by kernel_rfl) (by decide) rfl rfl (fun _ _ _ h => h) HS (fun v => run_lens rfl (by simp [EV]) (fun cs => len_s e5 v cs)) ?_
      refine take_Y (i := 23) (u := .int .i64 (k : Nat)) rfl (by kernel_rfl) (by kernel_rfl) (by kernel_rfl) (by decide) rfl rfl (fun _ _ _ h => h) HS (fun v => run_min rfl (by simp [EV]) (by rfl) (fun cs => min_run e5.size 2 k 2 rfl hk v cs)) ?_
      refine take_Y (i := 24) (u := .string (e5.extract 0 k)) rfl (by kernel_rfl) (by kernel_rfl) (by kernel_rfl) (by decide) rfl rfl (fun _ _ _ h => h) HS (fun v => run_slice_s Try.underlying9 rfl (by simp [EV]) (by simp [EV]) (slice_s e5 k hk2 he5 v)) ?_
      refine take_Y (i := 25) (u := .agg #[.int .i64 (bits .and .i64 e1 1), .int .i64 0, .bool e3, .int .u32 0, .string (e5.extract 0 k)]) rfl (by kernel_rfl) (by kernel_rfl) (by kernel_rfl) (by decide) rfl rfl (fun _ _ _ h => h) HS (fun v => run_build3 (s0 := .int .i64 (bits .and .i64 e1 1)) (s1 := .bool e3) (s2 := .string (e5.extract 0 k)) rfl (by simp [EV]) (by simp [EV]) (by simp [EV]) (by kernel_rfl)) ?_
      obtain ⟨v7, w7, hr7, q7, gr7, ha7⟩ := me_app qD (by omega) ⟨bits .and .i64 e1 1, e3, e5.extract 0 k⟩ (by rw [tm_len]; omega)
      unfold me at hr7 gr7
      dsimp only at hr7 gr7
      have al7 := (Below.refl w6.heap.size w6).alloc (Nat.le_refl _) (.cells #[.int .i64 (bits .and .i64 e1 1), .int .i64 0, .bool e3, .int .u32 0, .string (e5.extract 0 k)] 71)
      have hql := fun j (hj : blkOf (.slice oq i cq) = some j) => (qD.lt hj).1
      have bel7 : Below B0 w w7 := (belD.trans (al7.mono (by omega))).grown gr7 (by simp; omega) (fun j hj => hql j hj)
      have hblk : ∀ o : Nat, w7.heap[(a.add (i * 5)).block]? = w6.heap[(a.add (i * 5)).block]? := fun _ => (gr7.block _ (by rw [addr_add_block]; simp; omega) (fun e => by have := hql _ e.symm; rw [addr_add_block] at this; omega)).trans (al7.block _ (by rw [addr_add_block]; omega))
      have HS7 : w7.cell? (a.add (i * 5)) = some (.int .i64 e1) ∧ w7.cell? ⟨(a.add (i * 5)).block, (a.add (i * 5)).off + 2, none⟩ = some (.bool e3) ∧ w7.cell? ⟨(a.add (i * 5)).block, (a.add (i * 5)).off + 4, none⟩ = some (.string e5) := ⟨(World.cell?_of_block (hblk 0)).trans HS.1, (World.cell?_of_block (a := ⟨(a.add (i * 5)).block, (a.add (i * 5)).off + 2, none⟩) (hblk 0)).trans HS.2.1, (World.cell?_of_block (a := ⟨(a.add (i * 5)).block, (a.add (i * 5)).off + 4, none⟩) (hblk 0)).trans HS.2.2⟩
      refine val_C (i := 26) (u := .slice (some ⟨w6.heap.size, 0, none⟩) 1 1) (w' := w6.alloc (.cells #[.int .i64 (bits .and .i64 e1 1), .int .i64 0, .bool e3, .int .u32 0, .string (e5.extract 0 k)] 71)) (by kernel_rfl) rfl rfl rfl (fun _ => ⟨al_cell HS.1, al_cell HS.2.1, al_cell HS.2.2⟩) (run_build1 (u := .agg #[.int .i64 (bits .and .i64 e1 1), .int .i64 0, .bool e3, .int .u32 0, .string (e5.extract 0 k)]) rfl (by simp [EV]) (by kernel_rfl)) ?_
      refine app_C (i := 27) (by kernel_rfl) rfl rfl rfl rfl (by simp [EV]) (by simp [EV]) hr7 (fun h => absurd rfl h) ?_
      refine val_C (i := 28) (u := v7) (w' := w7) (by kernel_rfl) rfl rfl rfl (fun _ => HS7) (run_assign rfl (by simp [EV]) _) ?_
      refine done_C (by kernel_rfl) ?_ _
      refine NoPanic.normal ?_
      rw [HB.out]
      simp only [Act.put, List.setIfInBounds_toArray, List.set_cons_zero, List.set_cons_succ]
      have HQ := Lib.hid (show QM w7 B0 v7 (tm E (i + 1)) by rw [show tm E (i + 1) = tm E i ++ [lowM (E i)] from rfl, HEE.out]; exact q7)
      have HB7 := Lib.hid bel7
      obtain ⟨o7, c7, hv7, _, _⟩ := q7.shape
      subst hv7
      clear HB HS HS7 EV ea eb ec hsz hr7 qD belD q7 gr7 ha7 al7 hql bel7 hblk
      go_wp2_with fail
      go_roundw
      case rel => exact ⟨i + 1, by go_num, by omega, HQ.out, HB7.out⟩
      case measure => simp [intOf]; omega
    · obtain rfl : i = mm := by omega
      have HQ := Lib.hid q
      have HB7 := Lib.hid bel
      clear q bel
      by_cases hin : (i : Int) < (n : Int)
      · have hi20 : ¬ (i : Int) < 20 := by have := HMM.out; omega
        go_wp2_with fail
        go_ret
        exact ⟨⟨_, rfl, HQ.out⟩, HB7.out⟩
      · go_wp2_with fail
        go_ret
        exact ⟨⟨_, rfl, HQ.out⟩, HB7.out⟩
end Go.Proofs.Ythjhiogbnacmdaa.mo
