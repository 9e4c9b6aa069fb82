/- Layer 15: paths dropped (gen-ppg.py wrote this). -/
import Derived.Test.YthddacgdmngfhaaPpF
namespace Go.Proofs.Ythddacgdmngfhaa.pat
open Go.Sort (grow)
open Go.ChangeShapes Go.WideShapes Go.ChangeAt Go.RowKit kit
set_option maxRecDepth 100000

theorem Fr.trans {g : Nat} {v0 : Value} {a b c : World} (h : Fr g v0 a b) (k : Fr g v0 b c) : Fr g v0 a c := ⟨Nat.le_trans h.size k.size, fun i hi h1 h2 => (k.block i (Nat.lt_of_lt_of_le hi h.size) h1 h2).trans (h.block i hi h1 h2)⟩
theorem Fr.then_ {g : Nat} {v0 : Value} {a b c : World} (h : Fr g v0 a b) (k : Below b.heap.size b c) : Fr g v0 a c := h.trans (Fr.of_below k)
section
variable {b0 g f : Nat} {L : List Px} {w w' : World}
/-- What comes of paths dropped. -/
def DropP (b0 g f : Nat) (L : List Px) (v0 : Value) (P : List Nat) (w : World) (e : Ending) (w' : World) : Prop :=
  ∃ v', e = .returned v' ∧ Qo w' w.heap.size 1 v' P.length (cellsI P) ∧ (∃ v2, Pw b0 g (pickL L P) (atO f P 0 0) v2 w' ∧ ∀ i, blkOf v2 = some i → w.heap.size ≤ i) ∧ Below b0 w w' ∧ Fr g v0 w w'
set_option maxHeartbeats 4000000 in
theorem drop_g {v0 : Value} (h : Pw b0 g L f v0 w) (hb0 : b0 ≤ w.heap.size) (hf : f < L.length) (hl : L.length ≤ 8) (l p k : Int) : Calls Try.prog 70 #[.pointer (some ⟨g, 0, none⟩), .int .u32 l, .int .u32 p, .int .i64 k] w (DropP b0 g f L v0 (leftO L f l p k) w) := by
  have Lb : Blk (((w.alloc (.cells #[.int .u32 l] 109)).alloc (.cells #[.int .u32 p] 109)).alloc (.cells #[.int .i64 k] 3)) w.heap.size 109 #[.int .u32 l] := ((Blk.new w _ _).alloc _).alloc _
  have Pb : Blk (((w.alloc (.cells #[.int .u32 l] 109)).alloc (.cells #[.int .u32 p] 109)).alloc (.cells #[.int .i64 k] 3)) (w.heap.size + 1) 109 #[.int .u32 p] := (blk_new2 w _ _ _).alloc _
  have K : Blk (((w.alloc (.cells #[.int .u32 l] 109)).alloc (.cells #[.int .u32 p] 109)).alloc (.cells #[.int .i64 k] 3)) (w.heap.size + 2) 3 #[.int .i64 k] := by
    have := Blk.new ((w.alloc (.cells #[.int .u32 l] 109)).alloc (.cells #[.int .u32 p] 109)) 3 #[.int .i64 k]
    rwa [show ((w.alloc (.cells #[.int .u32 l] 109)).alloc (.cells #[.int .u32 p] 109)).heap.size = w.heap.size + 2 by simp] at this
  have al := (((Below.refl w.heap.size w).alloc (Nat.le_refl _) (.cells #[.int .u32 l] 109)).alloc (by simp) (.cells #[.int .u32 p] 109)).alloc (by simp; omega) (.cells #[.int .i64 k] 3)
  have h1 := h.below al (Nat.le_refl _)
  have hgl := h.B.lt
  have hbl' := fun i (hi : blkOf v0 = some i) => (h.q.lt hi).2
  clear h
  have hz : ((L.length : Int) == 0) = false := beq_eq_false_iff_ne.2 (by omega)
  go_enter Try.func70, Try.ntmps70
  go_upto_region 1 with fail
  obtain ⟨w1, hw1⟩ : ∃ w1, ((w.alloc (.cells #[.int .u32 l] 109)).alloc (.cells #[.int .u32 p] 109)).alloc (.cells #[.int .i64 k] 3) = w1 := ⟨_, rfl⟩
  rw [hw1] at Lb Pb K al h1
  try rw [hw1]
  clear hw1
  go_wp2_with fail
  refine (many_g h1).mono ?_
  rintro e w2 ⟨rfl, hw2⟩
  obtain rfl : w1 = w2 := hw2.symm
  obtain ⟨S0, hS0⟩ : ∃ S0, stays l p k 0 L = S0 := ⟨_, rfl⟩
  have hst := staying_g h1 hl l p k _ _ _ K Lb Pb
  have hS8 := stays_len l p k L 0
  rw [hS0] at hst hS8
  have HS0 := Lib.hid hS0
  clear hS0
  go_wp2_with fail
  refine hst.mono ?_
  rintro e w3 ⟨rfl, b3⟩
  have h3 := h1.below b3 (Nat.le_refl _)
  have bel3 := al.trans (b3.mono al.size)
  clear hst h1 Lb Pb K al b3
  have A4 := Blk.new w3 217 #[.int .i64 0, .int .i64 0, .int .i64 0, .int .i64 0, .int .i64 0, .int .i64 0, .int .i64 0, .int .i64 0]
  have al4 := (Below.refl w3.heap.size w3).alloc (Nat.le_refl _) (.cells #[.int .i64 0, .int .i64 0, .int .i64 0, .int .i64 0, .int .i64 0, .int .i64 0, .int .i64 0, .int .i64 0] 217)
  have h4 := h3.below al4 (Nat.le_refl _)
  have bel4 := bel3.trans (al4.mono bel3.size)
  have h3l := h3.B.lt
  have hbl := fun i (hi : blkOf v0 = some i) => (h3.q.lt hi).2
  have s4 : (w3.alloc (.cells #[.int .i64 0, .int .i64 0, .int .i64 0, .int .i64 0, .int .i64 0, .int .i64 0, .int .i64 0, .int .i64 0] 217)).heap.size = w3.heap.size + 1 := by simp
  have hs3 := bel3.size
  clear al4 h3 bel3
  obtain ⟨Q8, hQ8⟩ : ∃ Q8, arr8 S0 = Q8 := ⟨_, rfl⟩
  have szQ : (Try.prog.info? 217).map (·.size) = some Q8.size := by rw [← hQ8]; exact szA S0 (by omega)
  have h8 : Q8.size = 8 := by rw [← hQ8]; exact arr8_size (by omega)
  have oneQ : Q8.all (·.oneCell') = true := by rw [← hQ8]; exact arr8_one S0
  have HQ := Lib.hid hQ8
  rw [hQ8]
  clear hQ8
  go_upto_region 5 with (refine wpList_store_row rfl 217 _ _ rfl _ Q8 rfl rfl _ _ A4 szQ (by rw [h8]; rfl) oneQ ?_)
  have A5 : Blk ((w3.alloc (.cells #[.int .i64 0, .int .i64 0, .int .i64 0, .int .i64 0, .int .i64 0, .int .i64 0, .int .i64 0, .int .i64 0] 217)).setRow w3.heap.size Q8) w3.heap.size 217 Q8 := setRow_heap _ _ _ _ _ _ A4
  have bel5 := below_setRow bel4 hs3 Q8
  have h5 := h4.old (below_setRow (Below.refl w3.heap.size (w3.alloc (.cells #[.int .i64 0, .int .i64 0, .int .i64 0, .int .i64 0, .int .i64 0, .int .i64 0, .int .i64 0, .int .i64 0] 217))) (Nat.le_refl _) Q8) h3l hbl
  have F5 : Fr g v0 w ((w3.alloc (.cells #[.int .i64 0, .int .i64 0, .int .i64 0, .int .i64 0, .int .i64 0, .int .i64 0, .int .i64 0, .int .i64 0] 217)).setRow w3.heap.size Q8) := Fr.of_below bel5
  clear A4 h4 bel4 s4
  obtain ⟨wz, hwz⟩ : ∃ wz, (w3.alloc (.cells #[.int .i64 0, .int .i64 0, .int .i64 0, .int .i64 0, .int .i64 0, .int .i64 0, .int .i64 0, .int .i64 0] 217)).setRow w3.heap.size Q8 = wz := ⟨_, rfl⟩
  rw [hwz] at A5 bel5 h5 F5
  try rw [hwz]
  clear hwz
  obtain ⟨ab, hab⟩ : ∃ ab, w3.heap.size = ab := ⟨_, rfl⟩
  rw [hab] at A5 h3l hbl hs3
  try rw [hab]
  clear hab
  have habg : ab ≠ g := by omega
  by_cases hn : S0 = []
  · subst hn
    rw [← HQ.out] at A5
    have hPl8 : [f].length ≤ 8 := by simp
    have hPlt : ∀ q ∈ [f], q < L.length := fun q hq => by simp at hq; omega
    have hPne : [f] ≠ [] := by simp
    have hlf : leftO L f l p k = [f] := by unfold leftO; rw [HS0.out, if_pos rfl]
    have HLF := Lib.hid hlf
    have A6 : Blk (wz.setCell ⟨ab, 0, none⟩ (.int .i64 (f : Nat))) ab 217 (arr8 [f]) := by
      have := A5.set_ 0 (.int .i64 (f : Nat))
      rwa [show (arr8 []).setIfInBounds 0 (.int .i64 (f : Nat)) = arr8 [f] from arr8_set (P := []) (by simp) f] at this
    have c1 : wz.cell? ⟨g, 1, none⟩ = some (.int .i64 (f : Nat)) := h5.B.cell 1
    have ac : wz.cell? ⟨ab, 0, none⟩ = some (.int .i64 0) := (A5.cell 0).trans (by rw [arr8_nil]; rfl)
    have af : wz.frozen? ⟨ab, 0, none⟩ = false := A5.frozen 0
    have b6 : Below ab wz (wz.setCell ⟨ab, 0, none⟩ (.int .i64 (f : Nat))) := (Below.refl ab wz).setCell (p := ⟨ab, 0, none⟩) (Nat.le_refl _) _
    have HZ := Lib.hid (And.intro (h5.old b6 h3l hbl) (And.intro A6 (And.intro ((bel5.mono hb0).setCell (p := ⟨ab, 0, none⟩) (show b0 ≤ ab by omega) (.int .i64 (f : Nat))) (Fr.of_below (g := g) (v := v0) (bel5.setCell (p := ⟨ab, 0, none⟩) hs3 (.int .i64 (f : Nat)))))))
    clear A5 A6 h5 bel5 F5 b6 hlf
    go_upto_region 7 with fail
    obtain ⟨wy, hwy⟩ : ∃ wy, wz.setCell ⟨ab, 0, none⟩ (.int .i64 (f : Nat)) = wy := ⟨_, rfl⟩
    rw [hwy] at HZ
    try rw [hwy]
    clear hwy c1 ac af
    have hszy : w.heap.size ≤ wy.heap.size := HZ.out.2.2.2.size
    have hm8 : [f].length ≤ 8 := hPl8
    have hm1 : (([f].length : Nat) : Int) ≤ 8 := by omega
    have hm0 : (0 : Int) ≤ (([f].length : Nat) : Int) := by omega
    have hkeep := keep_g HZ.out.1 (by omega) [f] hPlt hm8 HZ.out.2.1 habg
    go_wp2_with fail
    refine hkeep.mono ?_
    rintro e w8 ⟨rfl, ⟨v8, P8, hv8⟩, b8, F8⟩
    have A8 : Blk w8 ab 217 (arr8 [f]) := (F8.block ab HZ.out.2.1.lt habg (fun e => by have := hbl _ e; omega)).trans HZ.out.2.1
    have hG8 : b0 ≤ w8.heap.size := by have := P8.B.lt; have := P8.hg; omega
    have hcl := clone_ints (qo_arr A8 hm8 (Nat.le_refl ab)) (List.length_pos_iff.2 hPne) (by omega) (cellsI_one [f])
    have HE := Lib.hid (And.intro P8 (And.intro (HZ.out.2.2.1.trans b8) (HZ.out.2.2.2.trans F8)))
    have hszw : w.heap.size ≤ w8.heap.size := Nat.le_trans HZ.out.2.2.2.size F8.size
    clear P8 b8 F8 A8 hkeep
    go_wp2_with fail
    refine hcl.mono ?_
    rintro e w9 ⟨⟨v9, rfl, q9⟩, b9⟩
    obtain ⟨o9, c9, hv9, _, _⟩ := q9.shape
    subst hv9
    have hE : Qo w9 w.heap.size 1 (.slice o9 [f].length c9) [f].length (cellsI [f]) := q9.weaken hszw
    have PE := HE.out.1.below b9 (Nat.le_refl _)
    have HV8 := Lib.hid hv8
    clear hv8
    have HF := Lib.hid (And.intro hE (And.intro PE (And.intro (HE.out.2.1.trans (b9.mono hG8)) (HE.out.2.2.then_ b9))))
    clear q9 b9 hE PE hcl
    go_wp2_with fail
    go_ret
    unfold DropP
    rw [HLF.out]
    exact ⟨_, rfl, HF.out.1, ⟨_, HF.out.2.1, fun i hi => Nat.le_trans hszy (HV8.out i hi)⟩, HF.out.2.2.1, HF.out.2.2.2⟩
  · have hPl8 : S0.length ≤ 8 := by omega
    have hPlt : ∀ q ∈ S0, q < L.length := fun q hq => by
      have := stays_lt l p k L 0 q (by rw [HS0.out]; exact hq)
      omega
    have hPne : S0 ≠ [] := hn
    have hlf : leftO L f l p k = S0 := by unfold leftO; rw [HS0.out, if_neg hn]
    have HLF := Lib.hid hlf
    have hln := List.length_pos_iff.2 hn
    have hz2 : ((S0.length : Int) == 0) = false := beq_eq_false_iff_ne.2 (by omega)
    have hz3 : ¬ (S0.length : Int) = 0 := by omega
    rw [← HQ.out] at A5
    have HZ := Lib.hid (And.intro h5 (And.intro A5 (And.intro (bel5.mono hb0) F5)))
    have hszy : w.heap.size ≤ wz.heap.size := bel5.size
    clear A5 h5 bel5 F5 hlf
    have hm8 : S0.length ≤ 8 := hPl8
    have hm1 : ((S0.length : Nat) : Int) ≤ 8 := by omega
    have hm0 : (0 : Int) ≤ ((S0.length : Nat) : Int) := by omega
    have hkeep := keep_g HZ.out.1 (by omega) S0 hPlt hm8 HZ.out.2.1 habg
    go_wp2_with fail
    refine hkeep.mono ?_
    rintro e w8 ⟨rfl, ⟨v8, P8, hv8⟩, b8, F8⟩
    have A8 : Blk w8 ab 217 (arr8 S0) := (F8.block ab HZ.out.2.1.lt habg (fun e => by have := hbl _ e; omega)).trans HZ.out.2.1
    have hG8 : b0 ≤ w8.heap.size := by have := P8.B.lt; have := P8.hg; omega
    have hcl := clone_ints (qo_arr A8 hm8 (Nat.le_refl ab)) (List.length_pos_iff.2 hPne) (by omega) (cellsI_one S0)
    have HE := Lib.hid (And.intro P8 (And.intro (HZ.out.2.2.1.trans b8) (HZ.out.2.2.2.trans F8)))
    have hszw : w.heap.size ≤ w8.heap.size := Nat.le_trans HZ.out.2.2.2.size F8.size
    clear P8 b8 F8 A8 hkeep
    go_wp2_with fail
    refine hcl.mono ?_
    rintro e w9 ⟨⟨v9, rfl, q9⟩, b9⟩
    obtain ⟨o9, c9, hv9, _, _⟩ := q9.shape
    subst hv9
    have hE : Qo w9 w.heap.size 1 (.slice o9 S0.length c9) S0.length (cellsI S0) := q9.weaken hszw
    have PE := HE.out.1.below b9 (Nat.le_refl _)
    have HV8 := Lib.hid hv8
    clear hv8
    have HF := Lib.hid (And.intro hE (And.intro PE (And.intro (HE.out.2.1.trans (b9.mono hG8)) (HE.out.2.2.then_ b9))))
    clear q9 b9 hE PE hcl
    go_wp2_with fail
    go_ret
    unfold DropP
    rw [HLF.out]
    exact ⟨_, rfl, HF.out.1, ⟨_, HF.out.2.1, fun i hi => Nat.le_trans hszy (HV8.out i hi)⟩, HF.out.2.2.1, HF.out.2.2.2⟩
end
end Go.Proofs.Ythddacgdmngfhaa.pat
