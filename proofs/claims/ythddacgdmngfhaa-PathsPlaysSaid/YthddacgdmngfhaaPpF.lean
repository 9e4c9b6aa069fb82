/- Layer 15: paths kept, dropped (gen-ppf.py wrote this). -/
import Derived.Test.YthddacgdmngfhaaPpE
namespace Go.Proofs.Ythddacgdmngfhaa.pat
open Go.Sort (grow)
open Go.ChangeShapes Go.WideShapes Go.ChangeAt Go.RowKit kit
set_option maxRecDepth 100000

section
variable {b0 g f : Nat} {L : List Px} {w w' : World}
theorem Pw.old {v0 : Value} (h : Pw b0 g L f v0 w) {B : Nat} (hb : Below B w w') (hg : g < B) (hv : ∀ i, blkOf v0 = some i → i < B) : Pw b0 g L f v0 w' := ⟨h.B.below hb hg, h.q.block hb.size fun i hi => hb.block i (hv i hi), h.hg, h.hn⟩
theorem qo_arr {P : List Nat} {ab b1 : Nat} (A : Blk w ab 217 (arr8 P)) (hl : P.length ≤ 8) (hb : b1 ≤ ab) : Qo w b1 1 (.slice (some ⟨ab, 0, none⟩) P.length 8) P.length (cellsI P) := by
  refine ⟨by simp [cellsI], _, 8, rfl, hl, by unfold maxLen; omega, fun _ => ⟨ab, 0, rfl, hb, A.lt, fun j hj => ?_, fun j hj => ?_⟩⟩
  · rw [Nat.zero_add]
    exact ⟨by rw [A.cell j, Array.getElem?_eq_getElem (by rw [arr8_size hl]; omega)]; rfl, A.frozen j⟩
  · rw [Nat.zero_add, A.cell j, arr8_get j (by omega)]
    unfold cellsI
    rw [List.getElem?_map, List.getElem?_eq_getElem (by omega)]
    rfl
set_option maxHeartbeats 4000000 in
theorem keep_g {v0 : Value} (h : Pw b0 g L f v0 w) (hb0 : b0 ≤ w.heap.size) (P : List Nat) (hP : ∀ q ∈ P, q < L.length) (hl : P.length ≤ 8) {ab : Nat} (A : Blk w ab 217 (arr8 P)) (hag : ab ≠ g) : Calls Try.prog 117 #[.pointer (some ⟨g, 0, none⟩), .slice (some ⟨ab, 0, none⟩) P.length 8] w fun e w' => e = .returned (.tuple #[]) ∧ (∃ v', Pw b0 g (pickL L P) (atO f P 0 0) v' w' ∧ ∀ i, blkOf v' = some i → w.heap.size ≤ i) ∧ Below b0 w w' ∧ Fr g v0 w w' := by
  obtain ⟨oa, cap, hv, _, _⟩ := h.q.shape
  subst hv
  have hgl := h.B.lt
  have hal := A.lt
  have hbl := fun i (hi : blkOf (.slice oa L.length cap) = some i) => (h.q.lt hi).2
  have hbg := h.hg
  obtain ⟨B0, hB0⟩ : ∃ B0, w.heap.size = B0 := ⟨_, rfl⟩
  have HB0 := Lib.hid hB0
  rw [hB0] at hb0 hgl hal hbl
  clear hB0
  have HP := Lib.hid (And.intro h (And.intro A hP))
  clear h A hP
  go_enter Try.func117, Try.ntmps117
  go_wp2_with fail
  go_loopw [4, 5, 10] (fun s4 s5 s10 wr => ∃ (i : Nat) (ol : Option Addr) (cl : Nat), s10 = .int .i64 (i : Nat) ∧ i ≤ P.length ∧ s4 = .slice ol (pickL L (P.take i)).length cl ∧ s5 = .int .i64 (atO f (P.take i) 0 0 : Nat) ∧ Qo wr B0 15 (.slice ol (pickL L (P.take i)).length cl) (pickL L (P.take i)).length (cellsX (pickL L (P.take i))) ∧ Pw b0 g L f (.slice oa L.length cap) wr ∧ Blk wr ab 217 (arr8 P) ∧ Below B0 w wr) (fun _ _ s10 _ => P.length - (intOf s10).toNat)
  case atStart => exact ⟨0, none, 0, rfl, Nat.zero_le _, rfl, rfl, Qo.nil _ _ _, HP.out.1, HP.out.2.1, Below.refl _ _⟩
  case round =>
    obtain ⟨i, ol, cl, rfl, hi, rfl, rfl, ql, Pv, A, bel⟩ := hrel
    by_cases hlt : i < P.length
    · have hii : (i : Int) < (P.length : Int) := by omega
      have hi0 : (0 : Int) ≤ (i : Int) := by omega
      obtain ⟨q, hq⟩ : ∃ q, P[i]? = some q := ⟨_, List.getElem?_eq_getElem hlt⟩
      have hql : q < L.length := HP.out.2.2 q (List.mem_of_getElem? hq)
      obtain ⟨x, hx⟩ : ∃ x, L[q]? = some x := ⟨_, List.getElem?_eq_getElem hql⟩
      have htk : P.take (i + 1) = P.take i ++ [q] := by rw [List.take_add_one, hq]; rfl
      have htl : (P.take i).length = i := by rw [List.length_take]; omega
      have hpk : pickL L (P.take (i + 1)) = pickL L (P.take i) ++ [x] := by rw [htk]; exact pickL_snoc hx
      have hat : atO f (P.take (i + 1)) 0 0 = if q = f then i else atO f (P.take i) 0 0 := by rw [htk, atO_snoc, htl, Nat.zero_add]
      have hlp : (pickL L (P.take i)).length = i := by rw [pickL_len (fun y hy => HP.out.2.2 y (List.mem_of_mem_take hy)), htl]
      have a0 : wr.cell? ⟨ab, i, none⟩ = some (.int .i64 (q : Nat)) := (A.cell i).trans (by rw [arr8_get i hlt]; rw [List.getElem?_eq_getElem hlt] at hq; cases hq; rfl)
      obtain ⟨hh, off, rfl, hhl, hbh, hblk, X⟩ := row_at Pv.q rfl hx
      have c0 : wr.cell? ⟨g, 0, none⟩ = some (.slice (some ⟨hh, off, none⟩) L.length cap) := Pv.B.cell 0
      have hq0 : (0 : Int) ≤ (q : Int) := by omega
      have hq1 : (q : Int) < (L.length : Int) := by omega
      have szX : (Try.prog.info? 113).map (·.size) = some (#[.int .u32 x.a, .int .u32 x.b, .int .i64 x.s, .int .i64 0, .int .i64 0, .int .i64 0, .int .i64 30, .bool false, .int .i64 1800, .int .i64 60000, .int .i64 0, .int .i64 0, .int .i64 0, .int .u32 0, .int .i64 0] : Array Value).size := by show _ = some 15; kernel_rfl
      have al := (Below.refl wr.heap.size wr).alloc (Nat.le_refl _) (.cells #[.int .u32 x.a, .int .u32 x.b, .int .i64 x.s, .int .i64 0, .int .i64 0, .int .i64 0, .int .i64 30, .bool false, .int .i64 1800, .int .i64 60000, .int .i64 0, .int .i64 0, .int .i64 0, .int .u32 0, .int .i64 0] 113)
      have srcI := src_item (P := Try.prog) (SL := 115) (sz := 15) Try.underlying115 (Blk.new wr 113 #[.int .u32 x.a, .int .u32 x.b, .int .i64 x.s, .int .i64 0, .int .i64 0, .int .i64 0, .int .i64 30, .bool false, .int .i64 1800, .int .i64 60000, .int .i64 0, .int .i64 0, .int .i64 0, .int .u32 0, .int .i64 0]) (px_one x) rfl
      have hgr : B0 ≤ wr.heap.size := by have := bel.size; rw [HB0.out] at this; exact this
      obtain ⟨i0, hi0', hz0, hz1, hz2⟩ := info_parts infoP
      obtain ⟨v9, w9, hr9, q9, gr9, ha9⟩ := qo_append (P := Try.prog) (t := 115) (ty := 115) Try.underlying115 hi0' hz0 hz1 hz2 rfl (ql.below al (Nat.le_refl _)) srcI (by unfold maxLen; omega) (by omega) (by have := al.size; omega)
      have b9 : Below B0 wr w9 := (al.mono hgr).grown gr9 (by have := al.size; omega) (fun k hk => ((ql.below al (Nat.le_refl _)).lt hk).1)
      have P9 := Pv.old b9 hgl hbl
      have A9 := A.below b9 hal
      have q9' : Qo w9 B0 15 v9 (pickL L (P.take (i + 1))).length (cellsX (pickL L (P.take (i + 1)))) := by
        rw [hpk, cellsX_append, List.length_append]
        simpa [cellsX, px, pth] using q9
      obtain ⟨o9, c9, hv9, _, _⟩ := q9'.shape
      subst hv9
      have hl9 : (pickL L (P.take (i + 1))).length = i + 1 := by rw [hpk, List.length_append, hlp]; rfl
      have HE := Lib.hid (And.intro q9' (And.intro P9 (And.intro A9 (And.intro (bel.trans b9) (And.intro hat hl9)))))
      have d1 : w9.cell? ⟨g, 1, none⟩ = some (.int .i64 (f : Nat)) := P9.B.cell 1
      rw [hl9] at hr9
      rw [hlp] at hr9 ⊢
      have hq' : ((q : Nat) : Int) = ((f : Nat) : Int) ↔ q = f := by omega
      obtain ⟨at0, hat0⟩ : ∃ at0, atO f (P.take i) 0 0 = at0 := ⟨_, rfl⟩
      rw [hat0]
      have HAT := Lib.hid hat0
      clear ql Pv A bel al srcI q9 gr9 ha9 b9 P9 A9 q9' hpk hat htk htl hq hx hat0 hi0' hz0 hz1 hz2 hl9 hlp
      go_upto_region 6 with (first | (refine wpList_load_at rfl 113 _ rfl hh (off + q * 15) rfl #[.int .u32 x.a, .int .u32 x.b, .int .i64 x.s, .int .i64 0, .int .i64 0, .int .i64 0, .int .i64 30, .bool false, .int .i64 1800, .int .i64 60000, .int .i64 0, .int .i64 0, .int .i64 0, .int .u32 0, .int .i64 0] _ X Try.underlying113 rfl szX ?_) | (at_builtin; refine wpList_append_q rfl _ _ _ rfl rfl rfl hr9 ?_))
      clear hr9 X c0 a0
      by_cases hqf : q = f
      · have hqf' : ((q : Nat) : Int) = ((f : Nat) : Int) := by omega
        have HQ := Lib.hid hqf
        clear hqf
        go_wp2_with fail
        go_roundw
        case rel => exact ⟨i + 1, o9, c9, by go_num, by omega, by rw [HE.out.2.2.2.2.2], by rw [HE.out.2.2.2.2.1, if_pos HQ.out], HE.out.1, HE.out.2.1, HE.out.2.2.1, HE.out.2.2.2.1⟩
        case measure => simp [intOf]; omega
      · have hqf' : ¬ ((q : Nat) : Int) = ((f : Nat) : Int) := by omega
        have HQ := Lib.hid hqf
        clear hqf
        go_wp2_with fail
        go_roundw
        case rel => exact ⟨i + 1, o9, c9, by go_num, by omega, by rw [HE.out.2.2.2.2.2], by rw [HE.out.2.2.2.2.1, if_neg HQ.out, HAT.out], HE.out.1, HE.out.2.1, HE.out.2.2.1, HE.out.2.2.2.1⟩
        case measure => simp [intOf]; omega
    · obtain rfl : i = P.length := by omega
      rw [List.take_length] at ql ⊢
      have c0 : wr.cell? ⟨g, 0, none⟩ = some (.slice oa L.length cap) := Pv.B.cell 0
      have f0 : wr.frozen? ⟨g, 0, none⟩ = false := Pv.B.frozen 0
      have hvg : blkOf (.slice ol (pickL L P).length cl) ≠ some g := fun e => by have := (ql.lt e).1; omega
      have B1 := Pv.B.set_ 0 (.slice ol (pickL L P).length cl)
      have c1 : (wr.setCell ⟨g, 0, none⟩ (.slice ol (pickL L P).length cl)).cell? ⟨g, 1, none⟩ = some (.int .i64 (f : Nat)) := B1.cell 1
      have f1 : (wr.setCell ⟨g, 0, none⟩ (.slice ol (pickL L P).length cl)).frozen? ⟨g, 1, none⟩ = false := B1.frozen 1
      have hE : Pw b0 g (pickL L P) (atO f P 0 0) (.slice ol (pickL L P).length cl) ((wr.setCell ⟨g, 0, none⟩ (.slice ol (pickL L P).length cl)).setCell ⟨g, 1, none⟩ (.int .i64 (atO f P 0 0 : Nat))) := by
        exact ⟨B1.set_ 1 _, ((ql.far (p := ⟨g, 0, none⟩) hvg _).far (p := ⟨g, 1, none⟩) hvg _).weaken hb0, hbg, hvg⟩
      have bE : Below b0 w ((wr.setCell ⟨g, 0, none⟩ (.slice ol (pickL L P).length cl)).setCell ⟨g, 1, none⟩ (.int .i64 (atO f P 0 0 : Nat))) := ((bel.mono hb0).setCell (p := ⟨g, 0, none⟩) hbg _).setCell (p := ⟨g, 1, none⟩) hbg _
      have fE : Fr g (.slice oa L.length cap) w ((wr.setCell ⟨g, 0, none⟩ (.slice ol (pickL L P).length cl)).setCell ⟨g, 1, none⟩ (.int .i64 (atO f P 0 0 : Nat))) := ⟨bE.size, fun j hj h1 _ => (Below.heap_setCell _ ⟨g, 1, none⟩ _ j h1).trans ((Below.heap_setCell _ ⟨g, 0, none⟩ _ j h1).trans (bel.block j (by rw [← HB0.out]; exact hj)))⟩
      have hnv : ∀ i, blkOf (.slice ol (pickL L P).length cl) = some i → w.heap.size ≤ i := fun i hi => by rw [HB0.out]; exact (ql.lt hi).1
      have HE := Lib.hid (And.intro (And.intro hE hnv) (And.intro bE fE))
      clear hnv
      clear hE bE fE ql Pv A bel B1 hvg
      go_wp2_with fail
      go_end0
      exact ⟨rfl, ⟨_, HE.out.1.1, HE.out.1.2⟩, HE.out.2.1, HE.out.2.2⟩
end
end Go.Proofs.Ythddacgdmngfhaa.pat
