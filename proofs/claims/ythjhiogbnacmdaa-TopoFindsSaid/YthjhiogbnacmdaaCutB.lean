/- Layer 6: a chunk that is not too great, walked (gen-cut.py wrote this). -/
import Derived.Test.YthjhiogbnacmdaaCutA
namespace Go.Proofs.Ythjhiogbnacmdaa.cut
open Go.Sort (grow)
open Go.ChangeShapes Go.WideShapes Go.ChangeAt Go.RowKit kit
set_option maxRecDepth 100000

set_option maxHeartbeats 16000000 in
theorem cut06 (ty fl t st ss pr tg rw ou ii : Int) (d : ByteArray) (hd : d.size ≤ maxLen) (oP oC oG oD : Option Addr) (aP aC : Addr) (nP cP nC cC nG cG nD cD : Nat) (EP EC : Nat → Int × ByteArray) (B : Nat) (w : World) (hB : B ≤ w.heap.size) (hP : PR w B oP aP nP cP EP) (hC : PR w B oC aC nC cC EC) (hG1 : nG ≤ cG) (hG2 : cG ≤ maxLen) (hD1 : nD ≤ cD) (hD2 : cD ≤ maxLen) (hG3 : oG = none → cG = 0) (hD3 : oD = none → cD = 0) :
    Calls Try.prog 24 #[.agg (ccv ty fl t st ss pr tg rw ou ii d (.slice oP nP cP) (.slice oC nC cC) (.slice oG nG cG) (.slice oD nD cD))] w fun e w' => (∃ (d' : ByteArray) (o1 : Option Addr) (n1 c1 : Nat) (o2 : Option Addr) (n2 c2 : Nat) (o3 : Option Addr) (n3 c3 : Nat) (o4 : Option Addr) (n4 c4 : Nat), e = .returned (.agg (ccv ty fl t st ss pr tg rw ou ii d' (.slice o1 n1 c1) (.slice o2 n2 c2) (.slice o3 n3 c3) (.slice o4 n4 c4)))) ∧ Below w.heap.size w w' := by
  have HP := Lib.hid hP
  have HC := Lib.hid hC
  have HD := Lib.hid (And.intro hd (And.intro hG1 (And.intro hG2 (And.intro hD1 hD2))))
  obtain ⟨mG, hmG⟩ : ∃ m, min nG 18 = m := ⟨_, rfl⟩
  obtain ⟨mD, hmD⟩ : ∃ m, min nD 18 = m := ⟨_, rfl⟩
  obtain ⟨og, cg, hsg⟩ := slice_g oG nG cG mG (by omega) hG1 hG2 hG3
  obtain ⟨od, cd, hsd⟩ := slice_d oD nD cD mD (by omega) hD1 hD2 hD3
  have HSL := Lib.hid (And.intro hmG (And.intro hmD (And.intro hsg hsd)))
  clear hP hC hd hG1 hG2 hD1 hD2 hG3 hD3 hmG hmD hsg hsd
  obtain ⟨G, hG⟩ : ∃ G, w.heap.size = G := ⟨_, rfl⟩
  have HGG := Lib.hid hG
  have hPB : ∀ w' : World, Below G w w' → Below B w w' := fun w' h => h.mono (by omega)
  have X1 := ((Blk.new w 65 #[.int .i64 ty, .int .i64 fl, .int .u32 t, .int .i64 st, .int .i64 ss, .int .u32 pr, .string d, .int .u32 tg, .int .u32 rw, .int .i64 ou, .int .i64 ii, .slice oP nP cP, .slice oC nC cC, .slice oG nG cG, .slice oD nD cD]).alloc (.cells #[.int .i64 0, .int .i64 0, .int .u32 0, .int .i64 0, .int .i64 0, .int .u32 0, .string ⟨#[]⟩, .int .u32 0, .int .u32 0, .int .i64 0, .int .i64 0, .slice none 0 0, .slice none 0 0, .slice none 0 0, .slice none 0 0] 65)).alloc (.cells #[.int .i64 ty, .int .i64 fl, .int .u32 t, .int .i64 st, .int .i64 ss, .int .u32 pr, .string d, .int .u32 tg, .int .u32 rw, .int .i64 ou, .int .i64 ii, .slice oP nP cP, .slice oC nC cC, .slice oG nG cG, .slice oD nD cD] 65)
  have X0 := (Blk.new w 65 #[.int .i64 ty, .int .i64 fl, .int .u32 t, .int .i64 st, .int .i64 ss, .int .u32 pr, .string d, .int .u32 tg, .int .u32 rw, .int .i64 ou, .int .i64 ii, .slice oP nP cP, .slice oC nC cC, .slice oG nG cG, .slice oD nD cD]).alloc (.cells #[.int .i64 0, .int .i64 0, .int .u32 0, .int .i64 0, .int .i64 0, .int .u32 0, .string ⟨#[]⟩, .int .u32 0, .int .u32 0, .int .i64 0, .int .i64 0, .slice none 0 0, .slice none 0 0, .slice none 0 0, .slice none 0 0] 65)
  have R1 := (blk_new2 w (.cells #[.int .i64 ty, .int .i64 fl, .int .u32 t, .int .i64 st, .int .i64 ss, .int .u32 pr, .string d, .int .u32 tg, .int .u32 rw, .int .i64 ou, .int .i64 ii, .slice oP nP cP, .slice oC nC cC, .slice oG nG cG, .slice oD nD cD] 65) 65 #[.int .i64 0, .int .i64 0, .int .u32 0, .int .i64 0, .int .i64 0, .int .u32 0, .string ⟨#[]⟩, .int .u32 0, .int .u32 0, .int .i64 0, .int .i64 0, .slice none 0 0, .slice none 0 0, .slice none 0 0, .slice none 0 0]).alloc (.cells #[.int .i64 ty, .int .i64 fl, .int .u32 t, .int .i64 st, .int .i64 ss, .int .u32 pr, .string d, .int .u32 tg, .int .u32 rw, .int .i64 ou, .int .i64 ii, .slice oP nP cP, .slice oC nC cC, .slice oG nG cG, .slice oD nD cD] 65)
  have O1 := Blk.new ((w.alloc (.cells #[.int .i64 ty, .int .i64 fl, .int .u32 t, .int .i64 st, .int .i64 ss, .int .u32 pr, .string d, .int .u32 tg, .int .u32 rw, .int .i64 ou, .int .i64 ii, .slice oP nP cP, .slice oC nC cC, .slice oG nG cG, .slice oD nD cD] 65)).alloc (.cells #[.int .i64 0, .int .i64 0, .int .u32 0, .int .i64 0, .int .i64 0, .int .u32 0, .string ⟨#[]⟩, .int .u32 0, .int .u32 0, .int .i64 0, .int .i64 0, .slice none 0 0, .slice none 0 0, .slice none 0 0, .slice none 0 0] 65)) 65 #[.int .i64 ty, .int .i64 fl, .int .u32 t, .int .i64 st, .int .i64 ss, .int .u32 pr, .string d, .int .u32 tg, .int .u32 rw, .int .i64 ou, .int .i64 ii, .slice oP nP cP, .slice oC nC cC, .slice oG nG cG, .slice oD nD cD]
  have bel1 := (((Below.refl w.heap.size w).alloc (Nat.le_refl _) (.cells #[.int .i64 ty, .int .i64 fl, .int .u32 t, .int .i64 st, .int .i64 ss, .int .u32 pr, .string d, .int .u32 tg, .int .u32 rw, .int .i64 ou, .int .i64 ii, .slice oP nP cP, .slice oC nC cC, .slice oG nG cG, .slice oD nD cD] 65)).alloc (by simp) (.cells #[.int .i64 0, .int .i64 0, .int .u32 0, .int .i64 0, .int .i64 0, .int .u32 0, .string ⟨#[]⟩, .int .u32 0, .int .u32 0, .int .i64 0, .int .i64 0, .slice none 0 0, .slice none 0 0, .slice none 0 0, .slice none 0 0] 65)).alloc (by simp; omega) (.cells #[.int .i64 ty, .int .i64 fl, .int .u32 t, .int .i64 st, .int .i64 ss, .int .u32 pr, .string d, .int .u32 tg, .int .u32 rw, .int .i64 ou, .int .i64 ii, .slice oP nP cP, .slice oC nC cC, .slice oG nG cG, .slice oD nD cD] 65)
  have hs1 : ((w.alloc (.cells #[.int .i64 ty, .int .i64 fl, .int .u32 t, .int .i64 st, .int .i64 ss, .int .u32 pr, .string d, .int .u32 tg, .int .u32 rw, .int .i64 ou, .int .i64 ii, .slice oP nP cP, .slice oC nC cC, .slice oG nG cG, .slice oD nD cD] 65)).alloc (.cells #[.int .i64 0, .int .i64 0, .int .u32 0, .int .i64 0, .int .i64 0, .int .u32 0, .string ⟨#[]⟩, .int .u32 0, .int .u32 0, .int .i64 0, .int .i64 0, .slice none 0 0, .slice none 0 0, .slice none 0 0, .slice none 0 0] 65)).heap.size = w.heap.size + 1 + 1 := by simp
  rw [hs1] at O1
  rw [hG] at X1 R1 O1 bel1 X0
  have szc : (Try.prog.info? 65).map (·.size) = some (#[.int .i64 ty, .int .i64 fl, .int .u32 t, .int .i64 st, .int .i64 ss, .int .u32 pr, .string d, .int .u32 tg, .int .u32 rw, .int .i64 ou, .int .i64 ii, .slice oP nP cP, .slice oC nC cC, .slice oG nG cG, .slice oD nD cD] : Array Value).size := by show _ = some 15; kernel_rfl
  unfold ccv
  go_enter Try.func24, Try.ntmps24
  go_upto_region 2 with (refine wpList_load_at rfl 65 _ rfl G 0 rfl #[.int .i64 ty, .int .i64 fl, .int .u32 t, .int .i64 st, .int .i64 ss, .int .u32 pr, .string d, .int .u32 tg, .int .u32 rw, .int .i64 ou, .int .i64 ii, .slice oP nP cP, .slice oC nC cC, .slice oG nG cG, .slice oD nD cD] _ (Cel.of_blk X0) Try.underlying65 rfl szc ?_)
  clear X0 hs1 szc
  obtain ⟨w1, hw1⟩ : ∃ w1, ((w.alloc (.cells #[.int .i64 ty, .int .i64 fl, .int .u32 t, .int .i64 st, .int .i64 ss, .int .u32 pr, .string d, .int .u32 tg, .int .u32 rw, .int .i64 ou, .int .i64 ii, .slice oP nP cP, .slice oC nC cC, .slice oG nG cG, .slice oD nD cD] 65)).alloc (.cells #[.int .i64 0, .int .i64 0, .int .u32 0, .int .i64 0, .int .i64 0, .int .u32 0, .string ⟨#[]⟩, .int .u32 0, .int .u32 0, .int .i64 0, .int .i64 0, .slice none 0 0, .slice none 0 0, .slice none 0 0, .slice none 0 0] 65)).alloc (.cells #[.int .i64 ty, .int .i64 fl, .int .u32 t, .int .i64 st, .int .i64 ss, .int .u32 pr, .string d, .int .u32 tg, .int .u32 rw, .int .i64 ou, .int .i64 ii, .slice oP nP cP, .slice oC nC cC, .slice oG nG cG, .slice oD nD cD] 65) = w1 := ⟨_, rfl⟩
  rw [hw1] at X1 R1 O1 bel1
  try rw [hw1]
  clear hw1
  obtain ⟨cb, rb, ob, b1, hcb, hrb, hob, h01, h12, h23, h34, h35, hb1⟩ : ∃ cb rb ob b1 : Nat, G = cb ∧ G + 1 = rb ∧ G + 1 + 1 = ob ∧ G ≤ cb ∧ cb < rb ∧ rb < ob ∧ ob < b1 ∧ b1 ≤ ob + 1 ∧ b1 ≤ w1.heap.size := ⟨G, G + 1, G + 1 + 1, G + 1 + 1 + 1, rfl, rfl, rfl, by omega, by omega, by omega, by omega, by omega, by have := O1.lt; omega⟩
  have X2 : Blk w1 cb 65 (ccv ty fl t st ss pr tg rw ou ii d (.slice oP nP cP) (.slice oC nC cC) (.slice oG nG cG) (.slice oD nD cD)) := by rw [← hcb]; exact X1
  have R2 : Blk w1 rb 65 (ccv 0 0 0 0 0 0 0 0 0 0 ⟨#[]⟩ (.slice none 0 0) (.slice none 0 0) (.slice none 0 0) (.slice none 0 0)) := by rw [← hrb]; exact R1
  have O2 : Blk w1 ob 65 (ccv ty fl t st ss pr tg rw ou ii d (.slice oP nP cP) (.slice oC nC cC) (.slice oG nG cG) (.slice oD nD cD)) := by rw [← hob]; exact O1
  clear X1 R1 O1
  have hdm := HD.out.1
  rw [hob, hrb, hcb]
  clear hcb hrb hob
  have c6 : w1.cell? ⟨cb, 6, none⟩ = some (.string d) := X2.cell 6
  have o6 : w1.cell? ⟨ob, 6, none⟩ = some (.string d) := O2.cell 6
  have o6f : w1.frozen? ⟨ob, 6, none⟩ = false := O2.frozen 6
  have hdI : (d.size : Int) ≤ 9223372036854775807 := by unfold maxLen at hdm; omega
  have hd0 : (0 : Int) ≤ (d.size : Int) := by omega
  clear hdm
  go_cut [] (fun wx => ∃ d' : ByteArray, wx = w1.setCell ⟨ob, 6, none⟩ (.string d'))
  case first =>
    by_cases h950 : (d.size : Int) ≤ 950
    all_goals
      go_wp2_with fail
      all_goals
        go_meet
        exact ⟨_, rfl⟩
  case rest =>
  obtain ⟨d', hwc⟩ := hcut
  obtain ⟨vP, hvP⟩ : ∃ vP : Value, .slice oP nP cP = vP := ⟨_, rfl⟩
  have O3 : Blk wc ob 65 (ccv ty fl t st ss pr tg rw ou ii d' (.slice oP nP cP) (.slice oC nC cC) (.slice oG nG cG) (.slice oD nD cD)) := by rw [hwc]; exact O2.set_ 6 _
  have X3 : Blk wc cb 65 (ccv ty fl t st ss pr tg rw ou ii d (.slice oP nP cP) (.slice oC nC cC) (.slice oG nG cG) (.slice oD nD cD)) := by rw [hwc]; exact X2.far (p := ⟨ob, 6, none⟩) (show cb ≠ ob by omega) _
  have R3 : Blk wc rb 65 (ccv 0 0 0 0 0 0 0 0 0 0 ⟨#[]⟩ (.slice none 0 0) (.slice none 0 0) (.slice none 0 0) (.slice none 0 0)) := by rw [hwc]; exact R2.far (p := ⟨ob, 6, none⟩) (show rb ≠ ob by omega) _
  have bel3 : Below G w wc := by rw [hwc]; exact bel1.setCell (p := ⟨ob, 6, none⟩) (show G ≤ ob by omega) _
  have hs3 : b1 ≤ wc.heap.size := by rw [hwc]; simpa [World.setCell] using hb1
  clear hwc O2 X2 R2 bel1 c6 o6 o6f hdI hd0 hb1 hvP
  clear vP
  generalize wc = w3 at *
  have f11 : w3.frozen? ⟨ob, 11, none⟩ = false := O3.frozen 11
  have f12 : w3.frozen? ⟨ob, 12, none⟩ = false := O3.frozen 12
  have o11 : w3.cell? ⟨ob, 11, none⟩ = some (.slice oP nP cP) := O3.cell 11
  have o12 : w3.cell? ⟨ob, 12, none⟩ = some (.slice oC nC cC) := O3.cell 12
  have hol := O3.lt
  have O4 := (((O3.set_ 11 (.slice (some ⟨w3.heap.size, 0, none⟩) 0 0)).set_ 12 (.slice (some ⟨w3.heap.size + 1, 0, none⟩) 0 0)).alloc (.cells #[] 88)).alloc (.cells #[] 90)
  have X4 := (((X3.far (p := ⟨ob, 11, none⟩) (show cb ≠ ob by omega) (.slice (some ⟨w3.heap.size, 0, none⟩) 0 0)).far (p := ⟨ob, 12, none⟩) (show cb ≠ ob by omega) (.slice (some ⟨w3.heap.size + 1, 0, none⟩) 0 0)).alloc (.cells #[] 88)).alloc (.cells #[] 90)
  have R4 := (((R3.far (p := ⟨ob, 11, none⟩) (show rb ≠ ob by omega) (.slice (some ⟨w3.heap.size, 0, none⟩) 0 0)).far (p := ⟨ob, 12, none⟩) (show rb ≠ ob by omega) (.slice (some ⟨w3.heap.size + 1, 0, none⟩) 0 0)).alloc (.cells #[] 88)).alloc (.cells #[] 90)
  have bel4 := (((bel3.setCell (p := ⟨ob, 11, none⟩) (show G ≤ ob by omega) (.slice (some ⟨w3.heap.size, 0, none⟩) 0 0)).setCell (p := ⟨ob, 12, none⟩) (show G ≤ ob by omega) (.slice (some ⟨w3.heap.size + 1, 0, none⟩) 0 0)).alloc (by simp [World.setCell]; omega) (.cells #[] 88)).alloc (by simp [World.setCell]; omega) (.cells #[] 90)
  have hs4 : b1 ≤ ((((w3.setCell ⟨ob, 11, none⟩ (.slice (some ⟨w3.heap.size, 0, none⟩) 0 0)).setCell ⟨ob, 12, none⟩ (.slice (some ⟨w3.heap.size + 1, 0, none⟩) 0 0)).alloc (.cells #[] 88)).alloc (.cells #[] 90)).heap.size := by simp [World.setCell]; omega
  clear O3 X3 R3 bel3
  go_upto_region 4 with fail
  clear f11 f12 o11 o12 hs3
  obtain ⟨k1, hk1⟩ : ∃ k1, w3.heap.size = k1 := ⟨_, rfl⟩
  rw [hk1] at O4 X4 R4 bel4 hs4
  rw [hk1]
  obtain ⟨k2, hk2⟩ : ∃ k2, k1 + 1 = k2 := ⟨_, rfl⟩
  rw [hk2] at O4 X4 R4 bel4 hs4
  rw [hk2]
  clear hol hk1 hk2
  obtain ⟨w4, hw4⟩ : ∃ w4, (((w3.setCell ⟨ob, 11, none⟩ (.slice (some ⟨k1, 0, none⟩) 0 0)).setCell ⟨ob, 12, none⟩ (.slice (some ⟨k2, 0, none⟩) 0 0)).alloc (.cells #[] 88)).alloc (.cells #[] 90) = w4 := ⟨_, rfl⟩
  rw [hw4] at O4 X4 R4 bel4 hs4
  try rw [hw4]
  clear hw4
  obtain ⟨vC, hvC⟩ : ∃ vC : Value, .slice (some ⟨k2, 0, none⟩) 0 0 = vC := ⟨_, rfl⟩
  have O5 : Blk w4 ob 65 (ccv ty fl t st ss pr tg rw ou ii d' (.slice (some ⟨k1, 0, none⟩) 0 0) vC (.slice oG nG cG) (.slice oD nD cD)) := by rw [← hvC]; exact O4
  have HVC := Lib.hid hvC
  clear hvC O4
  have hPB := Lib.hid (fun (w' : World) => hPB w')
  have HL := Lib.hid (And.intro (Qo.empty w4 b1 2 (some ⟨k1, 0, none⟩)) (And.intro O5 (And.intro X4 (And.intro R4 bel4))))
  clear O5 X4 R4 bel4 hs4
  go_upto_block 0 with fail
  go_cut [] (fun wx => ∃ (j : Nat) (v : Value) (xs : List Value), Qo wx b1 2 v j xs ∧ Blk wx ob 65 (ccv ty fl t st ss pr tg rw ou ii d' v vC (.slice oG nG cG) (.slice oD nD cD)) ∧ Blk wx cb 65 (ccv ty fl t st ss pr tg rw ou ii d (.slice oP nP cP) (.slice oC nC cC) (.slice oG nG cG) (.slice oD nD cD)) ∧ Blk wx rb 65 (ccv 0 0 0 0 0 0 0 0 0 0 ⟨#[]⟩ (.slice none 0 0) (.slice none 0 0) (.slice none 0 0) (.slice none 0 0)) ∧ Below G w wx)
  case first =>
    go_wp2_with fail
    go_loopw [4] (fun sj wr => ∃ (j : Nat) (v : Value) (xs : List Value), sj = .int .i64 (j : Nat) ∧ j ≤ nP ∧ j ≤ 18 ∧ Qo wr b1 2 v j xs ∧ Blk wr ob 65 (ccv ty fl t st ss pr tg rw ou ii d' v vC (.slice oG nG cG) (.slice oD nD cD)) ∧ Blk wr cb 65 (ccv ty fl t st ss pr tg rw ou ii d (.slice oP nP cP) (.slice oC nC cC) (.slice oG nG cG) (.slice oD nD cD)) ∧ Blk wr rb 65 (ccv 0 0 0 0 0 0 0 0 0 0 ⟨#[]⟩ (.slice none 0 0) (.slice none 0 0) (.slice none 0 0) (.slice none 0 0)) ∧ Below G w wr) (fun sj _ => nP - (intOf sj).toNat)
    case atStart => exact ⟨0, _, [], rfl, Nat.zero_le _, Nat.zero_le _, HL.out.1, HL.out.2.1, HL.out.2.2.1, HL.out.2.2.2.1, HL.out.2.2.2.2⟩
    case round =>
      rename World => w5
      clear HL
      obtain ⟨j, v, xs, rfl, hj, hj18, q5, O5, X5, R5, bel5⟩ := hrel
      have x11 : w5.cell? ⟨cb, 11, none⟩ = some (.slice oP nP cP) := X5.cell 11
      by_cases hlt : j < nP
      · have hii : (j : Int) < (nP : Int) := by omega
        have hj0 : (0 : Int) ≤ (j : Int) := by omega
        by_cases h18 : j < 18
        · have h18i : (j : Int) < 18 := by omega
          obtain rfl := HP.out.ho (by omega)
          obtain ⟨oq, cq, hvq, _, _⟩ := q5.shape
          subst hvq
          have PB := HP.out.below (hPB.out _ bel5)
          have hpc := PB.cell j hlt
          have hab := HP.out.hb (by omega)
          have he2 := HP.out.sz j hlt
          obtain ⟨⟨e1, e2⟩, hee⟩ : ∃ e, EP j = e := ⟨_, rfl⟩
          rw [hee] at hpc he2
          have p0 : w5.drew.cell? (aP.add (j * 2)) = some (.int .i64 e1) := by have := hpc 0 _ rfl; rw [add_zz] at this; exact this
          have p1 : w5.drew.cell? ⟨(aP.add (j * 2)).block, (aP.add (j * 2)).off + 1, none⟩ = some (.string e2) := by have := hpc 1 _ rfl; rw [add_zo] at this; exact this
          obtain ⟨k, hk⟩ : ∃ k, min e2.size 60 = k := ⟨_, rfl⟩
          have hk2 : k ≤ e2.size := by omega
          have he2 : e2.size ≤ maxLen := he2
          obtain ⟨i0, hi0, hz0, hz1, hz2⟩ := info_parts info11
          have hGs := bel5.size
          have hcbl := X5.lt
          have hrbl := R5.lt
          have hobl := O5.lt
          clear PB hpc hee
          go_upto_region 7 with fail
          clear x11
          refine wp_region_noPanic ?_
          have HS : ((fun v => v.cell? ⟨ob, 11, none⟩ = some (.slice oq j cq) ∧ v.cell? ⟨cb, 11, none⟩ = some (.slice (some aP) nP cP) ∧ v.cell? (aP.add (j * 2)) = some (.int .i64 e1) ∧ v.cell? ⟨(aP.add (j * 2)).block, (aP.add (j * 2)).off + 1, none⟩ = some (.string e2)) : World → Prop) w5.drew := ⟨O5.drew.cell 11, X5.drew.cell 11, p0, p1⟩
          refine begin_C (fun v => v.cell? ⟨ob, 11, none⟩ = some (.slice oq j cq) ∧ v.cell? ⟨cb, 11, none⟩ = some (.slice (some aP) nP cP) ∧ v.cell? (aP.add (j * 2)) = some (.int .i64 e1) ∧ v.cell? ⟨(aP.add (j * 2)).block, (aP.add (j * 2)).off + 1, none⟩ = some (.string e2)) 27 (by kernel_rfl) ?_
          obtain ⟨w6, hw6⟩ : ∃ w6, w5.drew = w6 := ⟨_, rfl⟩
          have O6 := O5.drew
          have X6 := X5.drew
          have R6 := R5.drew
          have q6 := q5.drew
          have bel6 := bel5.drew
          rw [hw6] at O6 X6 R6 q6 bel6 HS
          rw [hw6]
          clear hw6 O5 X5 R5 q5 bel5 p0 p1
          refine abs_C _ (fun ac hac => ?_)
          have hsz : ac.tmps.size = 112 := by rw [hac]; rfl
          have e1' : ac.eval (.tmp 1) = .pointer (some ⟨cb, 0, none⟩) := by rw [hac]; rfl
          have e3' : ac.eval (.tmp 3) = .pointer (some ⟨ob, 0, none⟩) := by rw [hac]; rfl
          have ej' : ac.eval (.tmp 4) = .int .i64 (j : Nat) := by rw [hac]; rfl
          have HB := Lib.hid hac
          clear hac
          have EV := And.intro @Act.eval_put_ne (And.intro @Act.eval_put_same (And.intro @Act.size_put (And.intro hsz (And.intro e1' (And.intro e3' ej')))))
          refine take_Y (i := 0) (u := .pointer (some ⟨ob, 11, none⟩)) rfl (by kernel_rfl) (by kernel_rfl) (by kernel_rfl) (by decide) rfl rfl (fun _ _ _ h => h) HS (fun v => run_field (s := .pointer (some ⟨ob, 0, none⟩)) rfl (by simp [EV]) (by kernel_rfl)) ?_
          refine take_C (i := 1) [25] (u := .slice oq j cq) rfl (by kernel_rfl) (by kernel_rfl) (by kernel_rfl) (by kernel_rfl) (by kernel_rfl) (by decide) rfl rfl (fun _ _ _ h => h) HS (fun v hv => run_load1 (s := .pointer (some ⟨ob, 11, none⟩)) rfl (by simp [EV]) (by have c : v.cell? ⟨ob, 11, none⟩ = some (.slice oq j cq) := hv.1; go_simp)) ?_
          refine take_Y (i := 2) (u := .pointer (some ⟨cb, 11, none⟩)) rfl (by kernel_rfl) (by kernel_rfl) (by kernel_rfl) (by decide) rfl rfl (fun _ _ _ h => h) HS (fun v => run_field (s := .pointer (some ⟨cb, 0, none⟩)) rfl (by simp [EV]) (by kernel_rfl)) ?_
          refine take_C (i := 3) [5, 6, 7, 23, 24, 25] (u := .slice (some aP) nP cP) rfl (by kernel_rfl) (by kernel_rfl) (by kernel_rfl) (by kernel_rfl) (by kernel_rfl) (by decide) rfl rfl (fun _ _ _ h => h) HS (fun v hv => run_load1 (s := .pointer (some ⟨cb, 11, none⟩)) rfl (by simp [EV]) (by have c : v.cell? ⟨cb, 11, none⟩ = some (.slice (some aP) nP cP) := hv.2.1; go_simp)) ?_
          refine take_Y (i := 4) (u := .int .i64 (j : Nat)) rfl (by kernel_rfl) (by kernel_rfl) (by kernel_rfl) (by decide) rfl rfl (fun _ _ _ h => h) HS (fun v => run_move rfl (by simp [EV]) v) ?_
          refine take_Y (i := 5) (u := .pointer (some (aP.add (j * 2)))) rfl (by kernel_rfl) (by kernel_rfl) (by kernel_rfl) (by decide) rfl rfl (fun _ _ _ h => h) HS (fun v => run_index (s := .slice (some aP) nP cP) (j := .int .i64 (j : Nat)) rfl (by simp [EV]) (by simp [EV]) (by go_simp)) ?_
          refine take_Y (i := 6) (u := .pointer (some (aP.add (j * 2)))) rfl (by kernel_rfl) (by kernel_rfl) (by kernel_rfl) (by decide) rfl rfl (fun _ _ _ h => h) HS (fun v => run_field (s := .pointer (some (aP.add (j * 2)))) rfl (by simp [EV]) (by go_simp)) ?_
          refine take_C (i := 7) [23, 24, 25] (u := .int .i64 e1) rfl (by kernel_rfl) (by kernel_rfl) (by kernel_rfl) (by kernel_rfl) (by kernel_rfl) (by decide) rfl rfl (fun _ _ _ h => h) HS (fun v hv => run_load1 (s := .pointer (some (aP.add (j * 2)))) rfl (by simp [EV]) (by have c := hv.2.2.1; go_simp)) ?_
          refine take_Y (i := 8) (u := .pointer (some ⟨cb, 11, none⟩)) rfl (by kernel_rfl) (by kernel_rfl) (by kernel_rfl) (by decide) rfl rfl (fun _ _ _ h => h) HS (fun v => run_field (s := .pointer (some ⟨cb, 0, none⟩)) rfl (by simp [EV]) (by kernel_rfl)) ?_
          refine take_C (i := 9) [11, 12, 13, 22, 23, 24, 25] (u := .slice (some aP) nP cP) rfl (by kernel_rfl) (by kernel_rfl) (by kernel_rfl) (by kernel_rfl) (by kernel_rfl) (by decide) rfl rfl (fun _ _ _ h => h) HS (fun v hv => run_load1 (s := .pointer (some ⟨cb, 11, none⟩)) rfl (by simp [EV]) (by have c : v.cell? ⟨cb, 11, none⟩ = some (.slice (some aP) nP cP) := hv.2.1; go_simp)) ?_
          refine take_Y (i := 10) (u := .int .i64 (j : Nat)) rfl (by kernel_rfl) (by kernel_rfl) (by kernel_rfl) (by decide) rfl rfl (fun _ _ _ h => h) HS (fun v => run_move rfl (by simp [EV]) v) ?_
          refine take_Y (i := 11) (u := .pointer (some (aP.add (j * 2)))) rfl (by kernel_rfl) (by kernel_rfl) (by kernel_rfl) (by decide) rfl rfl (fun _ _ _ h => h) HS (fun v => run_index (s := .slice (some aP) nP cP) (j := .int .i64 (j : Nat)) rfl (by simp [EV]) (by simp [EV]) (by go_simp)) ?_
          refine take_Y (i := 12) (u := .pointer (some ⟨(aP.add (j * 2)).block, (aP.add (j * 2)).off + 1, none⟩)) rfl (by kernel_rfl) (by kernel_rfl) (by kernel_rfl) (by decide) rfl rfl (fun _ _ _ h => h) HS (fun v => run_field (s := .pointer (some (aP.add (j * 2)))) rfl (by simp [EV]) (by go_simp)) ?_
          refine take_C (i := 13) [22, 23, 24, 25] (u := .string e2) rfl (by kernel_rfl) (by kernel_rfl) (by kernel_rfl) (by kernel_rfl) (by kernel_rfl) (by decide) rfl rfl (fun _ _ _ h => h) HS (fun v hv => run_load1 (s := .pointer (some ⟨(aP.add (j * 2)).block, (aP.add (j * 2)).off + 1, none⟩)) rfl (by simp [EV]) (by have c := hv.2.2.2; go_simp)) ?_
          refine take_Y (i := 14) (u := .pointer (some ⟨cb, 11, none⟩)) rfl (by kernel_rfl) (by kernel_rfl) (by kernel_rfl) (by decide) rfl rfl (fun _ _ _ h => h) HS (fun v => run_field (s := .pointer (some ⟨cb, 0, none⟩)) rfl (by simp [EV]) (by kernel_rfl)) ?_
          refine take_C (i := 15) [17, 18, 19, 20, 21, 22, 23, 24, 25] (u := .slice (some aP) nP cP) rfl (by kernel_rfl) (by kernel_rfl) (by kernel_rfl) (by kernel_rfl) (by kernel_rfl) (by decide) rfl rfl (fun _ _ _ h => h) HS (fun v hv => run_load1 (s := .pointer (some ⟨cb, 11, none⟩)) rfl (by simp [EV]) (by have c : v.cell? ⟨cb, 11, none⟩ = some (.slice (some aP) nP cP) := hv.2.1; go_simp)) ?_
          refine take_Y (i := 16) (u := .int .i64 (j : Nat)) rfl (by kernel_rfl) (by kernel_rfl) (by kernel_rfl) (by decide) rfl rfl (fun _ _ _ h => h) HS (fun v => run_move rfl (by simp [EV]) v) ?_
          refine take_Y (i := 17) (u := .pointer (some (aP.add (j * 2)))) rfl (by kernel_rfl) (by kernel_rfl) (by kernel_rfl) (by decide) rfl rfl (fun _ _ _ h => h) HS (fun v => run_index (s := .slice (some aP) nP cP) (j := .int .i64 (j : Nat)) rfl (by simp [EV]) (by simp [EV]) (by go_simp)) ?_
          refine take_Y (i := 18) (u := .pointer (some ⟨(aP.add (j * 2)).block, (aP.add (j * 2)).off + 1, none⟩)) rfl (by kernel_rfl) (by kernel_rfl) (by kernel_rfl) (by decide) rfl rfl (fun _ _ _ h => h) HS (fun v => run_field (s := .pointer (some (aP.add (j * 2)))) rfl (by simp [EV]) (by go_simp)) ?_
          refine take_C (i := 19) [20, 21, 22, 23, 24, 25] (u := .string e2) rfl (by kernel_rfl) (by kernel_rfl) (by kernel_rfl) (by kernel_rfl) (by kernel_rfl) (by decide) rfl rfl (fun _ _ _ h => h) HS (fun v hv => run_load1 (s := .pointer (some ⟨(aP.add (j * 2)).block, (aP.add (j * 2)).off + 1, none⟩)) rfl (by simp [EV]) (by have c := hv.2.2.2; go_simp)) ?_
          refine take_Y (i := 20) (u := .int .i64 (e2.size : Nat)) rfl (by kernel_rfl) (by kernel_rfl) (by kernel_rfl) (by decide) rfl rfl (fun _ _ _ h => h) HS (fun v => run_lens rfl (by simp [EV]) (fun cs => len_s e2 v cs)) ?_
          refine take_Y (i := 21) (u := .int .i64 (k : Nat)) rfl (by kernel_rfl) (by kernel_rfl) (by kernel_rfl) (by decide) rfl rfl (fun _ _ _ h => h) HS (fun v => run_min rfl (by simp [EV]) (by rfl) (fun cs => min_run e2.size 60 k 60 rfl hk v cs)) ?_
          refine take_Y (i := 22) (u := .string (e2.extract 0 k)) rfl (by kernel_rfl) (by kernel_rfl) (by kernel_rfl) (by decide) rfl rfl (fun _ _ _ h => h) HS (fun v => run_slice_s Try.underlying9 rfl (by simp [EV]) (by simp [EV]) (slice_s e2 k hk2 he2 v)) ?_
          refine take_Y (i := 23) (u := .agg #[.int .i64 e1, .string (e2.extract 0 k)]) rfl (by kernel_rfl) (by kernel_rfl) (by kernel_rfl) (by decide) rfl rfl (fun _ _ _ h => h) HS (fun v => run_build2 (s0 := .int .i64 e1) (s1 := .string (e2.extract 0 k)) rfl (by simp [EV]) (by simp [EV]) (by kernel_rfl)) ?_
          have O7 := O6.alloc (.cells #[.int .i64 e1, .string (e2.extract 0 k)] 88)
          have X7 := X6.alloc (.cells #[.int .i64 e1, .string (e2.extract 0 k)] 88)
          have R7 := R6.alloc (.cells #[.int .i64 e1, .string (e2.extract 0 k)] 88)
          have q7 := q6.alloc (.cells #[.int .i64 e1, .string (e2.extract 0 k)] 88)
          have I7 := src_item (P := Try.prog) (SL := 61) (sz := 2) Try.underlying61 (Blk.new w6 88 #[.int .i64 e1, .string (e2.extract 0 k)]) (fun u hu => by simp at hu; rcases hu with rfl | rfl <;> rfl) rfl
          have hlt6 := R6.lt
          have hlt6o := O6.lt
          have hge6 := bel6.size
          have bel7 := bel6.alloc (by omega) (.cells #[.int .i64 e1, .string (e2.extract 0 k)] 88)
          have hs67 : w6.heap.size < (w6.alloc (.cells #[.int .i64 e1, .string (e2.extract 0 k)] 88)).heap.size := by simp
          refine val_C (i := 24) (u := .slice (some ⟨w6.heap.size, 0, none⟩) 1 1) (w' := w6.alloc (.cells #[.int .i64 e1, .string (e2.extract 0 k)] 88)) (by kernel_rfl) rfl rfl rfl (fun _ => ⟨O7.cell 11, X7.cell 11, (al_cell HS.2.2.1), (al_cell HS.2.2.2)⟩) (run_build1 (u := .agg #[.int .i64 e1, .string (e2.extract 0 k)]) rfl (by simp [EV]) (by kernel_rfl)) ?_
          have hS7 := And.intro (al_cell (o := .cells #[.int .i64 e1, .string (e2.extract 0 k)] 88) HS.2.2.1) (al_cell (o := .cells #[.int .i64 e1, .string (e2.extract 0 k)] 88) HS.2.2.2)
          obtain ⟨w7, hw7⟩ : ∃ w7, w6.alloc (.cells #[.int .i64 e1, .string (e2.extract 0 k)] 88) = w7 := ⟨_, rfl⟩
          rw [hw7] at O7 X7 R7 q7 I7 bel7 hs67 hS7 ⊢
          clear hw7
          obtain ⟨v', w8, hr8, q8, gr, ha⟩ := qo_append (P := Try.prog) (t := 61) (ty := 61) Try.underlying61 hi0 hz0 hz1 hz2 rfl q7 I7 (by unfold maxLen; omega) (by omega) (by omega)
          have g8 : Blk w8 ob 65 (ccv ty fl t st ss pr tg rw ou ii d' (.slice oq j cq) vC (.slice oG nG cG) (.slice oD nD cD)) := (gr.block ob O7.lt (fun e => by have := (q7.lt e.symm).1; omega)).trans O7
          have x8 : Blk w8 cb 65 (ccv ty fl t st ss pr tg rw ou ii d (.slice (some aP) nP cP) (.slice oC nC cC) (.slice oG nG cG) (.slice oD nD cD)) := (gr.block cb X7.lt (fun e => by have := (q7.lt e.symm).1; omega)).trans X7
          have r8 : Blk w8 rb 65 (ccv 0 0 0 0 0 0 0 0 0 0 ⟨#[]⟩ (.slice none 0 0) (.slice none 0 0) (.slice none 0 0) (.slice none 0 0)) := (gr.block rb R7.lt (fun e => by have := (q7.lt e.symm).1; omega)).trans R7
          have bel8 : Below G w w8 := bel7.grown gr (by omega) (fun k hk => by have := (q7.lt hk).1; omega)
          have hv8 : ∀ i, blkOf v' = some i → b1 ≤ i := fun i hi => (q8.lt hi).1
          obtain ⟨o8, c8, hv', _, _⟩ := q8.shape
          subst hv'
          have f8 : w8.frozen? ⟨ob, 11, none⟩ = false := g8.frozen 11
          have c8' : w8.cell? ⟨ob, 11, none⟩ = some (.slice oq j cq) := g8.cell 11
          have hrow0 : w8.cell? (aP.add (j * 2)) = some (.int .i64 e1) := (World.cell?_of_block (gr.block _ (by show (aP.add (j * 2)).block < _; rw [addr_add_block]; omega) (fun e => by have e : some (aP.add (j * 2)).block = blkOf (.slice oq j cq) := e; rw [addr_add_block] at e; have := (q7.lt e.symm).1; omega))).trans hS7.1
          have hrow1 : w8.cell? ⟨(aP.add (j * 2)).block, (aP.add (j * 2)).off + 1, none⟩ = some (.string e2) := (World.cell?_of_block (gr.block _ (by show (aP.add (j * 2)).block < _; rw [addr_add_block]; omega) (fun e => by have e : some (aP.add (j * 2)).block = blkOf (.slice oq j cq) := e; rw [addr_add_block] at e; have := (q7.lt e.symm).1; omega))).trans hS7.2
          refine app_C (i := 25) (by kernel_rfl) rfl rfl rfl rfl (by simp [EV]) (by simp [EV]) hr8 (fun _ => ⟨c8', x8.cell 11, hrow0, hrow1⟩) ?_
          refine val_C (i := 26) (u := .pointer (some ⟨ob, 11, none⟩)) (by kernel_rfl) rfl rfl rfl (fun _ => ⟨c8', x8.cell 11, hrow0, hrow1⟩) (run_field (s := .pointer (some ⟨ob, 0, none⟩)) rfl (by simp [EV]) (by kernel_rfl)) ?_
          refine store_C (i := 27) (p := .pointer (some ⟨ob, 11, none⟩)) (u := .slice o8 (j + 1) c8) (w' := w8.setCell ⟨ob, 11, none⟩ (.slice o8 (j + 1) c8)) (by kernel_rfl) rfl rfl rfl rfl (by simp [EV]) (by simp [EV]) (fun h => absurd rfl h) (by go_simp) ?_
          refine done_C (by kernel_rfl) ?_ _
          refine NoPanic.normal ?_
          rw [HB.out]
          simp only [Act.put, List.setIfInBounds_toArray, List.set_cons_zero, List.set_cons_succ]
          have HE := Lib.hid (And.intro (q8.far (p := ⟨ob, 11, none⟩) (fun e => by have := hv8 _ e; have : b1 ≤ ob := this; omega) (.slice o8 (j + 1) c8)) (And.intro (g8.set_ 11 (.slice o8 (j + 1) c8)) (And.intro (x8.far (p := ⟨ob, 11, none⟩) (show cb ≠ ob by omega) (.slice o8 (j + 1) c8)) (And.intro (r8.far (p := ⟨ob, 11, none⟩) (show rb ≠ ob by omega) (.slice o8 (j + 1) c8)) (bel8.setCell (p := ⟨ob, 11, none⟩) (show G ≤ ob by omega) (.slice o8 (j + 1) c8))))))
          clear HB HS EV e1' e3' ej' hsz O6 X6 R6 q6 bel6 O7 X7 R7 q7 I7 bel7 hS7 hr8 q8 gr ha g8 x8 r8 bel8 hv8 f8 c8' hrow0 hrow1
          go_wp2_with fail
          go_roundw
          case rel => exact ⟨j + 1, _, _, by go_num, by omega, by omega, HE.out.1, HE.out.2.1, HE.out.2.2.1, HE.out.2.2.2.1, HE.out.2.2.2.2⟩
          case measure => simp [intOf]; omega
        · have h18i : ¬ (j : Int) < 18 := by omega
          have HE := Lib.hid (And.intro q5 (And.intro O5 (And.intro X5 (And.intro R5 bel5))))
          clear q5 O5 X5 R5 bel5
          go_wp2_with fail
          go_meet
          exact ⟨j, v, xs, HE.out.1, HE.out.2.1, HE.out.2.2.1, HE.out.2.2.2.1, HE.out.2.2.2.2⟩
      · have hii : ¬ (j : Int) < (nP : Int) := by omega
        have HE := Lib.hid (And.intro q5 (And.intro O5 (And.intro X5 (And.intro R5 bel5))))
        clear q5 O5 X5 R5 bel5
        go_wp2_with fail
        go_meet
        exact ⟨j, v, xs, HE.out.1, HE.out.2.1, HE.out.2.2.1, HE.out.2.2.2.1, HE.out.2.2.2.2⟩
  case rest =>
  obtain ⟨j1, vP, xs1, q5, O5, X5, R5, bel5⟩ := hcut
  have hvP : ∃ o n c, vP = .slice o n c := by obtain ⟨o1, c1, rfl, _, _⟩ := q5.shape; exact ⟨_, _, _, rfl⟩
  clear HL q5 xs1 j1
  generalize wc = w9 at *
  have HL := Lib.hid (And.intro (show Qo w9 b1 2 vC 0 [] by rw [← HVC.out]; exact Qo.empty w9 b1 2 (some ⟨k2, 0, none⟩)) (And.intro O5 (And.intro X5 (And.intro R5 bel5))))
  clear O5 X5 R5 bel5
  go_upto_block 2 with fail
  go_cut [] (fun wx => ∃ (j : Nat) (v : Value) (xs : List Value), Qo wx b1 2 v j xs ∧ Blk wx ob 65 (ccv ty fl t st ss pr tg rw ou ii d' vP v (.slice oG nG cG) (.slice oD nD cD)) ∧ Blk wx cb 65 (ccv ty fl t st ss pr tg rw ou ii d (.slice oP nP cP) (.slice oC nC cC) (.slice oG nG cG) (.slice oD nD cD)) ∧ Blk wx rb 65 (ccv 0 0 0 0 0 0 0 0 0 0 ⟨#[]⟩ (.slice none 0 0) (.slice none 0 0) (.slice none 0 0) (.slice none 0 0)) ∧ Below G w wx)
  case first =>
    go_wp2_with fail
    go_loopw [5] (fun sj wr => ∃ (j : Nat) (v : Value) (xs : List Value), sj = .int .i64 (j : Nat) ∧ j ≤ nC ∧ j ≤ 18 ∧ Qo wr b1 2 v j xs ∧ Blk wr ob 65 (ccv ty fl t st ss pr tg rw ou ii d' vP v (.slice oG nG cG) (.slice oD nD cD)) ∧ Blk wr cb 65 (ccv ty fl t st ss pr tg rw ou ii d (.slice oP nP cP) (.slice oC nC cC) (.slice oG nG cG) (.slice oD nD cD)) ∧ Blk wr rb 65 (ccv 0 0 0 0 0 0 0 0 0 0 ⟨#[]⟩ (.slice none 0 0) (.slice none 0 0) (.slice none 0 0) (.slice none 0 0)) ∧ Below G w wr) (fun sj _ => nC - (intOf sj).toNat)
    case atStart => exact ⟨0, _, [], rfl, Nat.zero_le _, Nat.zero_le _, HL.out.1, HL.out.2.1, HL.out.2.2.1, HL.out.2.2.2.1, HL.out.2.2.2.2⟩
    case round =>
      rename World => w5
      clear HL
      obtain ⟨j, v, xs, rfl, hj, hj18, q5, O5, X5, R5, bel5⟩ := hrel
      have x11 : w5.cell? ⟨cb, 12, none⟩ = some (.slice oC nC cC) := X5.cell 12
      by_cases hlt : j < nC
      · have hii : (j : Int) < (nC : Int) := by omega
        have hj0 : (0 : Int) ≤ (j : Int) := by omega
        by_cases h18 : j < 18
        · have h18i : (j : Int) < 18 := by omega
          obtain rfl := HC.out.ho (by omega)
          obtain ⟨oq, cq, hvq, _, _⟩ := q5.shape
          subst hvq
          have PB := HC.out.below (hPB.out _ bel5)
          have hpc := PB.cell j hlt
          have hab := HC.out.hb (by omega)
          have he2 := HC.out.sz j hlt
          obtain ⟨⟨e1, e2⟩, hee⟩ : ∃ e, EC j = e := ⟨_, rfl⟩
          rw [hee] at hpc he2
          have p0 : w5.drew.cell? (aC.add (j * 2)) = some (.int .i64 e1) := by have := hpc 0 _ rfl; rw [add_zz] at this; exact this
          have p1 : w5.drew.cell? ⟨(aC.add (j * 2)).block, (aC.add (j * 2)).off + 1, none⟩ = some (.string e2) := by have := hpc 1 _ rfl; rw [add_zo] at this; exact this
          obtain ⟨k, hk⟩ : ∃ k, min e2.size 60 = k := ⟨_, rfl⟩
          have hk2 : k ≤ e2.size := by omega
          have he2 : e2.size ≤ maxLen := he2
          obtain ⟨i0, hi0, hz0, hz1, hz2⟩ := info_parts info12
          have hGs := bel5.size
          have hcbl := X5.lt
          have hrbl := R5.lt
          have hobl := O5.lt
          clear PB hpc hee
          go_upto_region 11 with fail
          clear x11
          refine wp_region_noPanic ?_
          have HS : ((fun v => v.cell? ⟨ob, 12, none⟩ = some (.slice oq j cq) ∧ v.cell? ⟨cb, 12, none⟩ = some (.slice (some aC) nC cC) ∧ v.cell? (aC.add (j * 2)) = some (.int .i64 e1) ∧ v.cell? ⟨(aC.add (j * 2)).block, (aC.add (j * 2)).off + 1, none⟩ = some (.string e2)) : World → Prop) w5.drew := ⟨O5.drew.cell 12, X5.drew.cell 12, p0, p1⟩
          refine begin_C (fun v => v.cell? ⟨ob, 12, none⟩ = some (.slice oq j cq) ∧ v.cell? ⟨cb, 12, none⟩ = some (.slice (some aC) nC cC) ∧ v.cell? (aC.add (j * 2)) = some (.int .i64 e1) ∧ v.cell? ⟨(aC.add (j * 2)).block, (aC.add (j * 2)).off + 1, none⟩ = some (.string e2)) 27 (by kernel_rfl) ?_
          obtain ⟨w6, hw6⟩ : ∃ w6, w5.drew = w6 := ⟨_, rfl⟩
          have O6 := O5.drew
          have X6 := X5.drew
          have R6 := R5.drew
          have q6 := q5.drew
          have bel6 := bel5.drew
          rw [hw6] at O6 X6 R6 q6 bel6 HS
          rw [hw6]
          clear hw6 O5 X5 R5 q5 bel5 p0 p1
          refine abs_C _ (fun ac hac => ?_)
          have hsz : ac.tmps.size = 112 := by rw [hac]; rfl
          have e1' : ac.eval (.tmp 1) = .pointer (some ⟨cb, 0, none⟩) := by rw [hac]; rfl
          have e3' : ac.eval (.tmp 3) = .pointer (some ⟨ob, 0, none⟩) := by rw [hac]; rfl
          have ej' : ac.eval (.tmp 5) = .int .i64 (j : Nat) := by rw [hac]; rfl
          have HB := Lib.hid hac
          clear hac
          have EV := And.intro @Act.eval_put_ne (And.intro @Act.eval_put_same (And.intro @Act.size_put (And.intro hsz (And.intro e1' (And.intro e3' ej')))))
          refine take_Y (i := 0) (u := .pointer (some ⟨ob, 12, none⟩)) rfl (by kernel_rfl) (by kernel_rfl) (by kernel_rfl) (by decide) rfl rfl (fun _ _ _ h => h) HS (fun v => run_field (s := .pointer (some ⟨ob, 0, none⟩)) rfl (by simp [EV]) (by kernel_rfl)) ?_
          refine take_C (i := 1) [25] (u := .slice oq j cq) rfl (by kernel_rfl) (by kernel_rfl) (by kernel_rfl) (by kernel_rfl) (by kernel_rfl) (by decide) rfl rfl (fun _ _ _ h => h) HS (fun v hv => run_load1 (s := .pointer (some ⟨ob, 12, none⟩)) rfl (by simp [EV]) (by have c : v.cell? ⟨ob, 12, none⟩ = some (.slice oq j cq) := hv.1; go_simp)) ?_
          refine take_Y (i := 2) (u := .pointer (some ⟨cb, 12, none⟩)) rfl (by kernel_rfl) (by kernel_rfl) (by kernel_rfl) (by decide) rfl rfl (fun _ _ _ h => h) HS (fun v => run_field (s := .pointer (some ⟨cb, 0, none⟩)) rfl (by simp [EV]) (by kernel_rfl)) ?_
          refine take_C (i := 3) [5, 6, 7, 23, 24, 25] (u := .slice (some aC) nC cC) rfl (by kernel_rfl) (by kernel_rfl) (by kernel_rfl) (by kernel_rfl) (by kernel_rfl) (by decide) rfl rfl (fun _ _ _ h => h) HS (fun v hv => run_load1 (s := .pointer (some ⟨cb, 12, none⟩)) rfl (by simp [EV]) (by have c : v.cell? ⟨cb, 12, none⟩ = some (.slice (some aC) nC cC) := hv.2.1; go_simp)) ?_
          refine take_Y (i := 4) (u := .int .i64 (j : Nat)) rfl (by kernel_rfl) (by kernel_rfl) (by kernel_rfl) (by decide) rfl rfl (fun _ _ _ h => h) HS (fun v => run_move rfl (by simp [EV]) v) ?_
          refine take_Y (i := 5) (u := .pointer (some (aC.add (j * 2)))) rfl (by kernel_rfl) (by kernel_rfl) (by kernel_rfl) (by decide) rfl rfl (fun _ _ _ h => h) HS (fun v => run_index (s := .slice (some aC) nC cC) (j := .int .i64 (j : Nat)) rfl (by simp [EV]) (by simp [EV]) (by go_simp)) ?_
          refine take_Y (i := 6) (u := .pointer (some (aC.add (j * 2)))) rfl (by kernel_rfl) (by kernel_rfl) (by kernel_rfl) (by decide) rfl rfl (fun _ _ _ h => h) HS (fun v => run_field (s := .pointer (some (aC.add (j * 2)))) rfl (by simp [EV]) (by go_simp)) ?_
          refine take_C (i := 7) [23, 24, 25] (u := .int .i64 e1) rfl (by kernel_rfl) (by kernel_rfl) (by kernel_rfl) (by kernel_rfl) (by kernel_rfl) (by decide) rfl rfl (fun _ _ _ h => h) HS (fun v hv => run_load1 (s := .pointer (some (aC.add (j * 2)))) rfl (by simp [EV]) (by have c := hv.2.2.1; go_simp)) ?_
          refine take_Y (i := 8) (u := .pointer (some ⟨cb, 12, none⟩)) rfl (by kernel_rfl) (by kernel_rfl) (by kernel_rfl) (by decide) rfl rfl (fun _ _ _ h => h) HS (fun v => run_field (s := .pointer (some ⟨cb, 0, none⟩)) rfl (by simp [EV]) (by kernel_rfl)) ?_
          refine take_C (i := 9) [11, 12, 13, 22, 23, 24, 25] (u := .slice (some aC) nC cC) rfl (by kernel_rfl) (by kernel_rfl) (by kernel_rfl) (by kernel_rfl) (by kernel_rfl) (by decide) rfl rfl (fun _ _ _ h => h) HS (fun v hv => run_load1 (s := .pointer (some ⟨cb, 12, none⟩)) rfl (by simp [EV]) (by have c : v.cell? ⟨cb, 12, none⟩ = some (.slice (some aC) nC cC) := hv.2.1; go_simp)) ?_
          refine take_Y (i := 10) (u := .int .i64 (j : Nat)) rfl (by kernel_rfl) (by kernel_rfl) (by kernel_rfl) (by decide) rfl rfl (fun _ _ _ h => h) HS (fun v => run_move rfl (by simp [EV]) v) ?_
          refine take_Y (i := 11) (u := .pointer (some (aC.add (j * 2)))) rfl (by kernel_rfl) (by kernel_rfl) (by kernel_rfl) (by decide) rfl rfl (fun _ _ _ h => h) HS (fun v => run_index (s := .slice (some aC) nC cC) (j := .int .i64 (j : Nat)) rfl (by simp [EV]) (by simp [EV]) (by go_simp)) ?_
          refine take_Y (i := 12) (u := .pointer (some ⟨(aC.add (j * 2)).block, (aC.add (j * 2)).off + 1, none⟩)) rfl (by kernel_rfl) (by kernel_rfl) (by kernel_rfl) (by decide) rfl rfl (fun _ _ _ h => h) HS (fun v => run_field (s := .pointer (some (aC.add (j * 2)))) rfl (by simp [EV]) (by go_simp)) ?_
          refine take_C (i := 13) [22, 23, 24, 25] (u := .string e2) rfl (by kernel_rfl) (by kernel_rfl) (by kernel_rfl) (by kernel_rfl) (by kernel_rfl) (by decide) rfl rfl (fun _ _ _ h => h) HS (fun v hv => run_load1 (s := .pointer (some ⟨(aC.add (j * 2)).block, (aC.add (j * 2)).off + 1, none⟩)) rfl (by simp [EV]) (by have c := hv.2.2.2; go_simp)) ?_
          refine take_Y (i := 14) (u := .pointer (some ⟨cb, 12, none⟩)) rfl (by kernel_rfl) (by kernel_rfl) (by kernel_rfl) (by decide) rfl rfl (fun _ _ _ h => h) HS (fun v => run_field (s := .pointer (some ⟨cb, 0, none⟩)) rfl (by simp [EV]) (by kernel_rfl)) ?_
          refine take_C (i := 15) [17, 18, 19, 20, 21, 22, 23, 24, 25] (u := .slice (some aC) nC cC) rfl (by kernel_rfl) (by kernel_rfl) (by kernel_rfl) (by kernel_rfl) (by kernel_rfl) (by decide) rfl rfl (fun _ _ _ h => h) HS (fun v hv => run_load1 (s := .pointer (some ⟨cb, 12, none⟩)) rfl (by simp [EV]) (by have c : v.cell? ⟨cb, 12, none⟩ = some (.slice (some aC) nC cC) := hv.2.1; go_simp)) ?_
          refine take_Y (i := 16) (u := .int .i64 (j : Nat)) rfl (by kernel_rfl) (by kernel_rfl) (by kernel_rfl) (by decide) rfl rfl (fun _ _ _ h => h) HS (fun v => run_move rfl (by simp [EV]) v) ?_
          refine take_Y (i := 17) (u := .pointer (some (aC.add (j * 2)))) rfl (by kernel_rfl) (by kernel_rfl) (by kernel_rfl) (by decide) rfl rfl (fun _ _ _ h => h) HS (fun v => run_index (s := .slice (some aC) nC cC) (j := .int .i64 (j : Nat)) rfl (by simp [EV]) (by simp [EV]) (by go_simp)) ?_
          refine take_Y (i := 18) (u := .pointer (some ⟨(aC.add (j * 2)).block, (aC.add (j * 2)).off + 1, none⟩)) rfl (by kernel_rfl) (by kernel_rfl) (by kernel_rfl) (by decide) rfl rfl (fun _ _ _ h => h) HS (fun v => run_field (s := .pointer (some (aC.add (j * 2)))) rfl (by simp [EV]) (by go_simp)) ?_
          refine take_C (i := 19) [20, 21, 22, 23, 24, 25] (u := .string e2) rfl (by kernel_rfl) (by kernel_rfl) (by kernel_rfl) (by kernel_rfl) (by kernel_rfl) (by decide) rfl rfl (fun _ _ _ h => h) HS (fun v hv => run_load1 (s := .pointer (some ⟨(aC.add (j * 2)).block, (aC.add (j * 2)).off + 1, none⟩)) rfl (by simp [EV]) (by have c := hv.2.2.2; go_simp)) ?_
          refine take_Y (i := 20) (u := .int .i64 (e2.size : Nat)) rfl (by kernel_rfl) (by kernel_rfl) (by kernel_rfl) (by decide) rfl rfl (fun _ _ _ h => h) HS (fun v => run_lens rfl (by simp [EV]) (fun cs => len_s e2 v cs)) ?_
          refine take_Y (i := 21) (u := .int .i64 (k : Nat)) rfl (by kernel_rfl) (by kernel_rfl) (by kernel_rfl) (by decide) rfl rfl (fun _ _ _ h => h) HS (fun v => run_min rfl (by simp [EV]) (by rfl) (fun cs => min_run e2.size 60 k 60 rfl hk v cs)) ?_
          refine take_Y (i := 22) (u := .string (e2.extract 0 k)) rfl (by kernel_rfl) (by kernel_rfl) (by kernel_rfl) (by decide) rfl rfl (fun _ _ _ h => h) HS (fun v => run_slice_s Try.underlying9 rfl (by simp [EV]) (by simp [EV]) (slice_s e2 k hk2 he2 v)) ?_
          refine take_Y (i := 23) (u := .agg #[.int .i64 e1, .string (e2.extract 0 k)]) rfl (by kernel_rfl) (by kernel_rfl) (by kernel_rfl) (by decide) rfl rfl (fun _ _ _ h => h) HS (fun v => run_build2 (s0 := .int .i64 e1) (s1 := .string (e2.extract 0 k)) rfl (by simp [EV]) (by simp [EV]) (by kernel_rfl)) ?_
          have O7 := O6.alloc (.cells #[.int .i64 e1, .string (e2.extract 0 k)] 90)
          have X7 := X6.alloc (.cells #[.int .i64 e1, .string (e2.extract 0 k)] 90)
          have R7 := R6.alloc (.cells #[.int .i64 e1, .string (e2.extract 0 k)] 90)
          have q7 := q6.alloc (.cells #[.int .i64 e1, .string (e2.extract 0 k)] 90)
          have I7 := src_item (P := Try.prog) (SL := 62) (sz := 2) Try.underlying62 (Blk.new w6 90 #[.int .i64 e1, .string (e2.extract 0 k)]) (fun u hu => by simp at hu; rcases hu with rfl | rfl <;> rfl) rfl
          have hlt6 := R6.lt
          have hlt6o := O6.lt
          have hge6 := bel6.size
          have bel7 := bel6.alloc (by omega) (.cells #[.int .i64 e1, .string (e2.extract 0 k)] 90)
          have hs67 : w6.heap.size < (w6.alloc (.cells #[.int .i64 e1, .string (e2.extract 0 k)] 90)).heap.size := by simp
          refine val_C (i := 24) (u := .slice (some ⟨w6.heap.size, 0, none⟩) 1 1) (w' := w6.alloc (.cells #[.int .i64 e1, .string (e2.extract 0 k)] 90)) (by kernel_rfl) rfl rfl rfl (fun _ => ⟨O7.cell 12, X7.cell 12, (al_cell HS.2.2.1), (al_cell HS.2.2.2)⟩) (run_build1 (u := .agg #[.int .i64 e1, .string (e2.extract 0 k)]) rfl (by simp [EV]) (by kernel_rfl)) ?_
          have hS7 := And.intro (al_cell (o := .cells #[.int .i64 e1, .string (e2.extract 0 k)] 90) HS.2.2.1) (al_cell (o := .cells #[.int .i64 e1, .string (e2.extract 0 k)] 90) HS.2.2.2)
          obtain ⟨w7, hw7⟩ : ∃ w7, w6.alloc (.cells #[.int .i64 e1, .string (e2.extract 0 k)] 90) = w7 := ⟨_, rfl⟩
          rw [hw7] at O7 X7 R7 q7 I7 bel7 hs67 hS7 ⊢
          clear hw7
          obtain ⟨v', w8, hr8, q8, gr, ha⟩ := qo_append (P := Try.prog) (t := 62) (ty := 62) Try.underlying62 hi0 hz0 hz1 hz2 rfl q7 I7 (by unfold maxLen; omega) (by omega) (by omega)
          have g8 : Blk w8 ob 65 (ccv ty fl t st ss pr tg rw ou ii d' vP (.slice oq j cq) (.slice oG nG cG) (.slice oD nD cD)) := (gr.block ob O7.lt (fun e => by have := (q7.lt e.symm).1; omega)).trans O7
          have x8 : Blk w8 cb 65 (ccv ty fl t st ss pr tg rw ou ii d (.slice oP nP cP) (.slice (some aC) nC cC) (.slice oG nG cG) (.slice oD nD cD)) := (gr.block cb X7.lt (fun e => by have := (q7.lt e.symm).1; omega)).trans X7
          have r8 : Blk w8 rb 65 (ccv 0 0 0 0 0 0 0 0 0 0 ⟨#[]⟩ (.slice none 0 0) (.slice none 0 0) (.slice none 0 0) (.slice none 0 0)) := (gr.block rb R7.lt (fun e => by have := (q7.lt e.symm).1; omega)).trans R7
          have bel8 : Below G w w8 := bel7.grown gr (by omega) (fun k hk => by have := (q7.lt hk).1; omega)
          have hv8 : ∀ i, blkOf v' = some i → b1 ≤ i := fun i hi => (q8.lt hi).1
          obtain ⟨o8, c8, hv', _, _⟩ := q8.shape
          subst hv'
          have f8 : w8.frozen? ⟨ob, 12, none⟩ = false := g8.frozen 12
          have c8' : w8.cell? ⟨ob, 12, none⟩ = some (.slice oq j cq) := g8.cell 12
          have hrow0 : w8.cell? (aC.add (j * 2)) = some (.int .i64 e1) := (World.cell?_of_block (gr.block _ (by show (aC.add (j * 2)).block < _; rw [addr_add_block]; omega) (fun e => by have e : some (aC.add (j * 2)).block = blkOf (.slice oq j cq) := e; rw [addr_add_block] at e; have := (q7.lt e.symm).1; omega))).trans hS7.1
          have hrow1 : w8.cell? ⟨(aC.add (j * 2)).block, (aC.add (j * 2)).off + 1, none⟩ = some (.string e2) := (World.cell?_of_block (gr.block _ (by show (aC.add (j * 2)).block < _; rw [addr_add_block]; omega) (fun e => by have e : some (aC.add (j * 2)).block = blkOf (.slice oq j cq) := e; rw [addr_add_block] at e; have := (q7.lt e.symm).1; omega))).trans hS7.2
          refine app_C (i := 25) (by kernel_rfl) rfl rfl rfl rfl (by simp [EV]) (by simp [EV]) hr8 (fun _ => ⟨c8', x8.cell 12, hrow0, hrow1⟩) ?_
          refine val_C (i := 26) (u := .pointer (some ⟨ob, 12, none⟩)) (by kernel_rfl) rfl rfl rfl (fun _ => ⟨c8', x8.cell 12, hrow0, hrow1⟩) (run_field (s := .pointer (some ⟨ob, 0, none⟩)) rfl (by simp [EV]) (by kernel_rfl)) ?_
          refine store_C (i := 27) (p := .pointer (some ⟨ob, 12, none⟩)) (u := .slice o8 (j + 1) c8) (w' := w8.setCell ⟨ob, 12, none⟩ (.slice o8 (j + 1) c8)) (by kernel_rfl) rfl rfl rfl rfl (by simp [EV]) (by simp [EV]) (fun h => absurd rfl h) (by go_simp) ?_
          refine done_C (by kernel_rfl) ?_ _
          refine NoPanic.normal ?_
          rw [HB.out]
          simp only [Act.put, List.setIfInBounds_toArray, List.set_cons_zero, List.set_cons_succ]
          have HE := Lib.hid (And.intro (q8.far (p := ⟨ob, 12, none⟩) (fun e => by have := hv8 _ e; have : b1 ≤ ob := this; omega) (.slice o8 (j + 1) c8)) (And.intro (g8.set_ 12 (.slice o8 (j + 1) c8)) (And.intro (x8.far (p := ⟨ob, 12, none⟩) (show cb ≠ ob by omega) (.slice o8 (j + 1) c8)) (And.intro (r8.far (p := ⟨ob, 12, none⟩) (show rb ≠ ob by omega) (.slice o8 (j + 1) c8)) (bel8.setCell (p := ⟨ob, 12, none⟩) (show G ≤ ob by omega) (.slice o8 (j + 1) c8))))))
          clear HB HS EV e1' e3' ej' hsz O6 X6 R6 q6 bel6 O7 X7 R7 q7 I7 bel7 hS7 hr8 q8 gr ha g8 x8 r8 bel8 hv8 f8 c8' hrow0 hrow1
          go_wp2_with fail
          go_roundw
          case rel => exact ⟨j + 1, _, _, by go_num, by omega, by omega, HE.out.1, HE.out.2.1, HE.out.2.2.1, HE.out.2.2.2.1, HE.out.2.2.2.2⟩
          case measure => simp [intOf]; omega
        · have h18i : ¬ (j : Int) < 18 := by omega
          have HE := Lib.hid (And.intro q5 (And.intro O5 (And.intro X5 (And.intro R5 bel5))))
          clear q5 O5 X5 R5 bel5
          go_wp2_with fail
          go_meet
          exact ⟨j, v, xs, HE.out.1, HE.out.2.1, HE.out.2.2.1, HE.out.2.2.2.1, HE.out.2.2.2.2⟩
      · have hii : ¬ (j : Int) < (nC : Int) := by omega
        have HE := Lib.hid (And.intro q5 (And.intro O5 (And.intro X5 (And.intro R5 bel5))))
        clear q5 O5 X5 R5 bel5
        go_wp2_with fail
        go_meet
        exact ⟨j, v, xs, HE.out.1, HE.out.2.1, HE.out.2.2.1, HE.out.2.2.2.1, HE.out.2.2.2.2⟩
  case rest =>
  obtain ⟨j2, vK, xs2, q6, O6, X6, R6, bel6⟩ := hcut
  have hvK : ∃ o n c, vK = .slice o n c := by obtain ⟨o1, c1, rfl, _, _⟩ := q6.shape; exact ⟨_, _, _, rfl⟩
  clear HL q6 xs2 j2 HVC
  generalize wc = w10 at *
  go_upto_region 12 with fail
  have hgl := R6.lt
  have hgo := O6.lt
  refine wp_region_noPanic ?_
  have HS : w10.drew.cell? ⟨cb, 13, none⟩ = some (.slice oG nG cG) ∧ w10.drew.cell? ⟨cb, 14, none⟩ = some (.slice oD nD cD) := ⟨X6.drew.cell 13, X6.drew.cell 14⟩
  refine wp_region_held_drew (S := fun v => v.cell? ⟨cb, 13, none⟩ = some (.slice oG nG cG) ∧ v.cell? ⟨cb, 14, none⟩ = some (.slice oD nD cD)) (by kernel_rfl) HS (fun _ => ?_)
  refine wpAnyH_abs _ (fun ac hac => ?_)
  have hsz : ac.tmps.size = 112 := by rw [hac]; rfl
  have e1' : ac.eval (.tmp 1) = .pointer (some ⟨cb, 0, none⟩) := by rw [hac]; rfl
  have e3' : ac.eval (.tmp 3) = .pointer (some ⟨ob, 0, none⟩) := by rw [hac]; rfl
  have HB := Lib.hid hac
  clear hac
  have EV := And.intro @Act.eval_put_ne (And.intro @Act.eval_put_same (And.intro @Act.size_put (And.intro hsz (And.intro e1' e3'))))
  refine take_run (i := 0) (u := .pointer (some ⟨cb, 13, none⟩)) rfl (by kernel_rfl) (by kernel_rfl) (by kernel_rfl) rfl rfl (fun _ _ _ h => h) HS (fun v hv => run_field (s := .pointer (some ⟨cb, 0, none⟩)) rfl (by simp [EV]) (by kernel_rfl)) ?_
  refine take_run (i := 1) (u := .slice oG nG cG) rfl (by kernel_rfl) (by kernel_rfl) (by kernel_rfl) rfl rfl (fun _ _ _ h => h) HS (fun v hv => run_load1 (s := .pointer (some ⟨cb, 13, none⟩)) rfl (by simp [EV]) (by have c : v.cell? ⟨cb, 13, none⟩ = some (.slice oG nG cG) := hv.1; go_simp)) ?_
  refine take_run (i := 2) (u := .pointer (some ⟨cb, 13, none⟩)) rfl (by kernel_rfl) (by kernel_rfl) (by kernel_rfl) rfl rfl (fun _ _ _ h => h) HS (fun v hv => run_field (s := .pointer (some ⟨cb, 0, none⟩)) rfl (by simp [EV]) (by kernel_rfl)) ?_
  refine take_run (i := 3) (u := .slice oG nG cG) rfl (by kernel_rfl) (by kernel_rfl) (by kernel_rfl) rfl rfl (fun _ _ _ h => h) HS (fun v hv => run_load1 (s := .pointer (some ⟨cb, 13, none⟩)) rfl (by simp [EV]) (by have c : v.cell? ⟨cb, 13, none⟩ = some (.slice oG nG cG) := hv.1; go_simp)) ?_
  refine take_run (i := 4) (u := .int .i64 (nG : Nat)) rfl (by kernel_rfl) (by kernel_rfl) (by kernel_rfl) rfl rfl (fun _ _ _ h => h) HS (fun v hv => run_lens rfl (by simp [EV]) (fun cs => len_g oG nG cG v cs)) ?_
  refine take_run (i := 5) (u := .int .i64 (mG : Nat)) rfl (by kernel_rfl) (by kernel_rfl) (by kernel_rfl) rfl rfl (fun _ _ _ h => h) HS (fun v hv => run_min rfl (by simp [EV]) (by rfl) (fun cs => min_run nG 18 mG 18 rfl HSL.out.1 v cs)) ?_
  refine take_run (i := 6) (u := .slice og mG cg) rfl (by kernel_rfl) (by kernel_rfl) (by kernel_rfl) rfl rfl (fun _ _ _ h => h) HS (fun v hv => run_slice_hi rfl (by simp [EV]) (by simp [EV]) Try.underlying63 (HSL.out.2.2.1 v)) ?_
  refine take_run (i := 7) (u := .pointer (some ⟨cb, 14, none⟩)) rfl (by kernel_rfl) (by kernel_rfl) (by kernel_rfl) rfl rfl (fun _ _ _ h => h) HS (fun v hv => run_field (s := .pointer (some ⟨cb, 0, none⟩)) rfl (by simp [EV]) (by kernel_rfl)) ?_
  refine take_run (i := 8) (u := .slice oD nD cD) rfl (by kernel_rfl) (by kernel_rfl) (by kernel_rfl) rfl rfl (fun _ _ _ h => h) HS (fun v hv => run_load1 (s := .pointer (some ⟨cb, 14, none⟩)) rfl (by simp [EV]) (by have c : v.cell? ⟨cb, 14, none⟩ = some (.slice oD nD cD) := hv.2; go_simp)) ?_
  refine take_run (i := 9) (u := .pointer (some ⟨cb, 14, none⟩)) rfl (by kernel_rfl) (by kernel_rfl) (by kernel_rfl) rfl rfl (fun _ _ _ h => h) HS (fun v hv => run_field (s := .pointer (some ⟨cb, 0, none⟩)) rfl (by simp [EV]) (by kernel_rfl)) ?_
  refine take_run (i := 10) (u := .slice oD nD cD) rfl (by kernel_rfl) (by kernel_rfl) (by kernel_rfl) rfl rfl (fun _ _ _ h => h) HS (fun v hv => run_load1 (s := .pointer (some ⟨cb, 14, none⟩)) rfl (by simp [EV]) (by have c : v.cell? ⟨cb, 14, none⟩ = some (.slice oD nD cD) := hv.2; go_simp)) ?_
  refine take_run (i := 11) (u := .int .i64 (nD : Nat)) rfl (by kernel_rfl) (by kernel_rfl) (by kernel_rfl) rfl rfl (fun _ _ _ h => h) HS (fun v hv => run_lens rfl (by simp [EV]) (fun cs => len_d oD nD cD v cs)) ?_
  refine take_run (i := 12) (u := .int .i64 (mD : Nat)) rfl (by kernel_rfl) (by kernel_rfl) (by kernel_rfl) rfl rfl (fun _ _ _ h => h) HS (fun v hv => run_min rfl (by simp [EV]) (by rfl) (fun cs => min_run nD 18 mD 18 rfl HSL.out.2.1 v cs)) ?_
  refine take_run (i := 13) (u := .slice od mD cd) rfl (by kernel_rfl) (by kernel_rfl) (by kernel_rfl) rfl rfl (fun _ _ _ h => h) HS (fun v hv => run_slice_hi rfl (by simp [EV]) (by simp [EV]) Try.underlying48 (HSL.out.2.2.2 v)) ?_
  refine take_run (i := 14) (u := .pointer (some ⟨ob, 13, none⟩)) rfl (by kernel_rfl) (by kernel_rfl) (by kernel_rfl) rfl rfl (fun _ _ _ h => h) HS (fun v hv => run_field (s := .pointer (some ⟨ob, 0, none⟩)) rfl (by simp [EV]) (by kernel_rfl)) ?_
  have f13 : w10.drew.frozen? ⟨ob, 13, none⟩ = false := O6.drew.frozen 13
  have c13 : w10.drew.cell? ⟨ob, 13, none⟩ = some (.slice oG nG cG) := O6.drew.cell 13
  have O7 : Blk (w10.drew.setCell ⟨ob, 13, none⟩ (.slice og mG cg)) ob 65 (ccv ty fl t st ss pr tg rw ou ii d' vP vK (.slice og mG cg) (.slice oD nD cD)) := O6.drew.set_ 13 _
  have X7 := X6.drew.far (p := ⟨ob, 13, none⟩) (show cb ≠ ob by omega) (.slice og mG cg)
  have R7 := R6.drew.far (p := ⟨ob, 13, none⟩) (show rb ≠ ob by omega) (.slice og mG cg)
  have bel7 := bel6.drew.setCell (p := ⟨ob, 13, none⟩) (show G ≤ ob by omega) (.slice og mG cg)
  refine step_store (i := 15) (p := .pointer (some ⟨ob, 13, none⟩)) (u := .slice og mG cg) (w' := w10.drew.setCell ⟨ob, 13, none⟩ (.slice og mG cg)) (by kernel_rfl) rfl rfl rfl rfl (by simp [EV]) (by simp [EV]) ⟨X7.cell 13, X7.cell 14⟩ (by go_simp) ?_
  clear f13 c13 O6 X6 R6 bel6
  obtain ⟨w11, hw11⟩ : ∃ w11, w10.drew.setCell ⟨ob, 13, none⟩ (.slice og mG cg) = w11 := ⟨_, rfl⟩
  rw [hw11] at O7 X7 R7 bel7
  rw [hw11]
  clear hw11
  have HS : w11.cell? ⟨cb, 13, none⟩ = some (.slice oG nG cG) ∧ w11.cell? ⟨cb, 14, none⟩ = some (.slice oD nD cD) := ⟨X7.cell 13, X7.cell 14⟩
  refine take_run (i := 16) (u := .pointer (some ⟨ob, 14, none⟩)) rfl (by kernel_rfl) (by kernel_rfl) (by kernel_rfl) rfl rfl (fun _ _ _ h => h) HS (fun v hv => run_field (s := .pointer (some ⟨ob, 0, none⟩)) rfl (by simp [EV]) (by kernel_rfl)) ?_
  have f14 : w11.frozen? ⟨ob, 14, none⟩ = false := O7.frozen 14
  have c14 : w11.cell? ⟨ob, 14, none⟩ = some (.slice oD nD cD) := O7.cell 14
  have O8 : Blk (w11.setCell ⟨ob, 14, none⟩ (.slice od mD cd)) ob 65 (ccv ty fl t st ss pr tg rw ou ii d' vP vK (.slice og mG cg) (.slice od mD cd)) := O7.set_ 14 _
  have X8 := X7.far (p := ⟨ob, 14, none⟩) (show cb ≠ ob by omega) (.slice od mD cd)
  have R8 := R7.far (p := ⟨ob, 14, none⟩) (show rb ≠ ob by omega) (.slice od mD cd)
  have bel8 := bel7.setCell (p := ⟨ob, 14, none⟩) (show G ≤ ob by omega) (.slice od mD cd)
  refine step_store (i := 17) (p := .pointer (some ⟨ob, 14, none⟩)) (u := .slice od mD cd) (w' := w11.setCell ⟨ob, 14, none⟩ (.slice od mD cd)) (by kernel_rfl) rfl rfl rfl rfl (by simp [EV]) (by simp [EV]) ⟨X8.cell 13, X8.cell 14⟩ (by go_simp) ?_
  refine wpAnyH_done (by kernel_rfl) ?_ _
  refine NoPanic.normal ?_
  rw [HB.out]
  simp only [Act.put, List.setIfInBounds_toArray, List.set_cons_zero, List.set_cons_succ]
  clear HB HS EV e1' e3' hsz O7 X7 R7 bel7 f14 c14 X8
  obtain ⟨w12, hw12⟩ : ∃ w12, w11.setCell ⟨ob, 14, none⟩ (.slice od mD cd) = w12 := ⟨_, rfl⟩
  rw [hw12] at O8 R8 bel8
  rw [hw12]
  clear hw12
  obtain ⟨o1, n1, c1, rfl⟩ := hvP
  obtain ⟨o2, n2, c2, rfl⟩ := hvK
  have szY := sz_cc ty fl t st ss pr tg rw ou ii d' (.slice o1 n1 c1) (.slice o2 n2 c2) (.slice og mG cg) (.slice od mD cd)
  have hone : (ccv ty fl t st ss pr tg rw ou ii d' (.slice o1 n1 c1) (.slice o2 n2 c2) (.slice og mG cg) (.slice od mD cd)).all (·.oneCell') = true := by
    rw [Array.all_eq_true']
    intro x hx
    unfold ccv at hx
    simp only [List.mem_toArray, List.mem_cons, List.not_mem_nil, or_false] at hx
    rcases hx with rfl | rfl | rfl | rfl | rfl | rfl | rfl | rfl | rfl | rfl | rfl | rfl | rfl | rfl | rfl <;> rfl
  have Z := (Cel.of_blk R8).setCells_same (ccv ty fl t st ss pr tg rw ou ii d' (.slice o1 n1 c1) (.slice o2 n2 c2) (.slice og mG cg) (.slice od mD cd)).toList rfl
  have bel9 := below_setCells bel8 (show G ≤ rb by omega) 0 (ccv ty fl t st ss pr tg rw ou ii d' (.slice o1 n1 c1) (.slice o2 n2 c2) (.slice og mG cg) (.slice od mD cd)).toList
  go_wp2_with (first | (refine wpList_load_at rfl 65 _ rfl ob 0 rfl (ccv ty fl t st ss pr tg rw ou ii d' (.slice o1 n1 c1) (.slice o2 n2 c2) (.slice og mG cg) (.slice od mD cd)) _ (Cel.of_blk O8) Try.underlying65 rfl szY ?_) | (refine wpList_store_at rfl 65 _ _ rfl rb 0 (ccv ty fl t st ss pr tg rw ou ii d' (.slice o1 n1 c1) (.slice o2 n2 c2) (.slice og mG cg) (.slice od mD cd)) rfl rfl (ccv 0 0 0 0 0 0 0 0 0 0 ⟨#[]⟩ (.slice none 0 0) (.slice none 0 0) (.slice none 0 0) (.slice none 0 0)) (Cel.of_blk R8) szY rfl hone ?_))
  exact bodyPost_ret (v := .agg (ccv ty fl t st ss pr tg rw ou ii d' (.slice o1 n1 c1) (.slice o2 n2 c2) (.slice og mG cg) (.slice od mD cd))) (results_cell_at rfl _ _ rb 0 (ccv ty fl t st ss pr tg rw ou ii d' (.slice o1 n1 c1) (.slice o2 n2 c2) (.slice og mG cg) (.slice od mD cd)) _ rfl (Z.congr rfl) Try.underlying65 rfl szY) rfl ⟨⟨_, _, _, _, _, _, _, _, _, _, _, _, _, rfl⟩, by rw [HGG.out]; exact bel9⟩
end Go.Proofs.Ythjhiogbnacmdaa.cut
