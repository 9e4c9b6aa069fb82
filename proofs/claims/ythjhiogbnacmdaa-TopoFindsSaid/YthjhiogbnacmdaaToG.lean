/- Layer 32: a topology that is not too great, walked (gen-tog.py wrote this). -/
import Derived.Test.YthjhiogbnacmdaaToF
namespace Go.Proofs.Ythjhiogbnacmdaa.top
open Go.Sort (grow)
open Go.ChangeShapes Go.WideShapes Go.ChangeAt Go.RowKit kit cut
set_option maxRecDepth 100000

theorem heap_setC {g k : Nat} (hne : k ≠ g) : ∀ (vs : List Value) (o : Nat) (w : World), (w.setCells g o vs).heap[k]? = w.heap[k]?
  | [], _, _ => rfl
  | v :: r, o, w => (heap_setC hne r (o + 1) _).trans (Below.heap_setCell w ⟨g, o, none⟩ v k hne)
theorem run_and9 {P : Program} {oi : Oper} {a : Act} {x y : Operand} {tx ty : TypeId} {s j u : Value} {v : World} (ho : oi.op = .binOp .and tx x y ty) (hx : a.eval x = s) (hy : a.eval y = j) (hr : (binOp .and tx s j).run P v = .ok u v) : (execOp a.eval oi).run P v = .ok (.value u) v := by
  unfold execOp
  simp [ho, hx, hy, eqGuard, hr]
theorem andU9 (x y : Int) (W : World) : (binOp .and 28 (.int .u32 x) (.int .u32 y)).run Try.prog W = .ok (.int .u32 (bits .and .u32 x y)) W := by go_simp
theorem infoNs : (Try.prog.info? 54).map (fun i => (i.zero, i.size, i.bytes)) = some (some (.agg #[.int .u32 0, .int .i64 0]), 2, 16) := by kernel_rfl
def updV (pv : Nat → Value) (i : Nat) (v : Value) : Nat → Value := fun k => if k = i then v else pv k
theorem hoc_congr {pv pv' : Nat → Value} : ∀ {n : Nat}, (∀ i, i < n → pv i = pv' i) → hoc pv n = hoc pv' n
  | 0, _ => rfl
  | n + 1, h => by rw [hoc, hoc, hoc_congr (n := n) (fun i hi => h i (by omega)), h n (by omega)]
theorem hoc_upd (pv : Nat → Value) (i : Nat) (v : Value) : hoc (updV pv i v) (i + 1) = hoc pv i ++ (hos v).toList := by
  show hoc (updV pv i v) i ++ (hos (updV pv i v i)).toList = _
  rw [show updV pv i v i = v from if_pos rfl, hoc_congr (pv := updV pv i v) (pv' := pv) (fun j hj => if_neg (by omega))]
set_option maxHeartbeats 16000000 in
theorem cut32 (oH oN : Option Addr) (aH aN : Addr) (nH cH nN cN : Nat) (E : Nat → HoA) (EN : Nat → Int × Int) (B : Nat) (w : World) (hB : B ≤ w.heap.size) (hH : HoR w B oH aH nH cH E) (hN : PlR w B oN aN nN cN EN) :
    Calls Try.prog 16 #[.agg #[.slice oH nH cH, .slice oN nN cN]] w fun e w' => (∃ (vH vN : Value) (pv : Nat → Value), e = .returned (.agg #[vH, vN]) ∧ TM w' w.heap.size vH vN pv (fun i => tk (E i).EP (min (E i).nP 6)) (min nH 8) (tk EN (min nN 6))) ∧ Below w.heap.size w w' := by
  have HH := Lib.hid hH
  have HN := Lib.hid hN
  clear hH hN
  obtain ⟨G, hG⟩ : ∃ G, w.heap.size = G := ⟨_, rfl⟩
  have HGG := Lib.hid hG
  have hPB := Lib.hid (show ∀ w' : World, Below G w w' → Below B w w' from fun w' h => h.mono (by omega))
  have X1 := ((Blk.new w 42 #[.slice oH nH cH, .slice oN nN cN]).alloc (.cells #[.slice none 0 0, .slice none 0 0] 42)).alloc (.cells #[.slice none 0 0, .slice none 0 0] 42)
  have R1 := (blk_new2 w (.cells #[.slice oH nH cH, .slice oN nN cN] 42) 42 #[.slice none 0 0, .slice none 0 0]).alloc (.cells #[.slice none 0 0, .slice none 0 0] 42)
  have O1 := Blk.new ((w.alloc (.cells #[.slice oH nH cH, .slice oN nN cN] 42)).alloc (.cells #[.slice none 0 0, .slice none 0 0] 42)) 42 #[.slice none 0 0, .slice none 0 0]
  have bel1 := (((Below.refl w.heap.size w).alloc (Nat.le_refl _) (.cells #[.slice oH nH cH, .slice oN nN cN] 42)).alloc (by simp) (.cells #[.slice none 0 0, .slice none 0 0] 42)).alloc (by simp; omega) (.cells #[.slice none 0 0, .slice none 0 0] 42)
  have hs1 : ((w.alloc (.cells #[.slice oH nH cH, .slice oN nN cN] 42)).alloc (.cells #[.slice none 0 0, .slice none 0 0] 42)).heap.size = w.heap.size + 1 + 1 := by simp
  rw [hs1] at O1
  rw [hG] at X1 R1 O1 bel1
  clear hs1
  go_enter Try.func16, Try.ntmps16
  go_upto_region 2 with fail
  obtain ⟨w1, hw1⟩ : ∃ w1, ((w.alloc (.cells #[.slice oH nH cH, .slice oN nN cN] 42)).alloc (.cells #[.slice none 0 0, .slice none 0 0] 42)).alloc (.cells #[.slice none 0 0, .slice none 0 0] 42) = w1 := ⟨_, rfl⟩
  rw [hw1] at X1 R1 O1 bel1
  try rw [hw1]
  clear hw1
  obtain ⟨cb, rb, ob, b1, hcb, hrb, hob, h01, h12, h23, h34, h35⟩ : ∃ cb rb ob b1 : Nat, G = cb ∧ G + 1 = rb ∧ G + 1 + 1 = ob ∧ G ≤ cb ∧ cb < rb ∧ rb < ob ∧ ob < b1 ∧ b1 ≤ ob + 1 := ⟨G, G + 1, G + 1 + 1, G + 1 + 1 + 1, rfl, rfl, rfl, by omega, by omega, by omega, by omega, by omega⟩
  rw [hcb] at X1
  rw [hrb] at R1
  rw [hob] at O1
  rw [hob, hrb, hcb]
  clear hcb hrb hob
  have HL := Lib.hid (show Hc G b1 cb rb ob E oH nH cH (.slice oN nN cN) 0 (.slice none 0 0) (fun _ => .slice none 0 0) w w1 from ⟨Qo.nil _ _ _, fun j hj => absurd hj (Nat.not_lt_zero j), fun j hj => absurd hj (Nat.not_lt_zero j), O1, X1, R1, bel1⟩)
  clear O1 X1 R1 bel1
  obtain ⟨mm, hmm, hm1, hm2⟩ : ∃ n : Nat, n = min nH 8 ∧ n ≤ nH ∧ n ≤ 8 := ⟨min nH 8, rfl, by omega, by omega⟩
  have HMM := Lib.hid hmm
  clear hmm
  go_upto_block 0 with fail
  go_cut [] (fun wx => ∃ (vH : Value) (pv : Nat → Value), Hc G b1 cb rb ob E oH nH cH (.slice oN nN cN) mm vH pv w wx)
  case first =>
    go_wp2_with fail
    go_loopw [4] (fun s4 wr => ∃ (i : Nat) (vH : Value) (pv : Nat → Value), s4 = .int .i64 (i : Nat) ∧ i ≤ mm ∧ Hc G b1 cb rb ob E oH nH cH (.slice oN nN cN) i vH pv w wr) (fun s4 _ => mm - (intOf s4).toNat)
    case atStart => exact ⟨0, _, _, rfl, Nat.zero_le _, HL.out⟩
    case round =>
      rename World => wr
      clear HL
      obtain ⟨i, vH, pv, rfl, hi, K⟩ := hrel
      have x0 : wr.cell? ⟨cb, 0, none⟩ = some (.slice oH nH cH) := K.X.cell 0
      have hbs := K.bel.size
      have hol := K.O.lt
      by_cases hlt : i < mm
      · have hin : i < nH := by omega
        have hii : (i : Int) < (nH : Int) := by omega
        have hi8 : (i : Int) < 8 := by omega
        have hi0 : (0 : Int) ≤ (i : Int) := by omega
        obtain rfl := HH.out.ho (by omega)
        have KH := HH.out.below (hPB.out _ K.bel)
        have hrow := KH.cell i hin
        have hab := HH.out.hb (by omega)
        have hplr := KH.ok i hin
        obtain ⟨x, hx⟩ : ∃ x, E i = x := ⟨_, rfl⟩
        rw [hx] at hrow hplr
        have HX := Lib.hid hx
        have r0 : wr.cell? (aH.add (i * 3)) = some (.slice x.oP x.nP x.cP) := by have := hrow 0 _ rfl; rw [add_zz] at this; exact this
        have N2 := Blk.new wr 50 #[.slice none 0 0, .string ⟨#[]⟩, .slice none 0 0]
        have al2 := (Below.refl wr.heap.size wr).alloc (Nat.le_refl _) (.cells #[.slice none 0 0, .string ⟨#[]⟩, .slice none 0 0] 50)
        clear KH hrow hx
        go_upto_region 6 with fail
        obtain ⟨w3, hw3⟩ : ∃ w3, wr.alloc (.cells #[.slice none 0 0, .string ⟨#[]⟩, .slice none 0 0] 50) = w3 := ⟨_, rfl⟩
        rw [hw3] at N2 al2
        try rw [hw3]
        clear hw3 x0
        obtain ⟨eb, heb⟩ : ∃ eb, wr.heap.size = eb := ⟨_, rfl⟩
        rw [heb] at N2 al2 hbs hol
        try rw [heb]
        have HEB := Lib.hid heb
        have HK := Lib.hid K
        have HPL := Lib.hid hplr
        have HR0 := Lib.hid r0
        clear heb K hplr r0
        obtain ⟨mp, hmp, hp1, hp2⟩ : ∃ n : Nat, n = min x.nP 6 ∧ n ≤ x.nP ∧ n ≤ 6 := ⟨min x.nP 6, rfl, by omega, by omega⟩
        have HMP := Lib.hid hmp
        clear hmp
        go_upto_block 2 with fail
        go_cut [] (fun wx => ∃ v : Value, Qo wx (eb + 1) 2 v mp (cellsPl (tk x.EP mp)) ∧ Blk wx eb 50 (hos v) ∧ Below eb wr wx)
        case first =>
          have HN2 := Lib.hid (And.intro N2 al2)
          clear N2 al2
          go_wp2_with fail
          go_loopw [6] (fun s6 wy => ∃ (k : Nat) (v : Value), s6 = .int .i64 (k : Nat) ∧ k ≤ mp ∧ Qo wy (eb + 1) 2 v k (cellsPl (tk x.EP k)) ∧ Blk wy eb 50 (hos v) ∧ Below eb wr wy) (fun s6 _ => mp - (intOf s6).toNat)
          case atStart => exact ⟨0, _, rfl, Nat.zero_le _, Qo.nil _ _ _, HN2.out.1, HN2.out.2⟩
          case round =>
            rename World => wy
            clear HN2
            obtain ⟨k, v, rfl, hk, q, NB, bel⟩ := hrel
            have hby := bel.size
            have hey := HEB.out
            have x0 : wy.cell? ⟨cb, 0, none⟩ = some (.slice (some aH) nH cH) := (bel.cell (p := ⟨cb, 0, none⟩) (show cb < eb by omega)).trans (HK.out.X.cell 0)
            have r0 : wy.cell? (aH.add (i * 3)) = some (.slice x.oP x.nP x.cP) := (bel.cell (p := aH.add (i * 3)) (by rw [addr_add_block]; have := HGG.out; omega)).trans HR0.out
            by_cases hkl : k < mp
            · have hkn : (k : Int) < (x.nP : Int) := by omega
              have hk6 : (k : Int) < 6 := by omega
              have hk0 : (0 : Int) ≤ (k : Int) := by omega
              have hkn2 : k < x.nP := by omega
              rw [HPL.out.ho (by omega)] at r0
              obtain ⟨⟨e1, e2⟩, hee⟩ : ∃ e, x.EP k = e := ⟨_, rfl⟩
              have hpc : ∀ (j : Nat) u, (#[.int .u32 e1, .int .i64 e2] : Array Value)[j]? = some u → wy.cell? ((x.aP.add (k * 2)).add j) = some u := fun j u hu => (bel.cell (p := (x.aP.add (k * 2)).add j) (by rw [addr_add_block, addr_add_block]; have := HPL.out.hb (by omega); have := HGG.out; omega)).trans (HPL.out.cell k hkn2 j u (by rw [hee]; exact hu))
              have HEE := Lib.hid hee
              have szp := szPl (e1, e2)
              unfold pl at szp
              dsimp only at szp
              have P5 := Blk.new wy 52 #[.int .u32 e1, .int .i64 e2]
              have al5 := (Below.refl wy.heap.size wy).alloc (Nat.le_refl _) (.cells #[.int .u32 e1, .int .i64 e2] 52)
              have hnb := NB.lt
              clear hee
              go_upto_region 10 with (refine wpList_load_from rfl 52 _ rfl (x.aP.add (k * 2)) rfl #[.int .u32 e1, .int .i64 e2] _ hpc Try.underlying52 rfl szp ?_)
              have q5 := q.below al5 (Nat.le_refl _)
              have N5 := NB.below al5 hnb
              have bel5 := bel.trans (al5.mono (by omega))
              obtain ⟨w5, hw5⟩ : ∃ w5, wy.alloc (.cells #[.int .u32 e1, .int .i64 e2] 52) = w5 := ⟨_, rfl⟩
              rw [hw5] at P5 q5 N5 bel5
              try rw [hw5]
              clear hw5 al5 q NB bel hpc szp x0 r0
              obtain ⟨oq, cq, hvq, _, _⟩ := q5.shape
              subst hvq
              have hs5 := P5.lt
              have p0 : w5.cell? ⟨wy.heap.size, 0, none⟩ = some (.int .u32 e1) := P5.cell 0
              have p1 : w5.cell? ⟨wy.heap.size, 1, none⟩ = some (.int .i64 e2) := P5.cell 1
              have n0 : w5.cell? ⟨eb, 0, none⟩ = some (.slice oq k cq) := N5.cell 0
              obtain ⟨i0, hi0', hz0, hz1, hz2⟩ := info_parts infoPl
              have al6 := (Below.refl w5.heap.size w5).alloc (Nat.le_refl _) (.cells #[.int .u32 (bits .and .u32 e1 31), .int .i64 e2] 52)
              have hs6 := al6.size
              have I6 := src_item (P := Try.prog) (SL := 47) (sz := 2) Try.underlying47 (Blk.new w5 52 #[.int .u32 (bits .and .u32 e1 31), .int .i64 e2]) (pl_one (bits .and .u32 e1 31, e2)) rfl
              obtain ⟨v7, w7, hr7, q7, gr7, ha7⟩ := qo_append (P := Try.prog) (t := 47) (ty := 47) Try.underlying47 hi0' hz0 hz1 hz2 rfl (q5.below al6 (Nat.le_refl _)) I6 (by unfold maxLen; omega) (by omega) (by omega)
              have hql := fun j (hj : blkOf (.slice oq k cq) = some j) => (q5.lt hj).1
              have N7 : Blk w7 eb 50 (hos (.slice oq k cq)) := (gr7.block eb (by omega) (fun e => by have := hql _ e.symm; omega)).trans (N5.below al6 (by omega))
              have bel7 : Below eb wr w7 := (bel5.trans (al6.mono (by omega))).grown gr7 (by omega) (fun j hj => by have := hql j hj; omega)
              have q7' : Qo w7 (eb + 1) 2 v7 (k + 1) (cellsPl (tk x.EP (k + 1))) := by
                rw [cells_tk, HEE.out]
                exact q7
              have hv7 : ∀ j, blkOf v7 = some j → eb + 1 ≤ j := fun j hj => (q7'.lt hj).1
              obtain ⟨o7, c7, hv7e, _, _⟩ := q7'.shape
              subst hv7e
              have n7 : w7.cell? ⟨eb, 0, none⟩ = some (.slice oq k cq) := N7.cell 0
              have f7 : w7.frozen? ⟨eb, 0, none⟩ = false := N7.frozen 0
              have HE := Lib.hid (And.intro (q7'.far (p := ⟨eb, 0, none⟩) (fun e => by have := hv7 _ e; have : eb + 1 ≤ eb := this; omega) (.slice o7 (k + 1) c7)) (And.intro (show Blk (w7.setCell ⟨eb, 0, none⟩ (.slice o7 (k + 1) c7)) eb 50 (hos (.slice o7 (k + 1) c7)) from N7.set_ 0 _) (bel7.setCell (p := ⟨eb, 0, none⟩) (Nat.le_refl eb) (.slice o7 (k + 1) c7))))
              clear q5 N5 bel5 P5 al6 hs6 I6 q7 gr7 ha7 hql N7 bel7 q7' hv7 hi0' hz0 hz1 hz2
              go_upto_region 8 with (at_builtin; refine wpList_append_q rfl _ _ _ rfl rfl rfl hr7 ?_)
              clear hr7 p0 p1 n0 n7 f7
              go_wp2_with fail
              go_roundw
              case rel => exact ⟨k + 1, _, by go_num, by omega, HE.out.1, HE.out.2.1, HE.out.2.2⟩
              case measure => simp [intOf]; omega
            · obtain rfl : k = mp := by omega
              have HE := Lib.hid (And.intro q (And.intro NB bel))
              have hmin := HMP.out
              clear q NB bel
              by_cases hkn : (k : Int) < (x.nP : Int)
              · have hk6 : ¬ (k : Int) < 6 := by omega
                clear hmin
                go_wp2_with fail
                go_meet
                exact ⟨v, HE.out.1, HE.out.2.1, HE.out.2.2⟩
              · clear hmin
                go_wp2_with fail
                go_meet
                exact ⟨v, HE.out.1, HE.out.2.1, HE.out.2.2⟩
        case rest =>
          clear N2 al2
          obtain ⟨v, q, NB, bel⟩ := hcut
          generalize wc = w5 at *
          have hey := HEB.out
          have K5 := HK.out.below bel (by omega) (by have := HGG.out; have := HK.out.bel.size; omega)
          obtain ⟨o1, c1, hv1, _, _⟩ := q.shape
          subst hv1
          obtain ⟨oq, cq, hvq, _, _⟩ := K5.H.shape
          subst hvq
          have hb5 := bel.size
          have hnb := NB.lt
          have hob5 := K5.O.lt
          have o0 : w5.cell? ⟨ob, 0, none⟩ = some (.slice oq i cq) := K5.O.cell 0
          have CN := Cel.of_blk NB
          unfold hos at CN
          have szh := szHo (.slice o1 mp c1)
          unfold hos at szh
          obtain ⟨i0, hi0', hz0, hz1, hz2⟩ := info_parts infoHo
          have al6 := (Below.refl w5.heap.size w5).alloc (Nat.le_refl _) (.cells #[.slice o1 mp c1, .string ⟨#[]⟩, .slice none 0 0] 50)
          have hs6 := al6.size
          have hs6' : (w5.alloc (.cells #[.slice o1 mp c1, .string ⟨#[]⟩, .slice none 0 0] 50)).heap.size = w5.heap.size + 1 := by simp
          have I6 := src_item (P := Try.prog) (SL := 39) (sz := 3) Try.underlying39 (Blk.new w5 50 #[.slice o1 mp c1, .string ⟨#[]⟩, .slice none 0 0]) (fun u hu => by simp only [List.mem_cons, List.not_mem_nil, or_false] at hu; rcases hu with rfl | rfl | rfl <;> rfl) rfl
          have K6 := K5.below al6 (Nat.le_refl _) (by have := HGG.out; have := K5.bel.size; omega)
          obtain ⟨v7, w7, hr7, q7, gr7, ha7⟩ := qo_append (P := Try.prog) (t := 39) (ty := 39) Try.underlying39 hi0' hz0 hz1 hz2 rfl K6.H I6 (by unfold maxLen; omega) (by omega) (by omega)
          have hvl : ∀ j, blkOf (.slice oq i cq) = some j → b1 ≤ j ∧ j < eb := fun j hj => by have h := HK.out.H.lt hj; exact ⟨h.1, by omega⟩
          have hql : ∀ j, blkOf (.slice o1 mp c1) = some j → eb + 1 ≤ j ∧ j < w5.heap.size := fun j hj => q.lt hj
          have hpl : ∀ j, j < i → ∀ k, blkOf (pv j) = some k → b1 ≤ k ∧ k < eb := fun j hj k hk => by have h := (HK.out.P j hj).lt hk; exact ⟨h.1, by omega⟩
          have P7 : ∀ j, j < i + 1 → Qo w7 b1 2 (updV pv i (.slice o1 mp c1) j) (min (E j).nP 6) (cellsPl (tk (E j).EP (min (E j).nP 6))) := fun j hj => by
            by_cases e : j = i
            · subst e
              rw [show updV pv j (.slice o1 mp c1) j = .slice o1 mp c1 from if_pos rfl, HX.out, ← HMP.out]
              refine (((q.below al6 (Nat.le_refl _)).block gr7.size fun g hg => gr7.block g (by have := hql g hg; omega) (fun e => by have := hvl g e.symm; have := hql g hg; omega))).weaken (by omega)
            · rw [show updV pv i (.slice o1 mp c1) j = pv j from if_neg e]
              exact (K6.P j (by omega)).block gr7.size fun g hg => gr7.block g (by have := hpl j (by omega) g hg; omega) (fun e => K5.D j (by omega) g hg e.symm)
          have D7 : ∀ j, j < i + 1 → ∀ k, blkOf (updV pv i (.slice o1 mp c1) j) = some k → blkOf v7 ≠ some k := fun j hj k hk e7 => by
            have hk5 : k < w5.heap.size ∧ blkOf (.slice oq i cq) ≠ some k := by
              by_cases e : j = i
              · subst e
                rw [show updV pv j (.slice o1 mp c1) j = .slice o1 mp c1 from if_pos rfl] at hk
                exact ⟨(hql k hk).2, fun e => by have := hvl k e; have := hql k hk; omega⟩
              · rw [show updV pv i (.slice o1 mp c1) j = pv j from if_neg e] at hk
                exact ⟨by have := hpl j (by omega) k hk; omega, K5.D j (by omega) k hk⟩
            rcases ha7 with e | e | e
            · rw [e] at e7; exact hk5.2 e7
            · rw [e] at e7; cases e7; omega
            · rw [e] at e7; cases e7
          have O7 : Blk w7 ob 42 #[.slice oq i cq, .slice none 0 0] := (gr7.block ob (by omega) (fun e => by have := hvl ob e.symm; omega)).trans K6.O
          have X7 : Blk w7 cb 42 #[.slice (some aH) nH cH, .slice oN nN cN] := (gr7.block cb (by omega) (fun e => by have := hvl cb e.symm; omega)).trans K6.X
          have R7 : Blk w7 rb 42 #[.slice none 0 0, .slice none 0 0] := (gr7.block rb (by omega) (fun e => by have := hvl rb e.symm; omega)).trans K6.R
          have bel7 : Below G w w7 := K6.bel.grown gr7 (by have := HGG.out; have := K5.bel.size; omega) (fun j hj => by have := hvl j hj; omega)
          have q7' : Qo w7 b1 3 v7 (i + 1) (hoc (updV pv i (.slice o1 mp c1)) (i + 1)) := by rw [hoc_upd]; exact q7
          have hv7 : ∀ j, blkOf v7 = some j → b1 ≤ j := fun j hj => (q7'.lt hj).1
          have hp7 : ∀ j, j < i + 1 → ∀ k, blkOf (updV pv i (.slice o1 mp c1) j) = some k → b1 ≤ k := fun j hj k hk => ((P7 j hj).lt hk).1
          obtain ⟨o7, c7, hv7e, _, _⟩ := q7'.shape
          subst hv7e
          have o7c : w7.cell? ⟨ob, 0, none⟩ = some (.slice oq i cq) := O7.cell 0
          have f7 : w7.frozen? ⟨ob, 0, none⟩ = false := O7.frozen 0
          have HE := Lib.hid (show Hc G b1 cb rb ob E (some aH) nH cH (.slice oN nN cN) (i + 1) (.slice o7 (i + 1) c7) (updV pv i (.slice o1 mp c1)) w (w7.setCell ⟨ob, 0, none⟩ (.slice o7 (i + 1) c7)) from
            ⟨q7'.far (p := ⟨ob, 0, none⟩) (fun e => by have := hv7 _ e; have : b1 ≤ ob := this; omega) _, fun j hj => (P7 j hj).far (p := ⟨ob, 0, none⟩) (fun e => by have := hp7 j hj _ e; have : b1 ≤ ob := this; omega) _, D7, O7.set_ 0 _, X7.far (p := ⟨ob, 0, none⟩) (show cb ≠ ob by omega) _, R7.far (p := ⟨ob, 0, none⟩) (show rb ≠ ob by omega) _, bel7.setCell (p := ⟨ob, 0, none⟩) (show G ≤ ob by omega) _⟩)
          clear K5 K6 q al6 hs6 hs6' I6 q7 gr7 ha7 hvl hql hpl P7 D7 O7 X7 R7 bel7 q7' hv7 hp7 hi0' hz0 hz1 hz2 NB bel
          go_upto_region 4 with (first | (refine wpList_load_at rfl 50 _ rfl eb 0 rfl #[.slice o1 mp c1, .string ⟨#[]⟩, .slice none 0 0] _ CN Try.underlying50 rfl szh ?_) | (at_builtin; refine wpList_append_q rfl _ _ _ rfl rfl rfl hr7 ?_))
          clear hr7 CN szh o0 o7c f7
          go_wp2_with fail
          go_roundw
          case rel => exact ⟨i + 1, _, _, by go_num, by omega, HE.out⟩
          case measure => simp [intOf]; omega
      · obtain rfl : i = mm := by omega
        have HE := Lib.hid K
        have hmin := HMM.out
        clear K
        by_cases hin : (i : Int) < (nH : Int)
        · have hi8 : ¬ (i : Int) < 8 := by omega
          clear hmin
          go_wp2_with fail
          go_meet
          exact ⟨_, _, HE.out⟩
        · clear hmin
          go_wp2_with fail
          go_meet
          exact ⟨_, _, HE.out⟩
  case rest =>
  obtain ⟨vH, pv, K⟩ := hcut
  clear HL
  generalize wc = w9 at *
  obtain ⟨oq9, cq9, hvH, _, _⟩ := K.H.shape
  subst hvH
  obtain ⟨nn, hnn, hn1, hn2⟩ : ∃ n : Nat, n = min nN 6 ∧ n ≤ nN ∧ n ≤ 6 := ⟨min nN 6, rfl, by omega, by omega⟩
  have HNN := Lib.hid hnn
  clear hnn
  obtain ⟨bN, hbN⟩ : ∃ bN, w9.heap.size = bN := ⟨_, rfl⟩
  have HBN := Lib.hid hbN
  have hGb : G < bN := by have := K.X.lt; omega
  have hobb : ob < bN := by have := K.O.lt; omega
  have HK := Lib.hid K
  clear K hbN
  go_upto_block 4 with fail
  go_cut [] (fun wx => ∃ vn : Value, Qo wx bN 2 vn nn (cellsPl (tk EN nn)) ∧ Blk wx ob 42 #[.slice oq9 mm cq9, vn] ∧ (∀ j, j < bN → j ≠ ob → wx.heap[j]? = w9.heap[j]?) ∧ bN ≤ wx.heap.size ∧ Below G w wx)
  case first =>
    go_wp2_with fail
    go_loopw [8] (fun s8 wr => ∃ (k : Nat) (vn : Value), s8 = .int .i64 (k : Nat) ∧ k ≤ nn ∧ Qo wr bN 2 vn k (cellsPl (tk EN k)) ∧ Blk wr ob 42 #[.slice oq9 mm cq9, vn] ∧ (∀ j, j < bN → j ≠ ob → wr.heap[j]? = w9.heap[j]?) ∧ bN ≤ wr.heap.size ∧ Below G w wr) (fun s8 _ => nn - (intOf s8).toNat)
    case atStart => exact ⟨0, _, rfl, Nat.zero_le _, Qo.nil _ _ _, HK.out.O, fun _ _ _ => rfl, by rw [HBN.out]; exact Nat.le_refl _, HK.out.bel⟩
    case round =>
      rename World => w5
      obtain ⟨k, vn, rfl, hk, q5, O5, F5, S5, bel5⟩ := hrel
      have X5 : Blk w5 cb 42 #[.slice oH nH cH, .slice oN nN cN] := (F5 cb (by omega) (by omega)).trans HK.out.X
      have x1 : w5.cell? ⟨cb, 1, none⟩ = some (.slice oN nN cN) := X5.cell 1
      by_cases hlt : k < nn
      · have hii : (k : Int) < (nN : Int) := by omega
        have hk6 : (k : Int) < 6 := by omega
        have hk0 : (0 : Int) ≤ (k : Int) := by omega
        have hkn : k < nN := by omega
        obtain rfl := HN.out.ho (by omega)
        have hab := HN.out.hb (by omega)
        have KB := HN.out.below (hPB.out _ bel5)
        have hpc := KB.cell k hkn
        obtain ⟨⟨e1, e2⟩, hee⟩ : ∃ e, EN k = e := ⟨_, rfl⟩
        rw [hee] at hpc
        have HEE := Lib.hid hee
        have p0 : w5.drew.cell? (aN.add (k * 2)) = some (.int .u32 e1) := by have := hpc 0 _ rfl; rw [add_zz] at this; exact this
        have p1 : w5.drew.cell? ⟨(aN.add (k * 2)).block, (aN.add (k * 2)).off + 1, none⟩ = some (.int .i64 e2) := by have := hpc 1 _ rfl; rw [add_zo] at this; exact this
        obtain ⟨oq, cq, hvq, _, _⟩ := q5.shape
        subst hvq
        obtain ⟨i0, hi0', hz0, hz1, hz2⟩ := info_parts infoNs
        have hBG : B ≤ G := by have := HGG.out; omega
        clear KB hpc hee
        go_upto_region 15 with fail
        clear x1
        refine wp_region_noPanic ?_
        have HS : ((fun v => v.cell? ⟨ob, 1, none⟩ = some (.slice oq k cq) ∧ v.cell? ⟨cb, 1, none⟩ = some (.slice (some aN) nN cN) ∧ v.cell? (aN.add (k * 2)) = some (.int .u32 e1) ∧ v.cell? ⟨(aN.add (k * 2)).block, (aN.add (k * 2)).off + 1, none⟩ = some (.int .i64 e2)) : World → Prop) w5.drew := ⟨O5.drew.cell 1, X5.drew.cell 1, p0, p1⟩
        refine begin_C (fun v => v.cell? ⟨ob, 1, none⟩ = some (.slice oq k cq) ∧ v.cell? ⟨cb, 1, none⟩ = some (.slice (some aN) nN cN) ∧ v.cell? (aN.add (k * 2)) = some (.int .u32 e1) ∧ v.cell? ⟨(aN.add (k * 2)).block, (aN.add (k * 2)).off + 1, none⟩ = some (.int .i64 e2)) 19 (by kernel_rfl) ?_
        obtain ⟨w6, hw6⟩ : ∃ w6, w5.drew = w6 := ⟨_, rfl⟩
        have O6 := O5.drew
        have X6 := X5.drew
        have q6 := q5.drew
        have bel6 := bel5.drew
        have F6 : ∀ j, j < bN → j ≠ ob → w5.drew.heap[j]? = w9.heap[j]? := F5
        have S6 : bN ≤ w5.drew.heap.size := S5
        rw [hw6] at O6 X6 q6 bel6 HS F6 S6
        rw [hw6]
        clear hw6 O5 X5 q5 bel5 p0 p1 F5 S5
        refine abs_C _ (fun ac hac => ?_)
        have hsz : ac.tmps.size = 94 := by rw [hac]; rfl
        have e1' : ac.eval (.tmp 1) = .pointer (some ⟨cb, 0, none⟩) := by rw [hac]; rfl
        have e3' : ac.eval (.tmp 3) = .pointer (some ⟨ob, 0, none⟩) := by rw [hac]; rfl
        have ej' : ac.eval (.tmp 8) = .int .i64 (k : Nat) := by rw [hac]; rfl
        have HB := Lib.hid hac
        clear hac
        have EV := And.intro @Act.eval_put_ne (And.intro @Act.eval_put_same (And.intro @Act.size_put (And.intro hsz (And.intro e1' (And.intro e3' ej')))))
        refine take_Y (i := 0) (u := .pointer (some ⟨ob, 1, none⟩)) rfl (by kernel_rfl) (by kernel_rfl) (by kernel_rfl) (by decide) rfl rfl (fun _ _ _ h => h) HS (fun v => run_field (s := .pointer (some ⟨ob, 0, none⟩)) rfl (by simp [EV]) (by kernel_rfl)) ?_
        refine take_C (i := 1) [17] (u := .slice oq k cq) rfl (by kernel_rfl) (by kernel_rfl) (by kernel_rfl) (by kernel_rfl) (by kernel_rfl) (by decide) rfl rfl (fun _ _ _ h => h) HS (fun v hv => run_load1 (s := .pointer (some ⟨ob, 1, none⟩)) rfl (by simp [EV]) (by have c := hv.1; go_simp)) ?_
        refine take_Y (i := 2) (u := .pointer (some ⟨cb, 1, none⟩)) rfl (by kernel_rfl) (by kernel_rfl) (by kernel_rfl) (by decide) rfl rfl (fun _ _ _ h => h) HS (fun v => run_field (s := .pointer (some ⟨cb, 0, none⟩)) rfl (by simp [EV]) (by kernel_rfl)) ?_
        refine take_C (i := 3) [5, 6, 7, 8, 15, 16, 17] (u := .slice (some aN) nN cN) rfl (by kernel_rfl) (by kernel_rfl) (by kernel_rfl) (by kernel_rfl) (by kernel_rfl) (by decide) rfl rfl (fun _ _ _ h => h) HS (fun v hv => run_load1 (s := .pointer (some ⟨cb, 1, none⟩)) rfl (by simp [EV]) (by have c : v.cell? ⟨cb, 1, none⟩ = some (.slice (some aN) nN cN) := hv.2.1; go_simp)) ?_
        refine take_Y (i := 4) (u := .int .i64 (k : Nat)) rfl (by kernel_rfl) (by kernel_rfl) (by kernel_rfl) (by decide) rfl rfl (fun _ _ _ h => h) HS (fun v => run_move rfl (by simp [EV]) v) ?_
        refine take_Y (i := 5) (u := .pointer (some (aN.add (k * 2)))) rfl (by kernel_rfl) (by kernel_rfl) (by kernel_rfl) (by decide) rfl rfl (fun _ _ _ h => h) HS (fun v => run_index (s := .slice (some aN) nN cN) (j := .int .i64 (k : Nat)) rfl (by simp [EV]) (by simp [EV]) (by go_simp)) ?_
        refine take_Y (i := 6) (u := .pointer (some (aN.add (k * 2)))) rfl (by kernel_rfl) (by kernel_rfl) (by kernel_rfl) (by decide) rfl rfl (fun _ _ _ h => h) HS (fun v => run_field (s := .pointer (some (aN.add (k * 2)))) rfl (by simp [EV]) (by go_simp)) ?_
        refine take_C (i := 7) [8, 15, 16, 17] (u := .int .u32 e1) rfl (by kernel_rfl) (by kernel_rfl) (by kernel_rfl) (by kernel_rfl) (by kernel_rfl) (by decide) rfl rfl (fun _ _ _ h => h) HS (fun v hv => run_load1 (s := .pointer (some (aN.add (k * 2)))) rfl (by simp [EV]) (by have c := hv.2.2.1; go_simp)) ?_
        refine take_Y (i := 8) (u := .int .u32 (bits .and .u32 e1 31)) rfl (by kernel_rfl) (by kernel_rfl) (by kernel_rfl) (by decide) rfl rfl (fun _ _ _ h => h) HS (fun v => run_and9 rfl (by simp [EV]) (by rfl) (andU9 e1 31 v)) ?_
        refine take_Y (i := 9) (u := .pointer (some ⟨cb, 1, none⟩)) rfl (by kernel_rfl) (by kernel_rfl) (by kernel_rfl) (by decide) rfl rfl (fun _ _ _ h => h) HS (fun v => run_field (s := .pointer (some ⟨cb, 0, none⟩)) rfl (by simp [EV]) (by kernel_rfl)) ?_
        refine take_C (i := 10) [12, 13, 14, 15, 16, 17] (u := .slice (some aN) nN cN) rfl (by kernel_rfl) (by kernel_rfl) (by kernel_rfl) (by kernel_rfl) (by kernel_rfl) (by decide) rfl rfl (fun _ _ _ h => h) HS (fun v hv => run_load1 (s := .pointer (some ⟨cb, 1, none⟩)) rfl (by simp [EV]) (by have c : v.cell? ⟨cb, 1, none⟩ = some (.slice (some aN) nN cN) := hv.2.1; go_simp)) ?_
        refine take_Y (i := 11) (u := .int .i64 (k : Nat)) rfl (by kernel_rfl) (by kernel_rfl) (by kernel_rfl) (by decide) rfl rfl (fun _ _ _ h => h) HS (fun v => run_move rfl (by simp [EV]) v) ?_
        refine take_Y (i := 12) (u := .pointer (some (aN.add (k * 2)))) rfl (by kernel_rfl) (by kernel_rfl) (by kernel_rfl) (by decide) rfl rfl (fun _ _ _ h => h) HS (fun v => run_index (s := .slice (some aN) nN cN) (j := .int .i64 (k : Nat)) rfl (by simp [EV]) (by simp [EV]) (by go_simp)) ?_
        refine take_Y (i := 13) (u := .pointer (some ⟨(aN.add (k * 2)).block, (aN.add (k * 2)).off + 1, none⟩)) rfl (by kernel_rfl) (by kernel_rfl) (by kernel_rfl) (by decide) rfl rfl (fun _ _ _ h => h) HS (fun v => run_field (s := .pointer (some (aN.add (k * 2)))) rfl (by simp [EV]) (by go_simp)) ?_
        refine take_C (i := 14) [15, 16, 17] (u := .int .i64 e2) rfl (by kernel_rfl) (by kernel_rfl) (by kernel_rfl) (by kernel_rfl) (by kernel_rfl) (by decide) rfl rfl (fun _ _ _ h => h) HS (fun v hv => run_load1 (s := .pointer (some ⟨(aN.add (k * 2)).block, (aN.add (k * 2)).off + 1, none⟩)) rfl (by simp [EV]) (by have c := hv.2.2.2; go_simp)) ?_
        refine take_Y (i := 15) (u := .agg #[.int .u32 (bits .and .u32 e1 31), .int .i64 e2]) rfl (by kernel_rfl) (by kernel_rfl) (by kernel_rfl) (by decide) rfl rfl (fun _ _ _ h => h) HS (fun v => run_build2 (s0 := .int .u32 (bits .and .u32 e1 31)) (s1 := .int .i64 e2) rfl (by simp [EV]) (by simp [EV]) (by kernel_rfl)) ?_
        have O7 := O6.alloc (.cells #[.int .u32 (bits .and .u32 e1 31), .int .i64 e2] 54)
        have X7 := X6.alloc (.cells #[.int .u32 (bits .and .u32 e1 31), .int .i64 e2] 54)
        have q7 := q6.alloc (.cells #[.int .u32 (bits .and .u32 e1 31), .int .i64 e2] 54)
        have al7 := (Below.refl w6.heap.size w6).alloc (Nat.le_refl _) (.cells #[.int .u32 (bits .and .u32 e1 31), .int .i64 e2] 54)
        have I7 := src_item (P := Try.prog) (SL := 40) (sz := 2) Try.underlying40 (Blk.new w6 54 #[.int .u32 (bits .and .u32 e1 31), .int .i64 e2]) (pl_one (bits .and .u32 e1 31, e2)) rfl
        have bel7 := bel6.trans (al7.mono (by omega))
        have hS7 := And.intro (al_cell (o := .cells #[.int .u32 (bits .and .u32 e1 31), .int .i64 e2] 54) HS.2.2.1) (al_cell (o := .cells #[.int .u32 (bits .and .u32 e1 31), .int .i64 e2] 54) HS.2.2.2)
        have hs7 := al7.size
        have F7 : ∀ j, j < bN → j ≠ ob → (w6.alloc (.cells #[.int .u32 (bits .and .u32 e1 31), .int .i64 e2] 54)).heap[j]? = w9.heap[j]? := fun j h1 h2 => (al7.block j (by omega)).trans (F6 j h1 h2)
        refine val_C (i := 16) (u := .slice (some ⟨w6.heap.size, 0, none⟩) 1 1) (w' := w6.alloc (.cells #[.int .u32 (bits .and .u32 e1 31), .int .i64 e2] 54)) (by kernel_rfl) rfl rfl rfl (fun _ => ⟨O7.cell 1, X7.cell 1, hS7.1, hS7.2⟩) (run_build1 (u := .agg #[.int .u32 (bits .and .u32 e1 31), .int .i64 e2]) rfl (by simp [EV]) (by kernel_rfl)) ?_
        obtain ⟨w7, hw7⟩ : ∃ w7, w6.alloc (.cells #[.int .u32 (bits .and .u32 e1 31), .int .i64 e2] 54) = w7 := ⟨_, rfl⟩
        rw [hw7] at O7 X7 q7 I7 bel7 hS7 hs7 F7 ⊢
        clear hw7
        obtain ⟨v', w8, hr8, q8, gr, ha⟩ := qo_append (P := Try.prog) (t := 40) (ty := 40) Try.underlying40 hi0' hz0 hz1 hz2 rfl q7 I7 (by unfold maxLen; omega) (by omega) (by omega)
        have hq7 : ∀ j, blkOf (.slice oq k cq) = some j → bN ≤ j := fun j hj => (q7.lt hj).1
        have g8 : Blk w8 ob 42 #[.slice oq9 mm cq9, .slice oq k cq] := (gr.block ob O7.lt (fun e => by have := hq7 _ e.symm; omega)).trans O7
        have x8 : Blk w8 cb 42 #[.slice oH nH cH, .slice (some aN) nN cN] := (gr.block cb X7.lt (fun e => by have := hq7 _ e.symm; omega)).trans X7
        have bel8 : Below G w w8 := bel7.grown gr (by omega) (fun j hj => by have := hq7 _ hj; omega)
        have F8 : ∀ j, j < bN → j ≠ ob → w8.heap[j]? = w9.heap[j]? := fun j h1 h2 => (gr.block j (by omega) (fun e => by have := hq7 _ e.symm; omega)).trans (F7 j h1 h2)
        have hrow0 : w8.cell? (aN.add (k * 2)) = some (.int .u32 e1) := (World.cell?_of_block (gr.block _ (by show (aN.add (k * 2)).block < _; rw [addr_add_block]; omega) (fun e => by have e : some (aN.add (k * 2)).block = blkOf (.slice oq k cq) := e; rw [addr_add_block] at e; have := hq7 _ e.symm; omega))).trans hS7.1
        have hrow1 : w8.cell? ⟨(aN.add (k * 2)).block, (aN.add (k * 2)).off + 1, none⟩ = some (.int .i64 e2) := (World.cell?_of_block (gr.block _ (by show (aN.add (k * 2)).block < _; rw [addr_add_block]; omega) (fun e => by have e : some (aN.add (k * 2)).block = blkOf (.slice oq k cq) := e; rw [addr_add_block] at e; have := hq7 _ e.symm; omega))).trans hS7.2
        have q8' : Qo w8 bN 2 v' (k + 1) (cellsPl (tk EN (k + 1))) := by
          rw [cells_tk, HEE.out]
          exact q8
        have hv8 : ∀ j, blkOf v' = some j → bN ≤ j := fun j hj => (q8'.lt hj).1
        obtain ⟨o8, c8, hv', _, _⟩ := q8'.shape
        subst hv'
        have f8 : w8.frozen? ⟨ob, 1, none⟩ = false := g8.frozen 1
        have c8' : w8.cell? ⟨ob, 1, none⟩ = some (.slice oq k cq) := g8.cell 1
        refine app_C (i := 17) (by kernel_rfl) rfl rfl rfl rfl (by simp [EV]) (by simp [EV]) hr8 (fun _ => ⟨c8', x8.cell 1, hrow0, hrow1⟩) ?_
        refine val_C (i := 18) (u := .pointer (some ⟨ob, 1, none⟩)) (by kernel_rfl) rfl rfl rfl (fun _ => ⟨c8', x8.cell 1, hrow0, hrow1⟩) (run_field (s := .pointer (some ⟨ob, 0, none⟩)) rfl (by simp [EV]) (by kernel_rfl)) ?_
        refine store_C (i := 19) (p := .pointer (some ⟨ob, 1, none⟩)) (u := .slice o8 (k + 1) c8) (w' := w8.setCell ⟨ob, 1, none⟩ (.slice o8 (k + 1) c8)) (by kernel_rfl) rfl rfl rfl rfl (by simp [EV]) (by simp [EV]) (fun h => absurd rfl h) (by go_simp) ?_
        refine done_C (by kernel_rfl) ?_ _
        refine NoPanic.normal ?_
        rw [HB.out]
        simp only [Act.put, List.setIfInBounds_toArray, List.set_cons_zero, List.set_cons_succ]
        have hs8 := gr.size
        have HE := Lib.hid (And.intro (q8'.far (p := ⟨ob, 1, none⟩) (fun e => by have := hv8 _ e; have : bN ≤ ob := this; omega) (.slice o8 (k + 1) c8)) (And.intro (g8.set_ 1 (.slice o8 (k + 1) c8)) (And.intro (show ∀ j, j < bN → j ≠ ob → (w8.setCell ⟨ob, 1, none⟩ (.slice o8 (k + 1) c8)).heap[j]? = w9.heap[j]? from fun j h1 h2 => (Below.heap_setCell w8 ⟨ob, 1, none⟩ _ j h2).trans (F8 j h1 h2)) (And.intro (show bN ≤ (w8.setCell ⟨ob, 1, none⟩ (.slice o8 (k + 1) c8)).heap.size by simp [World.setCell]; omega) (bel8.setCell (p := ⟨ob, 1, none⟩) (show G ≤ ob by omega) (.slice o8 (k + 1) c8))))))
        clear HB HS EV e1' e3' ej' hsz O6 X6 q6 bel6 F6 S6 O7 X7 q7 al7 I7 bel7 hS7 hs7 F7 hr8 q8 gr ha hq7 g8 x8 bel8 F8 hrow0 hrow1 q8' hv8 f8 c8' hs8
        go_wp2_with fail
        go_roundw
        case rel => exact ⟨k + 1, _, by go_num, by omega, HE.out.1, HE.out.2.1, HE.out.2.2.1, HE.out.2.2.2.1, HE.out.2.2.2.2⟩
        case measure => simp [intOf]; omega
      · obtain rfl : k = nn := by omega
        have HE := Lib.hid (And.intro q5 (And.intro O5 (And.intro F5 (And.intro S5 bel5))))
        have hmin := HNN.out
        clear q5 O5 F5 S5 bel5 X5
        by_cases hin : (k : Int) < (nN : Int)
        · have hk6 : ¬ (k : Int) < 6 := by omega
          clear hmin
          go_wp2_with fail
          go_meet
          exact ⟨vn, HE.out.1, HE.out.2.1, HE.out.2.2.1, HE.out.2.2.2.1, HE.out.2.2.2.2⟩
        · clear hmin
          go_wp2_with fail
          go_meet
          exact ⟨vn, HE.out.1, HE.out.2.1, HE.out.2.2.1, HE.out.2.2.2.1, HE.out.2.2.2.2⟩
  case rest =>
  obtain ⟨vn, q, O, F, S, bel⟩ := hcut
  generalize wc = w10 at *
  obtain ⟨on, cn, hvn, _, _⟩ := q.shape
  subst hvn
  have R10 : Blk w10 rb 42 #[.slice none 0 0, .slice none 0 0] := (F rb (by omega) (by omega)).trans HK.out.R
  have hone : (#[.slice oq9 mm cq9, .slice on nn cn] : Array Value).all (·.oneCell') = true := by kernel_rfl
  have szt : (Try.prog.info? 42).map (·.size) = some (#[.slice oq9 mm cq9, .slice on nn cn] : Array Value).size := by show _ = some 2; kernel_rfl
  have CO := Cel.of_blk O
  have CR := Cel.of_blk R10
  have Zc := (Cel.of_blk R10).setCells_same (#[.slice oq9 mm cq9, .slice on nn cn] : Array Value).toList rfl
  have bel11 := below_setCells bel (show G ≤ rb by omega) 0 (#[.slice oq9 mm cq9, .slice on nn cn] : Array Value).toList
  have hsz11 : (w10.setCells rb 0 (#[.slice oq9 mm cq9, .slice on nn cn] : Array Value).toList).heap.size = w10.heap.size := size_setCells (w := w10) ..
  have hwb : w.heap.size ≤ b1 := by have := HGG.out; omega
  have F11 : ∀ j, j < bN → j ≠ ob → j ≠ rb → (w10.setCells rb 0 (#[.slice oq9 mm cq9, .slice on nn cn] : Array Value).toList).heap[j]? = w9.heap[j]? := fun j h1 h2 h3 => (heap_setC h3 _ _ _).trans (F j h1 h2)
  have hb9 := HBN.out
  have TMf : TM (w10.setCells rb 0 (#[.slice oq9 mm cq9, .slice on nn cn] : Array Value).toList) w.heap.size (.slice oq9 mm cq9) (.slice on nn cn) pv (fun i => tk (E i).EP (min (E i).nP 6)) (min nH 8) (tk EN (min nN 6)) := by
    rw [← HMM.out, ← HNN.out]
    refine ⟨?_, fun i hi => ?_, ?_, by omega, fun i hi => by rw [tk_len]; omega, by rw [tk_len]; omega⟩
    · exact (HK.out.H.block (by rw [hsz11]; omega) fun g hg => F11 g (by have := HK.out.H.lt hg; omega) (by have := HK.out.H.lt hg; omega) (by have := HK.out.H.lt hg; omega)).weaken hwb
    · have hp := HK.out.P i hi
      rw [tk_len]
      exact (hp.block (by rw [hsz11]; omega) fun g hg => F11 g (by have := hp.lt hg; omega) (by have := hp.lt hg; omega) (by have := hp.lt hg; omega)).weaken hwb
    · rw [tk_len]
      exact (q.block (by rw [hsz11]; exact Nat.le_refl _) fun g hg => heap_setC (by have := q.lt hg; omega) _ _ _).weaken (by omega)
  have HE := Lib.hid (And.intro TMf bel11)
  clear TMf bel11 F11 hsz11 q O F S bel R10
  go_wp2_with (first | (refine wpList_load_at rfl 42 _ rfl ob 0 rfl #[.slice oq9 mm cq9, .slice on nn cn] _ CO Try.underlying42 rfl szt ?_) | (refine wpList_store_at rfl 42 _ _ rfl rb 0 #[.slice oq9 mm cq9, .slice on nn cn] rfl rfl #[.slice none 0 0, .slice none 0 0] CR szt rfl hone ?_))
  exact bodyPost_ret (v := .agg #[.slice oq9 mm cq9, .slice on nn cn]) (results_cell_at rfl _ _ rb 0 #[.slice oq9 mm cq9, .slice on nn cn] _ rfl (Zc.congr rfl) Try.underlying42 rfl szt) rfl ⟨⟨_, _, rfl, pv, by first | exact HE.out.1 | (rw [← HGG.out]; exact HE.out.1) | (have := HE.out.1; rw [HGG.out] at this; exact this)⟩, by first | exact HE.out.2 | (rw [HGG.out]; exact HE.out.2)⟩
end Go.Proofs.Ythjhiogbnacmdaa.top
