/- Layer 20: whatever waits and is taken; the statement walked (gen-sqi.py wrote this). -/
import Derived.Test.YthddacgdmngfhaaSqHA
import Derived.Test.YthddacgdmngfhaaSqHB
import Derived.Test.YthddacgdmngfhaaSqHG
import Derived.Test.YthddacgdmngfhaaSqHD
import Derived.Test.YthddacgdmngfhaaKitS
namespace Go.Proofs.Ythddacgdmngfhaa.fra
open Go.Sort (grow)
open Go.ChangeShapes Go.WideShapes Go.ChangeAt Go.RowKit kit
set_option maxRecDepth 1000000
theorem add_blk (a : Addr) (i : Nat) : (a.add i).block = a.block := by unfold Addr.add; split <;> rfl
theorem wp_cond_t {P : Program} {c : Operand} {x y : Code} {Q : Exit → Act → World → Prop} {a : Act} {w : World} (hc : a.eval c = .bool true) (h : x.wp P Q a w) : (Code.cond c x y).wp P Q a w := wp_cond hc (by simpa using h)
set_option maxHeartbeats 16000000 in
theorem plays_walk (many : Int) (oa : Option Addr) (ad : Addr) (len cap : Nat) (av : Nat → Aq) (w : World) (hlc : len ≤ cap) (hcm : cap ≤ maxLen) (hoa : 0 < len → oa = some ad) (hab : 0 < len → ad.block < w.heap.size)
    (hv : ∀ i, i < len → ∀ (j : Nat) u, (aqc (av i))[j]? = some u → w.cell? ((ad.add (i * 8)).add j) = some u) (hvs : ∀ i, i < len → (av i).d.size ≤ maxLen ∧ (av i).un ≤ 9223372036854775807) :
    Calls Try.prog 3 #[.int .i64 many, .slice oa len cap] w fun e w' => e = .returned (.bool true) ∧ Below w.heap.size w w' := by
  have hmx := i64_mask many 5 (by omega)
  rw [show ((2 ^ 5 - 1 : Nat) : Int) = 31 from rfl] at hmx
  obtain ⟨b, hb, hb1⟩ : ∃ b : Nat, bits .and .i64 many 31 = b ∧ b ≤ 31 := ⟨(many % (2 ^ 5 : Nat)).toNat, by rw [hmx]; omega, by omega⟩
  clear hmx
  obtain ⟨m, hm⟩ : ∃ m : Nat, min (max 1 b) 16 = m := ⟨_, rfl⟩
  have hm1 : 1 ≤ m ∧ m ≤ 16 := by omega
  unfold maxLen at hcm
  have HV := Lib.hid (And.intro hoa (And.intro hv (And.intro hvs hab)))
  clear hoa hv hvs hab
  obtain ⟨G, hG⟩ : ∃ G, w.heap.size = G := ⟨_, rfl⟩
  go_enter Try.func3, Try.ntmps3
  go_upto_region 1 with fail
  go_cut [5] (fun s5 wx => s5 = .int .i64 m ∧ wx = w)
  case first =>
    by_cases h1 : (1 : Int) ≤ (b : Int)
    · by_cases h2 : (b : Int) ≤ 16
      · go_wp2_with fail
        all_goals
          go_meet
          exact ⟨by first | rfl | (congr 1; omega), rfl⟩
      · go_wp2_with fail
        all_goals
          go_meet
          exact ⟨by first | rfl | (congr 1; omega), rfl⟩
    · go_wp2_with fail
      all_goals
        go_meet
        exact ⟨by first | rfl | (congr 1; omega), rfl⟩
  case rest =>
  obtain ⟨rfl, hwc⟩ := hcut
  obtain rfl : w = wc := hwc.symm
  go_upto_region 2 with fail
  go_cut [6, 7] (fun s6 s7 wx => ∃ (g : Nat) (pv nv : Value), s6 = .pointer (some ⟨g, 0, none⟩) ∧ nv = s7 ∧ Sq G g pv (.slice none 0 0) (List.replicate m 0) [] wx ∧ Qo wx G 1 nv m (cellsN (List.replicate m 0)) ∧ blkOf nv ≠ some g ∧ (∀ k, blkOf pv = some k → blkOf nv ≠ some k) ∧ Below G w wx)
  case first =>
    subst hG
    have hnew := fun W => sq_new b m W hb1 hm
    have hmkA := fun W => mkN_run m W (by omega)
    clear HV
    go_region_law ((refine step_call2 (by rfl) 14 Try.f14 _ _ (by rfl) Try.func14 (by kernel_rfl) (by kernel_rfl) #[.int .i64 b] (by simp [Act.eval, Act.put, hb]) (hnew _) ?_; rintro e w3 ⟨rfl, ⟨pv, S3⟩, hb3⟩; refine ⟨_, rfl, ?_⟩))
    all_goals
      go_wp2_with fail
      go_meet
      first
      | (have hb3' : Below w.heap.size w w3 := (Below.refl w.heap.size w).drew.trans hb3
         have S3' : Sq w.heap.size w.heap.size pv (.slice none 0 0) (List.replicate m 0) [] w3 := S3
         have hs3 := hb3'.size
         have hg3 := S3'.B.lt
         exact ⟨w.heap.size, pv, _, rfl, rfl, S3'.alloc' _, (qo_new w3 m (by omega)).weaken hs3, (fun e => by have e' := blkOf_some e; simp at e'; omega), (fun k hk e => by have := (S3'.p.lt hk).2; have e' := blkOf_some e; simp at e'; omega), hb3'.alloc hs3 _⟩)
      | (have hsz : (w.alloc (.cells (cellsN (List.replicate m 0)).toArray 3)).heap.size = w.heap.size + 1 := by simp
         have hb3' : Below (w.heap.size + 1) (w.alloc (.cells (cellsN (List.replicate m 0)).toArray 3)) w3 := by
           have h := (Below.refl (w.alloc (.cells (cellsN (List.replicate m 0)).toArray 3)).heap.size (w.alloc (.cells (cellsN (List.replicate m 0)).toArray 3))).drew.trans hb3
           rw [hsz] at h
           exact h
         have S4 : Sq (w.heap.size + 1) (w.heap.size + 1) pv (.slice none 0 0) (List.replicate m 0) [] w3 := by
           have h : Sq (w.alloc (.cells (cellsN (List.replicate m 0)).toArray 3)).heap.size (w.alloc (.cells (cellsN (List.replicate m 0)).toArray 3)).heap.size pv (.slice none 0 0) (List.replicate m 0) [] w3 := S3
           rw [hsz] at h
           exact h
         have N3 : Qo w3 w.heap.size 1 (.slice (some ⟨w.heap.size, 0, none⟩) m m) m (cellsN (List.replicate m 0)) := (qo_new w m (by omega)).below hb3' (by rw [hsz]; exact Nat.le_refl _)
         exact ⟨w.heap.size + 1, pv, _, rfl, rfl, S4.weaken (by omega), N3, (fun e => by have e' := blkOf_some e; simp at e'), (fun k hk e => by have := (S4.p.lt hk).1; have e' := blkOf_some e; simp at e'; omega), ((Below.refl w.heap.size w).alloc (Nat.le_refl _) _).trans (hb3'.mono (by omega))⟩)
  case rest =>
  obtain ⟨g, pv, nv, rfl, rfl, S2, N2, d1, d3, bel2⟩ := hcut
  generalize wc = w2 at *
  go_upto_region 4 with fail
  have al3 := (Below.refl w2.heap.size w2).alloc (Nat.le_refl _) (.cells #[] 40)
  have hGw2 : G ≤ w2.heap.size := by have := S2.B.lt; have := S2.hg; omega
  have F3 : Gs G g pv (.slice none 0 0) nv (.slice (some ⟨w2.heap.size, 0, none⟩) 0 0) (List.replicate m 0) [] (w2.alloc (.cells #[] 40)) :=
    ⟨S2.below al3 (Nat.le_refl _), by have := N2.below al3 (Nat.le_refl _); simpa using this, Qo.empty _ _ _ _, d1, (fun e => by cases e), fun k hk => And.intro (by
      rcases hk with hk | hk
      · exact d3 k hk
      · cases hk) (fun e => by cases e), fun k _ e => by cases e⟩
  have bel3 := bel2.trans (al3.mono hGw2)
  have hG3 : G ≤ (w2.alloc (.cells #[] 40)).heap.size := Nat.le_trans hGw2 al3.size
  clear S2 N2 d1 d3 bel2 al3
  generalize w2.alloc (.cells #[] 40) = w3 at *
  generalize w2.heap.size = x2 at *
  go_wp2_with fail
  refine (sen.awake20_any _).mono ?_
  rintro e w4 ⟨rfl, hb4⟩
  have F4 := F3.below hb4 (Nat.le_refl _)
  have bel4 := bel3.trans (hb4.mono hG3)
  clear F3 bel3 hb4 hG3
  go_wp2_with fail
  go_loopw [7, 8, 9, 10] (fun s7 s8 s9 s10 wr => ∃ (i : Nat) (P : List Nat) (C : List Ck) (pv cv nv lv : Value), nv = s7 ∧ lv = s8 ∧ s9 = .int .i64 (bts C : Nat) ∧ s10 = .int .i64 i ∧ i ≤ len ∧ i ≤ 50 ∧ P.length ≤ 16 ∧ (∀ q ∈ P, q < 65536) ∧ C.length ≤ 16 * i ∧ bts C ≤ 6000 ∧ Gs G g pv cv nv lv P C wr ∧ Below G w wr) (fun _ _ _ s10 _ => 50 - (intOf s10).toNat)
  case atStart => exact ⟨0, List.replicate m 0, [], pv, _, _, _, rfl, rfl, rfl, rfl, by omega, by omega, by rw [List.length_replicate]; omega, fun q hq => by rw [List.mem_replicate] at hq; omega, by simp, by simp [bts], F4, bel4⟩
  case round =>
    clear F4 bel4 hGw2
    obtain ⟨i, P, C, pv, cv, nv, lv, rfl, rfl, rfl, rfl, hil, hi5, hP, hpl, hCl, hbt, F, bel⟩ := hrel
    have hgw : g < wr.heap.size := F.s.B.lt
    have hGw : G ≤ wr.heap.size := by have := F.s.hg; omega
    obtain ⟨on, cn, hnv, hn1, hn2⟩ := F.n.shape
    obtain ⟨ol, cl, hlv, hl1, hl2⟩ := F.l.shape
    subst hnv
    subst hlv
    by_cases hlt : i < len
    · by_cases h50 : i < 50
      · have hoa := HV.out.1 (by omega)
        subst hoa
        obtain ⟨a, hA⟩ : ∃ a, av i = a := ⟨_, rfl⟩
        have KA := HV.out.2.1 i hlt
        have hds := HV.out.2.2.1 i hlt
        have hadb := HV.out.2.2.2 (by omega)
        rw [hA] at KA hds
        obtain ⟨aw, st, ss, lo, pr, d, lg, un⟩ := a
        have KA' : ∀ (j : Nat) u, (#[.int .i64 aw, .int .i64 st, .int .i64 ss, .bool lo, .int .u32 pr, .string d, .int .i64 lg, .int .i64 un] : Array Value)[j]? = some u → wr.cell? ((ad.add (i * 8)).add j) = some u := fun j u hu => (bel.cell (p := (ad.add (i * 8)).add j) (by rw [add_blk, add_blk]; omega)).trans (KA j u hu)
        clear KA hA
        go_upto_region 10 with (refine wpList_load_from rfl 32 _ rfl (ad.add (i * 8)) rfl #[.int .i64 aw, .int .i64 st, .int .i64 ss, .bool lo, .int .u32 pr, .string d, .int .i64 lg, .int .i64 un] _ KA' Try.underlying32 rfl (szA ⟨aw, st, ss, lo, pr, d, lg, un⟩) ?_)
        clear KA'
        have A5 := Blk.new wr 32 #[.int .i64 aw, .int .i64 st, .int .i64 ss, .bool lo, .int .u32 pr, .string d, .int .i64 lg, .int .i64 un]
        have al5 := (Below.refl wr.heap.size wr).alloc (Nat.le_refl _) (.cells #[.int .i64 aw, .int .i64 st, .int .i64 ss, .bool lo, .int .u32 pr, .string d, .int .i64 lg, .int .i64 un] 32)
        have F5 := F.below al5 (Nat.le_refl _)
        have bel5 := bel.trans (al5.mono hGw)
        have hG5 : G ≤ (wr.alloc (.cells #[.int .i64 aw, .int .i64 st, .int .i64 ss, .bool lo, .int .u32 pr, .string d, .int .i64 lg, .int .i64 un] 32)).heap.size := Nat.le_trans hGw al5.size
        have hag : wr.heap.size ≠ g := by omega
        have hap : ∀ v, v = pv ∨ v = cv → blkOf v ≠ some wr.heap.size := by
          rintro v (rfl | rfl) e
          · have := (F.s.p.lt e).2; omega
          · have := (F.s.c.lt e).2; omega
        clear F bel al5
        generalize wr.alloc (.cells #[.int .i64 aw, .int .i64 st, .int .i64 ss, .bool lo, .int .u32 pr, .string d, .int .i64 lg, .int .i64 un] 32) = w5 at *
        generalize wr.heap.size = ab at *
        have a0 : w5.cell? ⟨ab, 0, none⟩ = some (.int .i64 aw) := A5.cell 0
        obtain ⟨r, hr⟩ : ∃ r : Int, aw.tmod 6 = r := ⟨_, rfl⟩
        go_upto_block 2 with fail
        go_cut [7, 8, 9] (fun s7 s8 s9 wx => Rn G g i w s7 s8 s9 wx)
        case first =>
          as_aux_lemma =>
            have HAA := Lib.hid (And.intro F5 (And.intro bel5 (And.intro A5 HV)))
            clear F5 bel5 A5 HV a0
            obtain ⟨bt, hbt34⟩ : ∃ b : Bool, b = ((r == 3) || (r == 4)) := ⟨_, rfl⟩
            go_upto_if 147 with fail
            go_cut [147] from 148 to 149 (fun s147 wx => s147 = .bool bt ∧ wx = w5)
            case first =>
              obtain ⟨b3, hb3⟩ : ∃ b3, (r == 3) = b3 := ⟨_, rfl⟩
              obtain ⟨b4, hb4⟩ : ∃ b4, (r == 4) = b4 := ⟨_, rfl⟩
              have HBT := Lib.hid hbt34
              clear hbt34
              cases b3
              · go_wp2_with fail
                go_meet
                exact ⟨by have := HBT.out; rw [hb3, hb4] at this; first | (rw [this]; rfl) | (rw [this]; simp [hb4]), rfl⟩
              · go_wp2_with fail
                go_meet
                exact ⟨by have := HBT.out; rw [hb3] at this; first | (rw [this]; rfl) | (rw [this]; simp [hb3]), rfl⟩
            case rest =>
            obtain ⟨rfl, hwc⟩ := hcut
            obtain rfl : w5 = wc := hwc.symm
            go_upto_if 147 with fail
            clear hbt34
            cases bt with
            | true =>
              refine wp_cond_t rfl ?_
              cases C with
              | nil =>
                as_aux_lemma =>
                  refine armT_nil _ _ _ _ _ _ _ _ _ _ _ _ _ _ _ _ _ _ _ _ _ _ _ _ _ _ _ _ _ _ _ _ _ _ _ _ _ _ _ _ _ _ _ _ _ _ _ _ _ _ _ _ _ _ _ _ _ _ _ _ _ _ _ _ _ _ _ _ _ _ _ _ _ _ _ _ _ _ _ _ _ _ _ _ _ _ _ _ _ _ _ _ _ _ _ _ _ _ _ _ _ _ _ _ _ _ _ _ _ _ _ _ _ _ _ _ _ _ _ _ _ _ _ _ _ _ _ _ _ _ _ _ _ _ _ _ _ _ _ _ _ _ _ _ _ _ _ _ _ _ _ _ _ _ _ _ _ _ _ _ _ _ _ _ _ _ _ _ _ _ _ _ _ _ _ _ _ _ _ _ _ _ _ _ _ _ _ _ _ _ _ _ _ _ _ _ _ _ _ _ _ _ _ _ _ _ _ _ _ _ _ _ _ _ _ _ _ _ _ _ _ _ _ _ _ _ _ _ (i := i) hP hpl HAA.out.1 HAA.out.2.1 _ ?_ _ (by kernel_rfl)
                  intro _ _ _ _ _ _ _ _ _ _ _ _ _ _ _ _ _ _ _ _ _ _ _ _ _ _ _ _ _ _ _ _ _ _ _ _ _ _ _ _ _ _ _ _ _ _ _ _ _ _ _ _ _ w' hRn
                  have HRn := Lib.hid hRn
                  clear hRn
                  go_wp2_with fail
                  go_meet
                  exact HRn.out
              | cons x C' =>
                as_aux_lemma =>
                  refine armT_cons _ _ _ _ _ _ _ _ _ _ _ _ _ _ _ _ _ _ _ _ _ _ _ _ _ _ _ _ _ _ _ _ _ _ _ _ _ _ _ _ _ _ _ _ _ _ _ _ _ _ _ _ _ _ _ _ _ _ _ _ _ _ _ _ _ _ _ _ _ _ _ _ _ _ _ _ _ _ _ _ _ _ _ _ _ _ _ _ _ _ _ _ _ _ _ _ _ _ _ _ _ _ _ _ _ _ _ _ _ _ _ _ _ _ _ _ _ _ _ _ _ _ _ _ _ _ _ _ _ _ _ _ _ _ _ _ _ _ _ _ _ _ _ _ _ _ _ _ _ _ _ _ _ _ _ _ _ _ _ _ _ _ _ _ _ _ _ _ _ _ _ _ _ _ _ _ _ _ _ _ _ _ _ _ _ _ _ _ _ _ _ _ _ _ _ _ _ _ _ _ _ _ _ _ _ _ _ _ _ _ _ _ _ _ _ _ _ _ _ _ _ _ _ _ _ _ _ _ (i := i) hP hpl (by simp only [List.length_cons] at hCl; omega) hbt HAA.out.1 HAA.out.2.1 _ ?_ _ (by kernel_rfl)
                  intro _ _ _ _ _ _ _ _ _ _ _ _ _ _ _ _ _ _ _ _ _ _ _ _ _ _ _ _ _ _ _ _ _ _ _ _ _ _ _ _ _ _ _ _ _ _ _ _ _ _ _ _ _ w' hRn
                  have HRn := Lib.hid hRn
                  clear hRn
                  go_wp2_with fail
                  go_meet
                  exact HRn.out
            | false =>
              refine wp_cond_f rfl ?_
              obtain ⟨b5, hb5⟩ : ∃ b5, (r == 5) = b5 := ⟨_, rfl⟩
              go_upto_if 196 with fail
              try rw [hb5]
              cases b5 with
              | true =>
                refine wp_cond_t (by first | rfl | simp [hb5]) ?_
                as_aux_lemma =>
                  refine armG _ _ _ _ _ _ _ _ _ _ _ _ _ _ _ _ _ _ _ _ _ _ _ _ _ _ _ _ _ _ _ _ _ _ _ _ _ _ _ _ _ _ _ _ _ _ _ _ _ _ _ _ _ _ _ _ _ _ _ _ _ _ _ _ _ _ _ _ _ _ _ _ _ _ _ _ _ _ _ _ _ _ _ _ _ _ _ _ _ _ _ _ _ _ _ _ _ _ _ _ _ _ _ _ _ _ _ _ _ _ _ _ _ _ _ _ _ _ _ _ _ _ _ _ _ _ _ _ _ _ _ _ _ _ _ _ _ _ _ _ _ _ _ _ _ _ _ _ _ _ _ _ _ _ _ _ _ _ _ _ _ _ _ _ _ _ _ _ _ _ _ _ _ _ _ _ _ _ _ _ _ _ _ _ _ _ _ _ _ _ _ _ _ _ _ _ _ _ _ _ _ _ _ _ _ _ _ _ _ _ _ _ _ _ _ _ _ _ _ _ _ _ _ _ _ _ _ (i := i) hP hpl HAA.out.2.2.1 hCl hbt HAA.out.1 HAA.out.2.1 _ ?_ _ (by kernel_rfl)
                  intro _ _ _ _ _ _ _ _ _ _ _ _ _ _ _ _ _ w' hRn
                  have HRn := Lib.hid hRn
                  clear hRn
                  go_wp2_with fail
                  go_meet
                  exact HRn.out
              | false =>
                refine wp_cond_f (by first | rfl | simp [hb5]) ?_
                as_aux_lemma =>
                  refine armD _ _ _ _ _ _ _ _ _ _ _ _ _ _ _ _ _ _ _ _ _ _ _ _ _ _ _ _ _ _ _ _ _ _ _ _ _ _ _ _ _ _ _ _ _ _ _ _ _ _ _ _ _ _ _ _ _ _ _ _ _ _ _ _ _ _ _ _ _ _ _ _ _ _ _ _ _ _ _ _ _ _ _ _ _ _ _ _ _ _ _ _ _ _ _ _ _ _ _ _ _ _ _ _ _ _ _ _ _ _ _ _ _ _ _ _ _ _ _ _ _ _ _ _ _ _ _ _ _ _ _ _ _ _ _ _ _ _ _ _ _ _ _ _ _ _ _ _ _ _ _ _ _ _ _ _ _ _ _ _ _ _ _ _ _ _ _ _ _ _ _ _ _ _ _ _ _ _ _ _ _ _ _ _ _ _ _ _ _ _ _ _ _ _ _ _ _ _ _ _ _ _ _ _ _ _ _ _ _ _ _ _ _ _ _ _ _ _ _ _ _ _ _ _ _ _ _ (i := i) hP hpl hag hap hds.1 hds.2 HAA.out.2.2.1 h50 hCl hbt HAA.out.1 HAA.out.2.1 _ ?_ _ (by kernel_rfl)
                  intro _ _ _ _ _ _ _ _ _ _ _ _ _ _ _ _ _ _ _ _ _ _ _ _ _ _ _ _ _ _ _ _ _ _ _ _ _ _ _ _ _ _ _ _ _ _ _ _ _ _ _ _ _ _ _ _ _ _ _ _ _ _ _ _ _ _ _ _ _ _ _ _ _ _ _ _ _ _ _ _ _ _ _ _ _ _ _ _ _ _ _ _ _ _ _ _ _ _ _ _ _ _ _ _ _ w' hRn
                  have HRn := Lib.hid hRn
                  clear hRn
                  go_wp2_with fail
                  go_meet
                  exact HRn.out
        case rest =>
        clear F5 bel5 A5 a0
        obtain ⟨P1, C1, pv1, cv1, rfl, hP1, hpl1, hCl1, hbt1, F8, bel8⟩ := hcut
        obtain ⟨on1, cn1, hnv1, _, _⟩ := F8.n.shape
        obtain ⟨ol1, cl1, hlv1, _, _⟩ := F8.l.shape
        subst hnv1
        subst hlv1
        generalize wc = w8 at *
        as_aux_lemma =>
          go_wp2_with fail
          refine (sq_bytes F8.s).mono ?_
          rintro e wz ⟨rfl, hwz⟩
          obtain rfl : w8 = wz := hwz.symm
          go_wp2_with fail
          refine (sq_len F8.s).mono ?_
          rintro e wz ⟨rfl, hwz⟩
          obtain rfl : w8 = wz := hwz.symm
          go_wp2_with fail
          refine (sq_streams F8.s).mono ?_
          rintro e wz ⟨rfl, hwz⟩
          obtain rfl : w8 = wz := hwz.symm
          have HFF := Lib.hid (And.intro F8 bel8)
          clear F8 bel8
          go_wp2_with fail
          go_roundw
          case rel => exact ⟨i + 1, P1, C1, pv1, cv1, _, _, rfl, rfl, rfl, by go_num, by omega, by omega, hP1, hpl1, hCl1, hbt1, HFF.out.1, HFF.out.2⟩
          case measure => simp [intOf]; omega
      · obtain rfl : i = 50 := by omega
        go_wp2_with fail
        go_ret
        exact ⟨rfl, by rw [hG]; exact bel⟩
    · obtain rfl : i = len := by omega
      go_wp2_with fail
      go_ret
      exact ⟨rfl, by rw [hG]; exact bel⟩
end Go.Proofs.Ythddacgdmngfhaa.fra
