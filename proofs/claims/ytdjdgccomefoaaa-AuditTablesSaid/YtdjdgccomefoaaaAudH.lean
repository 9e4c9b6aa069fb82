/- Layer 38: the statement walked. -/
import Derived.Test.YtdjdgccomefoaaaAudG
namespace Go.Proofs.Ytdjdgccomefoaaa.aud
open Go.Sort (grow)
open Go.ChangeShapes Go.WideShapes Go.ChangeAt Go.RowKit kit
set_option maxRecDepth 100000

set_option maxHeartbeats 1000000 in
theorem tables_law (oa : Option Addr) (a : Addr) (len cap : Nat) (E : Nat → Ent) (most : Int) (w : World) (hlc : len ≤ cap) (hcm : cap ≤ maxLen) (hoa : 0 < len → oa = some a) (hr : RowE w a len E) :
    Calls Try.prog 3 #[.slice oa len cap, .int .i64 most] w fun e w' => e = .returned (.bool true) ∧ Below w.heap.size w w' := by
  obtain ⟨i0, hi, hz0, hz1, hz2⟩ := info_parts infoE
  unfold maxLen at hcm
  obtain ⟨nn, hnn, hn1, hn2⟩ : ∃ n : Nat, n = min len 12 ∧ n ≤ len ∧ n ≤ 12 := ⟨min len 12, rfl, by omega, by omega⟩
  have HR := Lib.hid hr
  have HNN := Lib.hid hnn
  have hal := hr.lt
  clear hr hnn
  go_enter Try.func3, Try.ntmps3
  go_upto_region 3 with (fail)
  have B0 := Blk.new w 26 #[]
  have bel0 := (Below.refl w.heap.size w).alloc (Nat.le_refl _) (.cells #[] 26)
  have hs0 : w.heap.size < (w.alloc (.cells #[] 26)).heap.size := by simp
  generalize w.alloc (.cells #[] 26) = w0 at *
  go_loopw [5, 7] (fun s5 s7 wr => ∃ (n g c : Nat), n ≤ nn ∧ s7 = .int .i64 n ∧ s5 = .slice (some ⟨g, 0, none⟩) n c ∧ wr.ownsRow w.heap.size 26 7 (.slice (some ⟨g, 0, none⟩) n c) n (cellsE (nl E n)) ∧ Below w.heap.size w wr) (fun _ s7 _ => nn - (intOf s7).toNat)
  case atStart => exact ⟨0, w.heap.size, 0, by omega, rfl, rfl, own_none B0 (Nat.le_refl _) (by unfold maxLen; omega) rfl, bel0⟩
  case round =>
    clear B0 bel0 hs0
    obtain ⟨n, g, c, hn, rfl, rfl, own, bel⟩ := hrel
    by_cases hlt : n < nn
    · have hl1 : n < len := by omega
      obtain rfl := hoa (by omega)
      have hl2 : n < 12 := by omega
      have R1 := HR.out.below bel (fun h => hal h)
      have hz := fun (x : World) => near_fn (E n) x
      have hlE := R1.cell n hl1
      have HO := Lib.hid own
      have HLE := Lib.hid hlE
      clear R1 own hlE
      have szz : (Try.prog.info? 26).map (·.size) = some (er (E n)).size := by show _ = some 7; kernel_rfl
      go_upto_region 5 with (fail)
      go_wp2_with (refine wpList_load_from rfl 26 _ rfl (a.add (n * 7)) rfl (er (E n)) _ HLE.out Try.underlying26 rfl szz ?_)
      refine (hz _).mono ?_
      rcases he : nr (E n) with ⟨x1, x2, x3, x4, x5, x6, x7⟩
      rintro e w1 ⟨rfl, hb1⟩
      have own1 := own_all HO.out hb1
      have bel1 := bel.trans (hb1.mono bel.size)
      have N2 := Blk.new w1 26 #[.int .u32 x1, .int .i64 x2, .int .u32 x3, .int .i64 x4, .int .u32 x5, .int .u32 x6, .int .i64 x7]
      have own2 := own_all own1 ((Below.refl w1.heap.size w1).alloc (Nat.le_refl _) (.cells #[.int .u32 x1, .int .i64 x2, .int .u32 x3, .int .i64 x4, .int .u32 x5, .int .u32 x6, .int .i64 x7] 26))
      have bel2 := bel1.alloc bel1.size (.cells #[.int .u32 x1, .int .i64 x2, .int .u32 x3, .int .i64 x4, .int .u32 x5, .int .u32 x6, .int .i64 x7] 26)
      have hs2 : (w1.alloc (.cells #[.int .u32 x1, .int .i64 x2, .int .u32 x3, .int .i64 x4, .int .u32 x5, .int .u32 x6, .int .i64 x7] 26)).heap.size = w1.heap.size + 1 := by simp
      have HN2 := Lib.hid (World.news_of_block N2)
      have HO2 := Lib.hid own2
      have HS2 := Lib.hid hs2
      have HE := Lib.hid he
      have hrl : ∀ u ∈ (#[.int .u32 x1, .int .i64 x2, .int .u32 x3, .int .i64 x4, .int .u32 x5, .int .u32 x6, .int .i64 x7] : Array Value).toList, u.oneCell' = true := er_one (x1, x2, x3, x4, x5, x6, x7)
      have HB2 := Lib.hid (show w.heap.size ≤ (w1.alloc (.cells #[.int .u32 x1, .int .i64 x2, .int .u32 x3, .int .i64 x4, .int .u32 x5, .int .u32 x6, .int .i64 x7] 26)).heap.size from bel2.size)
      have HBB := Lib.hid (show Below w.heap.size w (w1.alloc (.cells #[.int .u32 x1, .int .i64 x2, .int .u32 x3, .int .i64 x4, .int .u32 x5, .int .u32 x6, .int .i64 x7] 26)) from bel2)
      clear HO HLE bel hb1 own1 bel1 szz hz N2 own2 hs2 he bel2
      unfold er
      dsimp only
      go_wp2_with (at_builtin; refine wpList_append_lies _ rfl _ _ 22 rfl w.heap.size 26 i0 (.agg #[.int .u32 0, .int .i64 0, .int .u32 0, .int .i64 0, .int .u32 0, .int .u32 0, .int .i64 0]) 7 48 Try.underlying22 hi hz0 hz1 hz2 rfl (by decide) (.slice (some ⟨g, 0, none⟩) n c) n (cellsE (nl E n)) rfl HO2.out ⟨w1.heap.size, 0, none⟩ 1 1 (#[.int .u32 x1, .int .i64 x2, .int .u32 x3, .int .i64 x4, .int .u32 x5, .int .u32 x6, .int .i64 x7] : Array Value).toList rfl rfl HN2.out hrl (by omega) (by unfold maxLen; omega) (by omega) HB2.out (w1.heap.size + 1) HS2.out ?_; intro g8 c8 w8 own8 grow8 hat8 hlt8)
      have bel8 := HBB.out.grown grow8 HB2.out (own_ge HO2.out)
      clear HO2 HN2 HS2 HB2 HBB hrl grow8 hat8 hlt8
      have own9 : w8.ownsRow w.heap.size 26 7 (.slice (some ⟨g8, 0, none⟩) (n + 1) c8) (n + 1) (cellsE (nl E (n + 1))) := by
        show World.ownsRow _ _ _ _ _ _ (cellsE (nl E n ++ [nr (E n)]))
        rw [cellsE_snoc, HE.out]
        exact own8
      have HO9 := Lib.hid own9
      clear own8 own9 HE
      go_roundw
      case rel => exact ⟨n + 1, g8, c8, by omega, by go_num, rfl, HO9.out, bel8⟩
      case measure => simp [intOf]; omega
    · obtain rfl : n = nn := by omega
      have hlen : (nl E n).length = n := nl_len E n
      have hwf := nl_wf E n
      obtain ⟨L, hL⟩ : ∃ L, nl E n = L := ⟨_, rfl⟩
      rw [hL] at own hlen hwf
      have hd : (decide ((n : Int) < (len : Int)) && decide ((n : Int) < 12)) = false := by have := HNN.out; simp; omega
      have hgl : g < wr.heap.size := own_lt own g rfl
      have hgw : w.heap.size ≤ g := own_ge own g rfl
      obtain ⟨_, _, _, hc1, hc2, _⟩ := own_blk own
      have C0 : ∀ k, k < n → Cel wr g (k * 7) (er (L.getD k e0)) := fun k hk => cel_of_cells (Cel.of_owns own) k (by omega)
      have HC := Lib.hid C0
      have HW := Lib.hid hwf
      have HLn := Lib.hid hlen
      clear own C0 hwf hlen HR hL hi hz0 hz1 hz2 hal i0
      rcases (by have := HNN.out; omega : (n < len ∧ ¬ n < 12) ∨ ¬ n < len) with ⟨hq, hq2⟩ | hq
      all_goals
        go_upto_region 7 with (fail)
        go_loopw [6, 8] (fun s6 s8 wy => ∃ i : Nat, i ≤ n ∧ s8 = .int .i64 i ∧ s6 = .int .i64 (dd L i) ∧ (∀ k, k < n → Cel wy g (k * 7) (er (L.getD k e0))) ∧ Below w.heap.size w wy ∧ g < wy.heap.size) (fun _ s8 _ => n - (intOf s8).toNat)
        case atStart => exact ⟨0, by omega, rfl, by rw [dd_zero], HC.out, bel, hgl⟩
        case round =>
          clear hd HC bel hgl
          obtain ⟨i, hi, rfl, rfl, C, bel, hsz⟩ := hrel
          have HC := Lib.hid C
          clear C
          by_cases hlt : i < n
          · go_upto_region 10 with (fail)
            rw [← wi_zero]
            go_loopw [6, 9] (fun s6 s9 wz => ∃ j : Nat, j ≤ i ∧ s9 = .int .i64 j ∧ s6 = .int .i64 (wi L i j) ∧ (∀ k, k < n → Cel wz g (k * 7) (er (L.getD k e0))) ∧ Below w.heap.size w wz ∧ g < wz.heap.size) (fun _ s9 _ => i - (intOf s9).toNat)
            case atStart => exact ⟨0, by omega, rfl, rfl, HC.out, bel, hsz⟩
            case round =>
              clear HC bel hsz
              obtain ⟨j, hj, rfl, rfl, C, bel, hsz⟩ := hrel
              have HC := Lib.hid C
              clear C
              by_cases hjt : j < i
              · rcases hei : L.getD i e0 with ⟨a1, a2, a3, a4, a5, a6, a7⟩
                rcases hej : L.getD j e0 with ⟨b1, b2, b3, b4, b5, b6, b7⟩
                go_upto_region 12 with (fail)
                go_cut [10, 11] (fun s10 s11 wx => ∃ g1 g2 : Nat, s10 = .pointer (some ⟨g1, 0, none⟩) ∧ s11 = .pointer (some ⟨g2, 0, none⟩) ∧ Blk wx g1 26 (er (a1, a2, a3, a4, a5, a6, a7)) ∧ Blk wx g2 26 (er (b1, b2, b3, b4, b5, b6, b7)) ∧ Below wr.heap.size wr wx)
                case first =>
                  have hjn : (j : Int) < (n : Int) := by omega
                  have hjn2 : j < n := by omega
                  have Ci := HC.out i hlt
                  have Cj := HC.out j (by omega)
                  rw [hei] at Ci
                  rw [hej] at Cj
                  have f0 : wr.cell? ⟨g, i * 7, none⟩ = some (.int .u32 a1) := Ci.cell 0 (u := .int .u32 a1) rfl
                  have f1 : wr.cell? ⟨g, i * 7 + 1, none⟩ = some (.int .i64 a2) := Ci.cell 1 (u := .int .i64 a2) rfl
                  have f2 : wr.cell? ⟨g, i * 7 + 2, none⟩ = some (.int .u32 a3) := Ci.cell 2 (u := .int .u32 a3) rfl
                  have f3 : wr.cell? ⟨g, i * 7 + 3, none⟩ = some (.int .i64 a4) := Ci.cell 3 (u := .int .i64 a4) rfl
                  have f4 : wr.cell? ⟨g, i * 7 + 4, none⟩ = some (.int .u32 a5) := Ci.cell 4 (u := .int .u32 a5) rfl
                  have f5 : wr.cell? ⟨g, i * 7 + 5, none⟩ = some (.int .u32 a6) := Ci.cell 5 (u := .int .u32 a6) rfl
                  have f6 : wr.cell? ⟨g, i * 7 + 6, none⟩ = some (.int .i64 a7) := Ci.cell 6 (u := .int .i64 a7) rfl
                  have h0 : wr.cell? ⟨g, j * 7, none⟩ = some (.int .u32 b1) := Cj.cell 0 (u := .int .u32 b1) rfl
                  have h1 : wr.cell? ⟨g, j * 7 + 1, none⟩ = some (.int .i64 b2) := Cj.cell 1 (u := .int .i64 b2) rfl
                  have h2 : wr.cell? ⟨g, j * 7 + 2, none⟩ = some (.int .u32 b3) := Cj.cell 2 (u := .int .u32 b3) rfl
                  have h3 : wr.cell? ⟨g, j * 7 + 3, none⟩ = some (.int .i64 b4) := Cj.cell 3 (u := .int .i64 b4) rfl
                  have h4 : wr.cell? ⟨g, j * 7 + 4, none⟩ = some (.int .u32 b5) := Cj.cell 4 (u := .int .u32 b5) rfl
                  have h5 : wr.cell? ⟨g, j * 7 + 5, none⟩ = some (.int .u32 b6) := Cj.cell 5 (u := .int .u32 b6) rfl
                  have h6 : wr.cell? ⟨g, j * 7 + 6, none⟩ = some (.int .i64 b7) := Cj.cell 6 (u := .int .i64 b7) rfl
                  go_region_held3 (fun w' => w'.cell? ⟨g, i * 7, none⟩ = some (.int .u32 a1) ∧ w'.cell? ⟨g, i * 7 + 1, none⟩ = some (.int .i64 a2) ∧ w'.cell? ⟨g, i * 7 + 2, none⟩ = some (.int .u32 a3) ∧ w'.cell? ⟨g, i * 7 + 3, none⟩ = some (.int .i64 a4) ∧ w'.cell? ⟨g, i * 7 + 4, none⟩ = some (.int .u32 a5) ∧ w'.cell? ⟨g, i * 7 + 5, none⟩ = some (.int .u32 a6) ∧ w'.cell? ⟨g, i * 7 + 6, none⟩ = some (.int .i64 a7) ∧ w'.cell? ⟨g, j * 7, none⟩ = some (.int .u32 b1) ∧ w'.cell? ⟨g, j * 7 + 1, none⟩ = some (.int .i64 b2) ∧ w'.cell? ⟨g, j * 7 + 2, none⟩ = some (.int .u32 b3) ∧ w'.cell? ⟨g, j * 7 + 3, none⟩ = some (.int .i64 b4) ∧ w'.cell? ⟨g, j * 7 + 4, none⟩ = some (.int .u32 b5) ∧ w'.cell? ⟨g, j * 7 + 5, none⟩ = some (.int .u32 b6) ∧ w'.cell? ⟨g, j * 7 + 6, none⟩ = some (.int .i64 b7)) (go_keep) (fail)
                  all_goals
                    go_wp2_with fail
                    go_meet
                    first
                      | exact ⟨_, _, rfl, rfl, ((Blk.new wr _ _).alloc _).drew, (blk_new2 wr _ _ _).drew, (((Below.refl wr.heap.size wr).alloc (Nat.le_refl _) _).alloc (by simp) _).drew⟩
                      | exact ⟨_, _, rfl, rfl, (blk_new2 wr _ _ _).drew, ((Blk.new wr _ _).alloc _).drew, (((Below.refl wr.heap.size wr).alloc (Nat.le_refl _) _).alloc (by simp) _).drew⟩
                case rest =>
                obtain ⟨g1, g2, rfl, rfl, B1, B2, belc⟩ := hcut
                have hi1 : ek (L.getD j e0) = ek (L.getD i e0) ↔ (b3 = a3 ∧ b4 = a4 ∧ b2 = a2 ∧ b5 = a5) := by rw [hei, hej]; exact ek_eq _ _ _ _ _ _ _ _ _ _ _ _ _ _
                have C2 : ∀ k, k < n → Cel wc g (k * 7) (er (L.getD k e0)) := fun k hk => (HC.out k hk).below belc (HC.out k hk).lt
                have HC2 := Lib.hid C2
                have HI1 := Lib.hid hi1
                have bel2 := bel.trans (belc.mono bel.size)
                have hsz2 : g < wc.heap.size := Nat.lt_of_lt_of_le hsz belc.size
                clear C2 HC hei hej hi1 bel belc hsz
                have f1 : wc.cell? ⟨g1, 1, none⟩ = some (.int .i64 a2) := B1.cell 1
                have f2 : wc.cell? ⟨g1, 2, none⟩ = some (.int .u32 a3) := B1.cell 2
                have f3 : wc.cell? ⟨g1, 3, none⟩ = some (.int .i64 a4) := B1.cell 3
                have f4 : wc.cell? ⟨g1, 4, none⟩ = some (.int .u32 a5) := B1.cell 4
                have h1 : wc.cell? ⟨g2, 1, none⟩ = some (.int .i64 b2) := B2.cell 1
                have h2 : wc.cell? ⟨g2, 2, none⟩ = some (.int .u32 b3) := B2.cell 2
                have h3 : wc.cell? ⟨g2, 3, none⟩ = some (.int .i64 b4) := B2.cell 3
                have h4 : wc.cell? ⟨g2, 4, none⟩ = some (.int .u32 b5) := B2.cell 4
                have hwo := wi_or L i j
                have hyes := wi_yes L i j
                have hno := wi_no L i j
                have HY := Lib.hid (And.intro hyes hno)
                clear B1 B2 hyes hno
                go_upto_region 13 with (fail)
                go_cut [75] (fun s75 wx => s75 = .bool (decide (b3 = a3 ∧ b4 = a4 ∧ b2 = a2 ∧ b5 = a5)) ∧ wx = wc)
                case first =>
                  clear HY HC2 HI1 bel2 hwo
                  by_cases q1 : b3 = a3
                  · subst q1
                    by_cases q2 : b4 = a4
                    · subst q2
                      by_cases q3 : b2 = a2
                      · subst q3
                        by_cases q4 : b5 = a5
                        · subst q4
                          go_wp2_with fail
                          go_meet
                          exact ⟨by simp, rfl⟩
                        · have q4' : ¬ a5 = b5 := fun h => q4 h.symm
                          go_wp2_with fail
                          go_meet
                          exact ⟨by simp [q4, q4'], rfl⟩
                      · have q3' : ¬ a2 = b2 := fun h => q3 h.symm
                        go_wp2_with fail
                        go_meet
                        exact ⟨by simp [q3, q3'], rfl⟩
                    · have q2' : ¬ a4 = b4 := fun h => q2 h.symm
                      go_wp2_with fail
                      go_meet
                      exact ⟨by simp [q2, q2'], rfl⟩
                  · have q1' : ¬ a3 = b3 := fun h => q1 h.symm
                    go_wp2_with fail
                    go_meet
                    exact ⟨by simp [q1, q1'], rfl⟩
                case rest =>
                obtain ⟨rfl, hwc⟩ := hcut
                have hwc := hwc.symm
                subst hwc
                clear f1 f2 f3 f4 h1 h2 h3 h4
                by_cases hk : b3 = a3 ∧ b4 = a4 ∧ b2 = a2 ∧ b5 = a5
                · have hy := HY.out.1 (HI1.out.2 hk)
                  have hdt : decide (b3 = a3 ∧ b4 = a4 ∧ b2 = a2 ∧ b5 = a5) = true := decide_eq_true hk
                  rw [hdt]
                  have HYY := Lib.hid hy
                  have bo : bits .or .i64 (wi L i j) 4 = 4 := by rcases hwo with e | e <;> rw [e] <;> decide
                  clear hy hdt HY HI1 hk hwo
                  generalize wi L i j = wij at *
                  go_wp2_with fail
                  go_roundw
                  case rel => exact ⟨j + 1, by omega, by go_num, by rw [HYY.out], HC2.out, bel2, hsz2⟩
                  case measure => simp [intOf]; omega
                · have hy := HY.out.2 (fun h => hk (HI1.out.1 h))
                  have hdt : decide (b3 = a3 ∧ b4 = a4 ∧ b2 = a2 ∧ b5 = a5) = false := decide_eq_false hk
                  rw [hdt]
                  have HYY := Lib.hid hy
                  clear hy hdt HY HI1 hk hwo
                  go_wp2_with fail
                  go_roundw
                  case rel => exact ⟨j + 1, by omega, by go_num, by rw [HYY.out], HC2.out, bel2, hsz2⟩
                  case measure => simp [intOf]; omega
              · obtain rfl : j = i := by omega
                go_wp2_with fail
                go_roundw
                case rel => exact ⟨j + 1, by omega, by go_num, by rw [wi_all], HC.out, bel, hsz⟩
                case measure => simp [intOf]; omega
          · obtain rfl : i = n := by omega
            clear hlt
            obtain ⟨m, hm⟩ : ∃ m, bits .and .i64 most 15 = m := ⟨_, rfl⟩
            have hta := fun w' (C : ∀ k, k < i → Cel w' g (k * 7) (er (L.getD k e0))) (hgl : g < w'.heap.size) => table_any g c L m w' (by rw [HLn.out]; exact hn2) (by rw [HLn.out]; exact hc1) hc2 hgl (fun k hk => C k (by rw [HLn.out] at hk; exact hk)) (fun k hk => HW.out k (by rw [HLn.out] at hk; exact hk))
            rw [HLn.out] at hta
            have htw : tw L m = (if m < (i : Int) then 2 else 0) + dd L i := by unfold tw; rw [HLn.out]
            rw [htw] at hta
            have hdo := dd_or L i
            have HTA := Lib.hid hta
            clear hta htw HW HLn hn hn2 hc2
            generalize dd L i = di at *
            by_cases hmi : m < (i : Int)
            · have HT2 := Lib.hid (fun w' C h => HTA.out w' C h)
              rw [if_pos hmi] at HT2
              have bo : bits .or .i64 di 2 = 2 + di := by rcases hdo with e | e <;> rw [e] <;> decide
              clear HTA hdo
              generalize 2 + di = dj at *
              go_wp2_with fail
              refine (awake38_any _).mono ?_
              rintro e w1 ⟨rfl, hb1⟩
              have C1 : ∀ k, k < i → Cel w1 g (k * 7) (er (L.getD k e0)) := fun k hk => (HC.out k hk).below hb1 (HC.out k hk).lt
              have HC1 := Lib.hid C1
              have bel1 := bel.trans (hb1.mono bel.size)
              have hsz1 := Nat.lt_of_lt_of_le hsz hb1.size
              clear C1 HC bel hb1 hsz
              go_wp2_with fail
              refine (HT2.out _ HC1.out hsz1).mono ?_
              rintro e w2 ⟨rfl, hb2⟩
              have bel2 := bel1.trans (hb2.mono bel1.size)
              clear bel1 hb2 HC1 HT2
              go_wp2_with fail
              go_ret
              exact ⟨ret_bool (by simp), bel2⟩
            · have HT2 := Lib.hid (fun w' C h => HTA.out w' C h)
              rw [if_neg hmi, Int.zero_add] at HT2
              clear HTA hdo
              go_wp2_with fail
              refine (awake38_any _).mono ?_
              rintro e w1 ⟨rfl, hb1⟩
              have C1 : ∀ k, k < i → Cel w1 g (k * 7) (er (L.getD k e0)) := fun k hk => (HC.out k hk).below hb1 (HC.out k hk).lt
              have HC1 := Lib.hid C1
              have bel1 := bel.trans (hb1.mono bel.size)
              have hsz1 := Nat.lt_of_lt_of_le hsz hb1.size
              clear C1 HC bel hb1 hsz
              go_wp2_with fail
              refine (HT2.out _ HC1.out hsz1).mono ?_
              rintro e w2 ⟨rfl, hb2⟩
              have bel2 := bel1.trans (hb2.mono bel1.size)
              clear bel1 hb2 HC1 HT2
              go_wp2_with fail
              go_ret
              exact ⟨ret_bool (by simp), bel2⟩
theorem tables_open {H : Type} {enc : TypeId × Value → H} {W : World} {base : Nat} {v0 v1 : Value} {d0 d1 : DataW H} {p0 p1 : List MemPlace}
    (o0 : Value.okWide Try.prog W .any base 22 v0) (o1 : Value.okWide Try.prog W .any base 3 v1) (h0 : DataW.Trod enc Try.prog W 0 (fun _ => true) true 22 v0 d0 p0) (h1 : DataW.Trod enc Try.prog W 0 (fun _ => true) true 3 v1 d1 p1) :
    Calls Try.prog 3 #[v0, v1] W fun e w' => e = .returned (.bool true) ∧ Below W.heap.size W w' := by
  obtain ⟨t, rfl, _, _, _⟩ := open_int Try.underlying3 o1 h1
  rcases open_row 4 (sh := [.int .u32, .int .i64, .int .u32, .int .i64, .int .u32, .int .u32, .int .i64]) Try.underlying22 (by kernel_rfl) (by kernel_rfl) (by decide) o0 h0 with rfl | ⟨a, len, cap, C, rfl, hlc, hcm, hab, hC⟩
  · exact tables_law none ⟨0, 0, none⟩ 0 0 (fun _ => e0) t W (Nat.le_refl _) (by unfold maxLen; omega) (fun h => absurd h (Nat.lt_irrefl _)) ⟨fun h => absurd h (Nat.lt_irrefl _), fun i h => absurd h (Nat.not_lt_zero i)⟩
  · have hx : ∀ i, ∃ x : Ent, i < len → ∀ (j : Nat) u, (er x)[j]? = some u → W.cell? ((a.add (i * 7)).add j) = some u := by
      intro i
      by_cases hi : i < len
      · obtain ⟨hF, hc⟩ := hC i hi
        generalize C i = l at *
        obtain ⟨x1, l1, rfl, _, hF⟩ := hF.int
        obtain ⟨x2, l2, rfl, _, hF⟩ := hF.int
        obtain ⟨x3, l3, rfl, _, hF⟩ := hF.int
        obtain ⟨x4, l4, rfl, _, hF⟩ := hF.int
        obtain ⟨x5, l5, rfl, _, hF⟩ := hF.int
        obtain ⟨x6, l6, rfl, _, hF⟩ := hF.int
        obtain ⟨x7, l7, rfl, _, hF⟩ := hF.int
        obtain rfl := hF.nil
        refine ⟨(x1, x2, x3, x4, x5, x6, x7), fun _ j u hu => ?_⟩
        rw [Addr.add_add]
        exact hc j u (by simpa [er] using hu)
      · exact ⟨e0, fun h => absurd h hi⟩
    have hs := fun i => Classical.choose_spec (hx i)
    exact tables_law (some a) a len cap (fun i => Classical.choose (hx i)) t W hlc hcm (fun _ => rfl) ⟨hab, fun i hi => hs i hi⟩
end Go.Proofs.Ytdjdgccomefoaaa.aud
