/- Layer 42: a storm is fair; the statement walked. -/
import Derived.Test.YtdocphkpeonldaaStoJ
namespace Go.Proofs.Ytdocphkpeonldaa.storm
open Go.Sort (grow)
open Go.ChangeShapes Go.WideShapes Go.ChangeAt Go.RowKit kit
set_option maxRecDepth 100000

theorem alloc_lt (w : World) (o : Obj) : w.heap.size < ((w.alloc o).drew).heap.size := by
  show w.heap.size < (w.alloc o).heap.size
  simp
/-- All ways' counts are right. -/
def Cnts (m : Int) (f : Value → Int) : Prop := ∀ v, 0 ≤ f v ∧ f v ≤ m
theorem Cnts.up {m n : Int} {f : Value → Int} (h : Cnts m f) (v : Value) (h0 : 0 ≤ n) (h1 : n ≤ m) : Cnts m (up f v n) := by
  intro u
  by_cases e : u = v
  · subst e; rw [up_eq]; exact ⟨h0, h1⟩
  · rw [up_ne _ _ _ _ e]; exact h u
/-- The walk's state. -/
structure Fr (g k lb h : Nat) (l d b m : Int) (f : Value → Int) (L : List It) (w0 w : World) : Prop where
  stm : Stm w g k l d b m f
  row : Blk w lb 3 (lr f)
  net : Net w h L
  bel : Below w0.heap.size w0 w
theorem Fr.alloc {g k lb h : Nat} {l d b m : Int} {f : Value → Int} {L : List It} {w0 w : World} (F : Fr g k lb h l d b m f L w0 w) (o : Obj) : Fr g k lb h l d b m f L w0 (w.alloc o) :=
  ⟨F.stm.alloc o, F.row.alloc o, F.net.alloc o, F.bel.alloc F.bel.size o⟩
set_option maxHeartbeats 4000000 in
theorem fair_law (x l d b m : Int) (oa : Option Addr) (a : Addr) (len cap : Nat) (E : Nat → It) (w : World) (hlc : len ≤ cap) (hcm : cap ≤ maxLen) (hoa : 0 < len → oa = some a) (hr : RowI w a len E) (hwf : ∀ i, i < len → (Lit.int .i64 (E i).leg).wf = true ∧ (Lit.int .u32 (E i).fr).wf = true ∧ (Lit.int .u32 (E i).to).wf = true) :
    Calls Try.prog 7 #[.agg #[.int .u64 x, .int .i64 l, .int .i64 d, .int .i64 b, .int .i64 m], .slice oa len cap] w fun e w' => e = .returned (.bool true) ∧ Below w.heap.size w w' := by
  have hal := hr.lt
  have HWF := Lib.hid hwf
  have HR := Lib.hid hr
  clear hr hwf
  have hnew := fun w => new_gen x l d b m w
  have HN := Lib.hid hnew
  have hmk := mk8
  have X1 := Blk.new w 60 #[.int .u64 x, .int .i64 l, .int .i64 d, .int .i64 b, .int .i64 m]
  have bel1 := (Below.refl w.heap.size w).alloc (Nat.le_refl _) (.cells #[.int .u64 x, .int .i64 l, .int .i64 d, .int .i64 b, .int .i64 m] 60)
  clear hnew
  go_enter Try.func7, Try.ntmps7
  go_upto_region 1 with (fail)
  generalize w.alloc (.cells #[.int .u64 x, .int .i64 l, .int .i64 d, .int .i64 b, .int .i64 m] 60) = w1 at *
  generalize hv : w.heap.size = v at *
  have hX := X1.lt
  go_cut [5, 6] (fun s5 s6 wx => ∃ g k lb : Nat, s5 = .pointer (some ⟨g, 0, none⟩) ∧ s6 = .slice (some ⟨lb, 0, none⟩) 8 8 ∧ v < g ∧ v < k ∧ v < lb ∧ g ≠ k ∧ lb ≠ g ∧ lb ≠ k ∧ Stm wx g k (pc l) (pc d) (pc b) (pc m) nil0 ∧ Blk wx lb 3 (lr nil0) ∧ Blk wx v 60 #[.int .u64 x, .int .i64 l, .int .i64 d, .int .i64 b, .int .i64 m] ∧ Below v w wx)
  case first =>
    have C1 := fun i => X1.cell i
    have C2 := fun i => X1.drew.cell i
    have C3 := fun i => (X1.drew.alloc (.cells (lr nil0) 3)).cell i
    unfold lr at hmk
    go_region_law
      ((refine step_call2 (by rfl) 31 Try.f31 _ _ (by rfl) Try.func31 (by kernel_rfl) (by kernel_rfl) #[.agg #[.int .u64 x, .int .i64 l, .int .i64 d, .int .i64 b, .int .i64 m]] (by simp [Act.eval, Act.put]) (HN.out _) ?_; rintro e w6 ⟨g, k, rfl, hg, hk, hgk, B6, N6, bel6⟩; refine ⟨.pointer (some ⟨g, 0, none⟩), rfl, ?_⟩))
    all_goals
      clear hmk C1 C2 C3
      go_wp2_with fail
      go_meet
      first
        | exact ⟨g, k, w6.heap.size, rfl, rfl, by have : w1.heap.size ≤ g := hg; omega, by have : w1.heap.size ≤ k := hk; omega, by have h1 := B6.lt; have : w1.heap.size ≤ g := hg; omega, hgk, by have := B6.lt; omega, by have := N6.lt; omega, (Stm.mk ⟨x, B6⟩ N6).alloc _, Blk.new w6 _ _, (X1.drew.below bel6 X1.drew.lt).alloc _, (bel1.drew.trans (bel6.mono (Nat.le_of_lt hX))).alloc (by have h1 := B6.lt; have : w1.heap.size ≤ g := hg; omega) _⟩
        | exact ⟨g, k, w1.heap.size, rfl, rfl, by have h1 : w1.heap.size + 1 ≤ g := (by simpa using hg); omega, by have h1 : w1.heap.size + 1 ≤ k := (by simpa using hk); omega, hX, hgk, by have h1 : w1.heap.size + 1 ≤ g := (by simpa using hg); omega, by have h1 : w1.heap.size + 1 ≤ k := (by simpa using hk); omega, ⟨⟨x, B6⟩, N6⟩, Blk.below (Blk.drew (Blk.new w1 3 (lr nil0))) bel6 (alloc_lt w1 _), (X1.alloc _).drew.below bel6 (Nat.lt_trans hX (alloc_lt w1 _)), ((bel1.alloc (by omega) _).drew).trans (bel6.mono (Nat.le_of_lt (Nat.lt_trans hX (alloc_lt w1 _))))⟩
  case rest =>
  obtain ⟨g, k, lb, rfl, rfl, hg, hk, hlb, hgk, hlg, hlk, S1, R1, X2, bel2⟩ := hcut
  clear X1 bel1 HN hmk hX
  have x4 : wc.cell? ⟨v, 4, none⟩ = some (.int .i64 m) := X2.cell 4
  go_upto_region 2 with (fail)
  go_cut [7] (fun s7 wx => s7 = .int .i64 (pc m) ∧ wc = wx)
  case first =>
    by_cases h0 : m < 0
    · have e : pc m = 0 := by unfold pc; rw [if_pos h0]
      go_wp2_with fail
      all_goals
        go_meet
        exact ⟨by first | (exfalso; omega) | (rw [e]; done) | (rw [e]; congr 1; omega), rfl⟩
    · by_cases h1 : m ≤ 100
      · have e : pc m = m := by unfold pc; rw [if_neg h0, if_pos h1]
        go_wp2_with fail
        all_goals
          go_meet
          exact ⟨by first | (exfalso; omega) | (rw [e]; done) | (rw [e]; congr 1; omega), rfl⟩
      · have e : pc m = 100 := by unfold pc; rw [if_neg h0, if_neg h1]
        go_wp2_with fail
        all_goals
          go_meet
          exact ⟨by first | (exfalso; omega) | (rw [e]; done) | (rw [e]; congr 1; omega), rfl⟩
  case rest =>
  obtain ⟨rfl, hwc⟩ := hcut
  subst hwc
  have hbw : v ≤ wc.heap.size := by have := bel2.size; omega
  have R2 := HR.out.below bel2 (fun h => hal h)
  have hi := items_any oa a len cap E wc hlc hcm hoa R2 HWF.out
  have HI := Lib.hid hi
  clear hi R2 HWF HR x4 X2
  have hs3 := S1.glt
  have hs4 := S1.mlt
  have hs5 := R1.lt
  go_wp2_with fail
  refine HI.out.mono ?_
  rintro e w3 ⟨n, h, c, rfl, hn1, hn2, hh, hnc, hcm3, NT, bel4⟩
  have S2 := S1.below bel4 hs3 hs4
  have R3 := R1.below bel4 hs5
  have bel5 := bel2.trans (bel4.mono hbw)
  have hwfL : ∀ k, k < (nl E n).length → WfI ((nl E n).getD k it0) := fun k hk => by rw [nl_at E n k (by rwa [nl_len] at hk)]; exact nr_wf _
  have hway : ∀ k, k < (nl E n).length → ∃ l f t : Int, iw ((nl E n).getD k it0) = wy l f t ∧ (l = 0 ∨ l = 1) ∧ (f = 0 ∨ f = 1) ∧ (t = 0 ∨ t = 1) ∧ ((nl E n).getD k it0).leg = l ∧ ((nl E n).getD k it0).fr = f ∧ ((nl E n).getD k it0).to = t := fun k hk => by rw [nl_at E n k (by rwa [nl_len] at hk)]; exact nr_way _
  have hlen := nl_len E n
  clear S1 R1 bel2 bel4 HI
  obtain ⟨L, hL⟩ : ∃ L, nl E n = L := ⟨_, rfl⟩
  rw [hL] at NT hwfL hlen hway
  have HW := Lib.hid hwfL
  have HY := Lib.hid hway
  clear hL hwfL hway
  subst hlen
  have hpm := pc_in m
  generalize pc m = mo at *
  generalize pc l = lo at *
  generalize pc d = do_ at *
  generalize pc b = bo at *
  subst hv
  go_upto_region 5 with (fail)
  go_loopw [9] (fun s9 wr => ∃ (i : Nat) (f : Value → Int), i ≤ 150 ∧ s9 = .int .i64 i ∧ Cnts mo f ∧ Fr g k lb h lo do_ bo mo f L w wr) (fun s9 _ => 150 - (intOf s9).toNat)
  case atStart => exact ⟨0, nil0, by omega, rfl, fun v => ⟨Int.le_refl 0, hpm.1⟩, ⟨S2, R3, NT, bel5⟩⟩
  case round =>
    clear S2 R3 NT bel5
    obtain ⟨i, f, hi, rfl, HCn, F⟩ := hrel
    by_cases hlt : i < 150
    · have hd : decide ((i : Int) < 150) = true := decide_eq_true (by omega)
      have c1 := next_all w.heap.size g k h c lo do_ bo mo f L wr F.stm F.net (by omega) (by omega) (Ne.symm hgk) (by omega) (by omega) (by omega) hnc hcm3 HW.out (fun k _ => ⟨(HCn _).1, by have := (HCn (iw (L.getD k it0))).2; omega⟩)
      have HC1 := Lib.hid c1
      have HCn := Lib.hid HCn
      clear c1
      go_wp2_with fail
      refine HC1.out.mono ?_
      rintro e w4 ⟨W1, A1, Bq1, f1, rfl, ok1, hB, T1, M1⟩
      have F1 : Blk w4 lb 3 (lr f) := M1.two.blk F.row (by omega) (by omega)
      have NTa := M1.two.net F.net (by omega) (by omega)
      have bela := F.bel.trans M1.bel
      have hsz := bela.size
      clear HC1 F M1
      rcases ok1 with ⟨rfl, rfl, rfl⟩ | ⟨q, hql, hq4, rfl, hdid⟩
      · obtain rfl := hB rfl
        clear hB
        have hq := tick_neq
        unfold ac
        go_upto_region 8 with (fail)
        have F2 : Fr g k lb h lo do_ bo mo f1 L w (w4.alloc (.cells tick 63)) := Fr.alloc ⟨T1, F1, NTa, bela⟩ _
        have A5 : Blk (w4.alloc (.cells tick 63)) w4.heap.size 63 tick := Blk.new w4 _ _
        clear T1 F1 NTa bela
        generalize w4.alloc (.cells tick 63) = w5 at *
        generalize w4.heap.size = z at *
        have a0 : w5.cell? ⟨z, 0, none⟩ = some (.int .i64 13) := A5.cell 0
        go_wp2_with (refine wpList_load_at rfl 63 _ rfl z 0 rfl tick _ (Cel.of_blk A5) Try.underlying63 rfl szT ?_)
        go_roundw
        case rel => exact ⟨i + 1, f1, by omega, by go_num, HCn.out, F2⟩
        case measure => simp [intOf]; omega
      · clear hB
        unfold ac
        have hW : (W1 == 13) = false := by
          rcases hdid with ⟨_, rfl, _⟩ | ⟨_, rfl, _⟩ | ⟨_, rfl, _⟩ | ⟨_, rfl, _⟩ | ⟨_, rfl, _⟩ <;> rfl
        obtain ⟨l', f', t', hiw, hl', hf', ht', el, ef, et⟩ := HY.out q hql
        have K0 := NTa.cel q hql
        rcases hx : L.getD q it0 with ⟨xl, xn, xf, xt, xs, xb⟩
        rw [hx] at K0 hdid el ef et hiw
        clear hx
        dsimp only at el ef et
        subst el ef et
        have HD := Lib.hid hdid
        have HIW := Lib.hid hiw
        clear hdid hiw
        go_upto_region 8 with (fail)
        have A5 : Blk (w4.alloc (.cells #[.int .i64 W1, .int .i64 0, .int .i64 q, .int .i64 Bq1, .int .i64 0, .int .i64 0, .int .i64 0, .int .i64 0, .string ⟨#[]⟩] 63)) w4.heap.size 63 #[.int .i64 W1, .int .i64 0, .int .i64 q, .int .i64 Bq1, .int .i64 0, .int .i64 0, .int .i64 0, .int .i64 0, .string ⟨#[]⟩] := Blk.new w4 _ _
        have K5 : Cel (w4.alloc (.cells #[.int .i64 W1, .int .i64 0, .int .i64 q, .int .i64 Bq1, .int .i64 0, .int .i64 0, .int .i64 0, .int .i64 0, .string ⟨#[]⟩] 63)) h (q * 6) #[.int .i64 xl, .int .i64 xn, .int .u32 xf, .int .u32 xt, .string xs, .bool xb] := K0.alloc _
        have T5 := T1.alloc (.cells #[.int .i64 W1, .int .i64 0, .int .i64 q, .int .i64 Bq1, .int .i64 0, .int .i64 0, .int .i64 0, .int .i64 0, .string ⟨#[]⟩] 63)
        have R5 := F1.alloc (.cells #[.int .i64 W1, .int .i64 0, .int .i64 q, .int .i64 Bq1, .int .i64 0, .int .i64 0, .int .i64 0, .int .i64 0, .string ⟨#[]⟩] 63)
        have N5 := NTa.alloc (.cells #[.int .i64 W1, .int .i64 0, .int .i64 q, .int .i64 Bq1, .int .i64 0, .int .i64 0, .int .i64 0, .int .i64 0, .string ⟨#[]⟩] 63)
        have bel5 := bela.alloc hsz (.cells #[.int .i64 W1, .int .i64 0, .int .i64 q, .int .i64 Bq1, .int .i64 0, .int .i64 0, .int .i64 0, .int .i64 0, .string ⟨#[]⟩] 63)
        clear T1 F1 NTa bela hsz K0
        generalize w4.alloc (.cells #[.int .i64 W1, .int .i64 0, .int .i64 q, .int .i64 Bq1, .int .i64 0, .int .i64 0, .int .i64 0, .int .i64 0, .string ⟨#[]⟩] 63) = w5 at *
        generalize w4.heap.size = z at *
        have hzl := A5.lt
        have a0 : w5.cell? ⟨z, 0, none⟩ = some (.int .i64 W1) := A5.cell 0
        have a2 : w5.cell? ⟨z, 2, none⟩ = some (.int .i64 q) := A5.cell 2
        have q1 : (q : Int) < L.length := by omega
        have q2 : (q : Int) < 4 := by omega
        have q3 : decide ((q : Int) < 0) = false := decide_eq_false (by omega)
        go_upto_region 11 with (fail)
        go_cut [45] (fun s45 wx => s45 = .bool false ∧ w5 = wx)
        case first =>
          go_wp2_with fail
          all_goals
            go_meet
            exact ⟨by first | rfl | (congr 1; simp; omega) | (congr 1; exact decide_eq_false (by omega)), rfl⟩
        case rest =>
        obtain ⟨rfl, hwc⟩ := hcut
        subst hwc
        have szz : (Try.prog.info? 70).map (·.size) = some (#[.int .i64 xl, .int .i64 xn, .int .u32 xf, .int .u32 xt, .string xs, .bool xb] : Array Value).size := by show _ = some 6; kernel_rfl
        go_upto_region 14 with (refine wpList_load_at rfl 70 _ rfl h (q * 6) rfl #[.int .i64 xl, .int .i64 xn, .int .u32 xf, .int .u32 xt, .string xs, .bool xb] _ K5 Try.underlying70 rfl szz ?_)
        have I6 : Blk (w5.alloc (.cells #[.int .i64 xl, .int .i64 xn, .int .u32 xf, .int .u32 xt, .string xs, .bool xb] 70)) w5.heap.size 70 #[.int .i64 xl, .int .i64 xn, .int .u32 xf, .int .u32 xt, .string xs, .bool xb] := Blk.new w5 _ _
        have A6 := A5.alloc (.cells #[.int .i64 xl, .int .i64 xn, .int .u32 xf, .int .u32 xt, .string xs, .bool xb] 70)
        have T6 := T5.alloc (.cells #[.int .i64 xl, .int .i64 xn, .int .u32 xf, .int .u32 xt, .string xs, .bool xb] 70)
        have R6 := R5.alloc (.cells #[.int .i64 xl, .int .i64 xn, .int .u32 xf, .int .u32 xt, .string xs, .bool xb] 70)
        have N6 := N5.alloc (.cells #[.int .i64 xl, .int .i64 xn, .int .u32 xf, .int .u32 xt, .string xs, .bool xb] 70)
        have bel6 := bel5.alloc bel5.size (.cells #[.int .i64 xl, .int .i64 xn, .int .u32 xf, .int .u32 xt, .string xs, .bool xb] 70)
        have hlby := R5.lt
        clear A5 T5 R5 N5 K5 a0 a2 szz
        have hw5 := bel5.size
        clear bel5
        generalize w5.alloc (.cells #[.int .i64 xl, .int .i64 xn, .int .u32 xf, .int .u32 xt, .string xs, .bool xb] 70) = w6 at *
        generalize w5.heap.size = y at *
        have c0 : w6.cell? ⟨y, 0, none⟩ = some (.int .i64 xl) := I6.cell 0
        have c2 : w6.cell? ⟨y, 2, none⟩ = some (.int .u32 xf) := I6.cell 2
        have c3 : w6.cell? ⟨y, 3, none⟩ = some (.int .u32 xt) := I6.cell 3
        have c5 : w6.cell? ⟨y, 5, none⟩ = some (.bool xb) := I6.cell 5
        have l0 : 0 ≤ xl ∧ xl ≤ 1 := by omega
        have f0 : 0 ≤ xf ∧ xf ≤ 1 := by omega
        have t0 : 0 ≤ xt ∧ xt ≤ 1 := by omega
        obtain ⟨ix, hix⟩ : ∃ ix : Nat, (ix : Int) = xl * 4 + xf * 2 + xt := ⟨(xl * 4 + xf * 2 + xt).toNat, by omega⟩
        have HIX := Lib.hid hix
        have HL := Lib.hid (And.intro hl' (And.intro hf' ht'))
        clear hix hl' hf' ht'
        go_cut [12] (fun s12 wx => s12 = .int .i64 ix ∧ w6 = wx)
        case first =>
          obtain ⟨l0, l1⟩ := l0
          obtain ⟨f0, f1'⟩ := f0
          obtain ⟨t0, t1⟩ := t0
          go_wp2_with fail
          go_meet
          exact ⟨by first | (rw [HIX.out]; done) | (rw [HIX.out]; congr 1; omega), rfl⟩
        case rest =>
        obtain ⟨rfl, hwc⟩ := hcut
        subst hwc
        clear c0 c2 c3 l0 f0 t0
        have a0 : w6.cell? ⟨z, 0, none⟩ = some (.int .i64 W1) := A6.cell 0
        obtain ⟨hrow, hix8⟩ := lr_at f HL.out.1 HL.out.2.1 HL.out.2.2 HIX.out
        have ri : (ix : Int) < 8 := by omega
        have r0 : w6.cell? ⟨lb, ix, none⟩ = some (.int .i64 (f (wy xl xf xt))) := (Cel.of_blk R6).cell0 ix hrow
        have rf : w6.frozen? ⟨lb, ix, none⟩ = false := R6.frozen ix
        have hset := fun n => lr_set f n HL.out.1 HL.out.2.1 HL.out.2.2 HIX.out
        have hcv := HCn.out (wy xl xf xt)
        have hdid := HD.out
        have hiw := HIW.out
        have F6 : ∀ f2, f2 = f → f1 = f → Fr g k lb h lo do_ bo mo f2 L w w6 := fun f2 e1 e2 => by subst e1; subst e2; exact ⟨T6, R6, N6, bel6⟩
        have F7 : ∀ n : Int, f1 = up f (wy xl xf xt) n → Fr g k lb h lo do_ bo mo f1 L w (w6.setCell ⟨lb, ix, none⟩ (.int .i64 n)) := fun n e => by
          obtain ⟨⟨x6, B6⟩, C6⟩ := T6
          refine ⟨⟨⟨x6, B6.far (p := ⟨lb, ix, none⟩) (by show g ≠ lb; omega) _⟩, C6.block (Below.heap_setCell w6 ⟨lb, ix, none⟩ _ k (by show k ≠ lb; omega))⟩, ?_, N6.block (Below.heap_setCell w6 ⟨lb, ix, none⟩ _ h (by show h ≠ lb; omega)) (by simp [World.setCell]), bel6.setCell (p := ⟨lb, ix, none⟩) (by show w.heap.size ≤ lb; omega) _⟩
          rw [e, ← hset n]
          exact R6.set_ ix _
        have HF6 := Lib.hid F6
        have HF7 := Lib.hid F7
        clear F6 F7 hset hrow T6 R6 N6 bel6 HD HIW I6 A6
        unfold Did at hdid
        rw [hiw] at hdid
        clear hiw
        rcases hdid with ⟨e1, rfl, e2⟩ | ⟨e1, rfl, e2, e3, e4⟩ | ⟨e1, rfl, e2, e3, e4⟩ | ⟨e1, rfl, e2, e3⟩ | ⟨e1, rfl, e2⟩
        · dsimp only at e1
          subst e1
          go_wp2_with fail
          go_roundw
          case rel => exact ⟨i + 1, f, by omega, by go_num, HCn.out, HF6.out f rfl e2⟩
          case measure => simp [intOf]; omega
        · dsimp only at e1
          subst e1
          have hgt : decide (f (wy xl xf xt) + 1 > mo) = false := decide_eq_false (by omega)
          have hgt' : decide (mo < f (wy xl xf xt) + 1) = false := decide_eq_false (by omega)
          have hlo : 0 ≤ f (wy xl xf xt) := hcv.1
          have hhi : f (wy xl xf xt) ≤ 100 := by omega
          have hfin := HF7.out (f (wy xl xf xt) + 1) e4
          have hcn := e4 ▸ Cnts.up HCn.out (wy xl xf xt) (n := f (wy xl xf xt) + 1) (by omega) (by omega)
          have HFIN := Lib.hid (And.intro hfin hcn)
          clear hfin hcn e4 hcv
          generalize f (wy xl xf xt) = n0 at *
          have hyb : ¬ y = lb := by omega
          have hby : ¬ lb = y := by omega
          go_wp2_with fail
          go_roundw
          case rel => exact ⟨i + 1, f1, by omega, by go_num, HFIN.out.2, HFIN.out.1⟩
          case measure => simp [intOf]; omega
        · dsimp only at e1
          subst e1
          have hgt : decide (f (wy xl xf xt) + 1 > mo) = false := decide_eq_false (by omega)
          have hgt' : decide (mo < f (wy xl xf xt) + 1) = false := decide_eq_false (by omega)
          have hlo : 0 ≤ f (wy xl xf xt) := hcv.1
          have hhi : f (wy xl xf xt) ≤ 100 := by omega
          have hfin := HF7.out (f (wy xl xf xt) + 1) e4
          have hcn := e4 ▸ Cnts.up HCn.out (wy xl xf xt) (n := f (wy xl xf xt) + 1) (by omega) (by omega)
          have HFIN := Lib.hid (And.intro hfin hcn)
          clear hfin hcn e4 hcv
          generalize f (wy xl xf xt) = n0 at *
          have hyb : ¬ y = lb := by omega
          have hby : ¬ lb = y := by omega
          go_wp2_with fail
          go_roundw
          case rel => exact ⟨i + 1, f1, by omega, by go_num, HFIN.out.2, HFIN.out.1⟩
          case measure => simp [intOf]; omega
        · dsimp only at e1
          subst e1
          go_wp2_with fail
          go_roundw
          case rel => exact ⟨i + 1, f, by omega, by go_num, HCn.out, HF6.out f rfl e3⟩
          case measure => simp [intOf]; omega
        · dsimp only at e1
          subst e1
          have hfin := HF7.out 0 e2
          have hcn := e2 ▸ Cnts.up HCn.out (wy xl xf xt) (n := 0) (by omega) (by omega)
          have HFIN := Lib.hid (And.intro hfin hcn)
          clear hfin hcn e2
          go_wp2_with fail
          go_roundw
          case rel => exact ⟨i + 1, f1, by omega, by go_num, HFIN.out.2, HFIN.out.1⟩
          case measure => simp [intOf]; omega
    · have hd : decide ((i : Int) < 150) = false := decide_eq_false (by omega)
      go_wp2_with fail
      refine (awake42_any _).mono ?_
      rintro e w3 ⟨rfl, hb3⟩
      go_wp2_with fail
      go_ret
      exact ⟨rfl, F.bel.trans (hb3.mono F.bel.size)⟩
end Go.Proofs.Ytdocphkpeonldaa.storm
