/- Layer 16: the statement walked (under way). -/
import Derived.Test.YthddacgdmngfhaaGqG
import Derived.Test.YthddacgdmngfhaaGpQ
import Derived.Test.YthddacgdmngfhaaGqJ
namespace Go.Proofs.Ythddacgdmngfhaa.gap
open Go.Sort (grow)
open Go.ChangeShapes Go.WideShapes Go.ChangeAt Go.RowKit kit gapm
set_option maxRecDepth 100000
theorem ex_far (C c x : Nat) (hx : x < 4294967296) : ∃ d, d < 4294967296 ∧ ab C (c + d) = (x : Int) := ⟨(x + 4294967295 * (C + c)) % 4294967296, by omega, by unfold ab; omega⟩
theorem neqI (a : Int) (W : World) : (binOp .neq 3 (.int .i64 a) (.int .i64 a)).run Try.prog W = .ok (.bool false) W := by go_simp
theorem neqU (a : Int) (W : World) : (binOp .neq 28 (.int .u32 a) (.int .u32 a)).run Try.prog W = .ok (.bool false) W := by go_simp
theorem neqB (b : Bool) (W : World) : (binOp .neq 4 (.bool b) (.bool b)).run Try.prog W = .ok (.bool false) W := by cases b <;> kernel_rfl
theorem eqlE {G g qx C m : Nat} {s : St} {F : List Nat} {D : List Int} {pv dv fv rv : Value} {w : World} (R : Re G g qx C m s F D pv dv fv rv w) (W : World) : (binOp .eql 3 (.int .i64 (F.length : Int)) (.int .i64 0)).run Try.prog W = .ok (.bool s.P.isEmpty) W := by
  have h := R.fits.empty R.ok
  cases hb : s.P.isEmpty with
  | true =>
    have h1 : ((F.length : Nat) : Int) = 0 := by rw [h.2 hb]; rfl
    rw [h1]
    go_simp
  | false =>
    have h1 : ¬ ((F.length : Int) = 0) := fun e => by
      rw [h.1 (by omega)] at hb
      cases hb
    have h2 : ((F.length : Int) == 0) = false := by simpa using h1
    go_simp
theorem run_not {P : Program} {oi : Oper} {a : Act} {x : Operand} {tx : TypeId} {p : Bool} {u : Value} {v : World} (ho : oi.op = .unOp .not tx x) (hx : a.eval x = .bool p) (hr : (Op.unary .not (.bool p)).run P v = .ok u v) : (execOp a.eval oi).run P v = .ok (.value u) v := by
  unfold execOp
  simp [ho, hx, hr]
theorem updrew {g : Nat} {pv dv pv' dv' : Value} {w w' : World} (U : Up g pv dv w.drew pv' dv' w') : Up g pv dv w pv' dv' w' := ⟨U.size, U.keep, U.np, U.nd⟩
set_option maxHeartbeats 8000000 in
theorem plays_walk (C : Nat) (hC : C < 4294967296) (oa : Option Addr) (a : Addr) (len cap : Nat) (ask : Int) (v : Nat → Nat) (w : World) (hlc : len ≤ cap) (hcm : cap ≤ maxLen) (hoa : 0 < len → oa = some a) (hab : 0 < len → a.block < w.heap.size)
    (hv : ∀ i, i < len → v i < 4294967296 ∧ w.cell? (a.add i) = some (.int .u32 (v i))) :
    Calls Try.prog 6 #[.int .u32 (C : Int), .slice oa len cap, .int .i64 ask] w fun e w' => e = .returned (.bool true) ∧ Below w.heap.size w w' := by
  unfold maxLen at hcm
  have HV := Lib.hid (And.intro hoa (And.intro hab hv))
  clear hoa hab hv
  obtain ⟨G, hG⟩ : ∃ G, w.heap.size = G := ⟨_, rfl⟩
  go_enter Try.func6, Try.ntmps6
  go_wp2_with fail
  refine (new_gt C hC _).mono ?_
  rintro e w1 ⟨rfl, G1, b1⟩
  rw [hG] at G1 b1
  rw [hG]
  go_upto_region 2 with fail
  have al2 : Below w1.heap.size w1 (w1.alloc (.cells #[.int .u32 (C : Int), .slice none 0 0, .slice none 0 0] 72)) := (Below.refl _ _).alloc (Nat.le_refl _) _
  have hab0 : ab C 0 = (C : Int) := by unfold ab; omega
  have hg1 : G < w1.heap.size := G1.B.lt
  have R2 : Re G G w1.heap.size C 0 ⟨0, []⟩ [] [] (.slice none 0 0) (.slice none 0 0) (.slice none 0 0) (.slice none 0 0) (w1.alloc (.cells #[.int .u32 (C : Int), .slice none 0 0, .slice none 0 0] 72)) :=
    ⟨G1.below al2 (Nat.le_refl _), by rw [show ab C (⟨0, []⟩ : St).c = (C : Int) from hab0]; exact Blk.new w1 _ _, World.ownsRow_nil _ _ _ _, World.ownsRow_nil _ _ _ _, trivial, fits_nil, (fun z hz => by cases hz), by simp, by simp, by simp, by simp, by omega, ⟨by omega, (fun h => by cases h), (fun h => by cases h), (fun h => by cases h), (fun h => by cases h)⟩, fun k _ => ⟨(fun h => by cases h), (fun h => by cases h)⟩⟩
  have bel2 : Below G w (w1.alloc (.cells #[.int .u32 (C : Int), .slice none 0 0, .slice none 0 0] 72)) := b1.trans (al2.mono (by omega))
  clear al2 hab0 G1 b1
  generalize w1.alloc (.cells #[.int .u32 (C : Int), .slice none 0 0, .slice none 0 0] 72) = w2 at *
  generalize w1.heap.size = qx at *
  go_wp2_with fail
  go_loopw [9] (fun s9 wr => ∃ (i : Nat) (s : St) (F : List Nat) (D : List Int) (pv dv fv rv : Value), s9 = .int .i64 i ∧ i ≤ len ∧ i ≤ 60 ∧ Re G G qx C i s F D pv dv fv rv wr ∧ Below G w wr) (fun s9 _ => 60 - (intOf s9).toNat)
  case atStart => exact ⟨0, _, _, _, _, _, _, _, rfl, by omega, by omega, R2, bel2⟩
  case round =>
    clear R2 bel2
    obtain ⟨i, s, F, D, pv, dv, fv, rv, rfl, hil, hi60, R, bel⟩ := hrel
    have hGw : G ≤ wr.heap.size := by have := bel.size; omega
    by_cases hlt : i < len ∧ i < 60
    · obtain ⟨hl1, hl2⟩ := hlt
      have hl1' : (i : Int) < (len : Int) := by omega
      have hl2' : (i : Int) < 60 := by omega
      have ho := HV.out.1 (by omega)
      subst ho
      have hab := HV.out.2.1 (by omega)
      obtain ⟨hv1, hc1⟩ := HV.out.2.2 i (by omega)
      have k1 : wr.cell? (a.add i) = some (.int .u32 (v i)) := (bel.cell (p := a.add i) (by rw [show (a.add i).block = a.block by unfold Addr.add; split <;> rfl]; omega)).trans hc1
      have HK := Lib.hid (show ∀ wx, Below G w wx → wx.cell? (a.add i) = some (.int .u32 (v i)) from fun wx hb => (hb.cell (p := a.add i) (by rw [show (a.add i).block = a.block by unfold Addr.add; split <;> rfl]; omega)).trans hc1)
      obtain ⟨x, hx⟩ : ∃ x, v i = x := ⟨_, rfl⟩
      rw [hx] at hv1 hc1 k1 HK
      obtain ⟨d, hd, hdx⟩ := ex_far C s.c x hv1
      have HD := Lib.hid hdx
      clear hc1 hx
      go_upto_region 5 with fail
      have hlook := fun dq os => (R.below (below_regrown wr dq os) (Nat.le_refl _)).look (by omega) d hd
      have hrlook := fun dq os => (R.below (below_regrown wr dq os) (Nat.le_refl _)).rlook (by omega) d hd
      rw [hdx] at hlook hrlook
      obtain ⟨lv, hlv⟩ : ∃ lv, lookV s d = lv := ⟨_, rfl⟩
      rw [hlv] at hlook hrlook
      have hne := neqI lv
      have HLV := Lib.hid hlv
      have HR := Lib.hid (And.intro R bel)
      have kq1 := cell_regrown k1
      clear R bel hlv hdx k1
      refine wp_region_quiet_below (by kernel_rfl) (by kernel_rfl) ?_
      repeat (any_goals (first | (refine wpQuiet_load_at (by rfl) 72 _ (by rfl) qx 0 (by rfl) #[.int .u32 (ab C s.c), fv, rv] _ Try.underlying72 (by rfl) (szGt _ _ _) (fun w' hw' => by obtain ⟨p, rfl⟩ := hw'; exact (Cel.of_blk HR.out.1.B).below (below_regrown wr _ _) HR.out.1.B.lt) ?_) | go_big_quiet_step (first | (go_at_call 38; with_reducible exact Calls.regrown_of (hlook _ _)) | (go_at_call 39; with_reducible exact Calls.regrown_of (hrlook _ _))) | quiet_step (first | (go_at_call 38; with_reducible exact Calls.regrown_of (hlook _ _)) | (go_at_call 39; with_reducible exact Calls.regrown_of (hrlook _ _)))))
      refine wpQuiet_nil ?_
      intro _ hw'
      obtain ⟨⟨dq, osq⟩, hw''⟩ := hw'
      subst hw''
      have R3 := HR.out.1.below (below_regrown wr dq osq) (Nat.le_refl _)
      have bel3 := HR.out.2.trans ((below_regrown wr dq osq).mono hGw)
      clear hlook hrlook hne kq1 HR
      generalize grow (redrawn wr dq) osq = w3 at *
      go_upto_region 7 with fail
      have k3 := HK.out w3 bel3
      have HR3 := Lib.hid (And.intro R3 bel3)
      have hG3 : G ≤ w3.heap.size := by have := bel3.size; omega
      clear R3 bel3
      go_cut [10, 11] (fun s10 s11 wx => ∃ (bk c' : Nat) (F' : List Nat) (D' : List Int) (fv' rv' : Value), s10 = .pointer (some ⟨bk, 0, none⟩) ∧ s11 = .int .i64 lv ∧ Rm G bk C s F D d (x : Int) rv w3.heap.size c' F' D' fv' rv' wx ∧ Below w3.heap.size w3 wx)
      case first =>
        have HS := Lib.hid (show Cel w3.drew qx 0 #[.int .u32 (ab C s.c), fv, rv] ∧ w3.drew.cell? (a.add i) = some (.int .u32 x) from ⟨Cel.of_blk (show Blk w3.drew qx _ _ from HR3.out.1.B), k3⟩)
        refine wp_region_noPanic ?_
        refine wp_region_held_drew (S := fun v => Cel v qx 0 #[.int .u32 (ab C s.c), fv, rv] ∧ v.cell? (a.add i) = some (.int .u32 x)) (by kernel_rfl) HS.out (fun _ => ?_)
        refine wpAnyH_abs _ (fun b hb => ?_)
        have bsz : b.tmps.size = 121 := by rw [hb]; rfl
        have e1 : b.eval (.tmp 1) = .slice (some a) len cap := by rw [hb]; rfl
        have e8 : b.eval (.tmp 8) = .pointer (some ⟨qx, 0, none⟩) := by rw [hb]; rfl
        have e9 : b.eval (.tmp 9) = .int .i64 i := by rw [hb]; rfl
        have HBB := Lib.hid hb
        clear hb
        refine take_run (i := 0) (u := .agg #[.int .u32 (ab C s.c), fv, rv]) rfl (by kernel_rfl) (by kernel_rfl) (by kernel_rfl) rfl rfl (fun _ _ _ h => h) HS.out (fun v hv => run_load_at rfl (h := qx) (off := 0) (by simp [e8]) _ Try.underlying72 rfl (szGt _ _ _) hv.1) ?_
        refine take_run (i := 1) (u := .slice (some a) len cap) rfl (by kernel_rfl) (by kernel_rfl) (by kernel_rfl) rfl rfl (fun _ _ _ h => h) HS.out (fun v hv => run_move rfl (by simp [Act.eval_put_ne, e1]) v) ?_
        refine take_run (i := 2) (u := .int .i64 i) rfl (by kernel_rfl) (by kernel_rfl) (by kernel_rfl) rfl rfl (fun _ _ _ h => h) HS.out (fun v hv => run_move rfl (by simp [Act.eval_put_ne, e9]) v) ?_
        refine take_run (i := 3) (u := .pointer (some (a.add i))) rfl (by kernel_rfl) (by kernel_rfl) (by kernel_rfl) rfl rfl (fun _ _ _ h => h) HS.out (fun v hv => run_index (s := .slice (some a) len cap) (j := .int .i64 i) rfl (by simp [Act.eval_put_ne, Act.eval_put_same, Act.size_put, bsz]) (by simp [Act.eval_put_same, Act.size_put, bsz]) (by go_simp)) ?_
        refine take_run (i := 4) (u := .int .u32 x) rfl (by kernel_rfl) (by kernel_rfl) (by kernel_rfl) rfl rfl (fun _ _ _ h => h) HS.out (fun v hv => run_load1 (s := .pointer (some (a.add i))) rfl (by simp [Act.eval_put_same, Act.size_put, bsz]) (by obtain ⟨_, q2⟩ := hv; go_simp)) ?_
        refine wpAnyH_abs _ (fun j hj => ?_)
        have jsz : j.tmps.size = 121 := by rw [hj]; simp [Act.size_put, bsz]
        have j42 : j.eval (.tmp 42) = .agg #[.int .u32 (ab C s.c), fv, rv] := by rw [hj]; simp [Act.eval_put_ne, Act.eval_put_same, Act.size_put, bsz]
        have j46 : j.eval (.tmp 46) = .int .u32 x := by rw [hj]; simp [Act.eval_put_ne, Act.eval_put_same, Act.size_put, bsz]
        have HJ := Lib.hid hj
        clear hj
        have rM : ∀ (b : Act) (v : World), (execOp b.eval _).run Try.prog v = .ok (.value (.pointer (some ⟨v.heap.size, 0, none⟩))) (v.alloc (.cells #[.int .u32 0, .slice none 0 0, .slice none 0 0] 72)) := fun b v => (by kernel_rfl : (execOp b.eval ({ dst := some 10, op := .alloc 72, type := 0, pos := "law.go:37", after := #[], guard := none } : Oper)).run Try.prog v = .ok (.value (.pointer (some ⟨v.heap.size, 0, none⟩))) (v.alloc (.cells #[.int .u32 0, .slice none 0 0, .slice none 0 0] 72)))
        have hr1 := (HR3.out.1.below (k := w3.heap.size) ((Below.refl _ w3).drew) (Nat.le_refl _)).radd (by omega) hG3 d hd
        have hr2 := (HR3.out.1.below (k := w3.heap.size) (((Below.refl _ w3).drew).alloc (Nat.le_refl _) (.cells #[.int .u32 0, .slice none 0 0, .slice none 0 0] 72)) (Nat.le_refl _)).radd (by omega) (by simp; omega) d hd
        rw [HD.out] at hr1 hr2
        refine call_make (iC := 5) (iM := 9) (dC := 47) (dM := 10) (fuel := 6) (o := .cells #[.int .u32 0, .slice none 0 0, .slice none 0 0] 72) (by kernel_rfl) (by kernel_rfl) (by kernel_rfl) (by decide) (by decide) rfl rfl rfl rfl rfl rfl 40 Try.f40 _ _ rfl Try.func40 (by kernel_rfl) (by kernel_rfl) #[.agg #[.int .u32 (ab C s.c), fv, rv], .int .u32 x] (by simp [j42, j46]) (fun u => by simp [Act.eval_put_ne, j42, j46]) (R := fun v => AddR G C s.c F D d rv v) hr1 hr2 (fun b v => by kernel_rfl) ⟨(Cel.of_blk HR3.out.1.B).below (((Below.refl w3.heap.size w3).drew).alloc (Nat.le_refl _) _) HR3.out.1.B.lt, ((((Below.refl w3.heap.size w3).drew).alloc (Nat.le_refl _) _).cell (block_lt_of_cell k3)).trans k3⟩ ?_ ?_ (by decide)
        · clear hr1 hr2
          rintro e w4 ⟨c', F', fv', rv', rfl, of', or', bel', hn', ho', hl'⟩
          rw [HD.out] at or'
          obtain ⟨D', hD'⟩ : ∃ D', (if lookF F d = 2 ∧ D.length < 16 then D ++ [(x : Int)] else D) = D' := ⟨_, rfl⟩
          rw [hD'] at or'
          have HDE := Lib.hid hD'
          clear hD'
          obtain ⟨fo, fc, hfo⟩ := own_arr of'
          obtain ⟨ro, rc, hro⟩ := own_arr or'
          subst hfo
          subst hro
          have hll : lookF F d = lv := (HR3.out.1.fits.look d).trans HLV.out
          have bw4 : Below w3.heap.size w3 w4 := ((Below.refl w3.heap.size w3).drew).trans bel'
          have HS4 := Lib.hid (show Cel w4 qx 0 #[.int .u32 (ab C s.c), fv, rv] ∧ w4.cell? (a.add i) = some (.int .u32 x) from ⟨(Cel.of_blk HR3.out.1.B).below bw4 HR3.out.1.B.lt, (bw4.cell (block_lt_of_cell k3)).trans k3⟩)
          refine ⟨.tuple #[.agg #[.int .u32 (ab C c'), .slice fo F'.length fc, .slice ro D'.length rc], .int .i64 lv], by rw [hll], HS4.out, ?_⟩
          refine take_run (i := 6) (u := .tuple #[.agg #[.int .u32 (ab C c'), .slice fo F'.length fc, .slice ro D'.length rc], .int .i64 lv]) rfl (by kernel_rfl) (by kernel_rfl) (by kernel_rfl) rfl rfl (fun _ _ _ h => h) HS4.out (fun v hv => run_move rfl (by simp [Act.eval_put_ne, Act.eval_put_same, Act.size_put, jsz]) v) ?_
          refine take_run (i := 7) (u := .agg #[.int .u32 (ab C c'), .slice fo F'.length fc, .slice ro D'.length rc]) rfl (by kernel_rfl) (by kernel_rfl) (by kernel_rfl) rfl rfl (fun _ _ _ h => h) HS4.out (fun v hv => run_extract (t := .tuple #[.agg #[.int .u32 (ab C c'), .slice fo F'.length fc, .slice ro D'.length rc], .int .i64 lv]) rfl (by simp [Act.eval_put_ne, Act.eval_put_same, Act.size_put, jsz]) (by rfl)) ?_
          refine take_run (i := 8) (u := .int .i64 lv) rfl (by kernel_rfl) (by kernel_rfl) (by kernel_rfl) rfl rfl (fun _ _ _ h => h) HS4.out (fun v hv => run_extract (t := .tuple #[.agg #[.int .u32 (ab C c'), .slice fo F'.length fc, .slice ro D'.length rc], .int .i64 lv]) rfl (by simp [Act.eval_put_ne, Act.eval_put_same, Act.size_put, jsz]) (by rfl)) ?_
          have al5 : Below w4.heap.size w4 (w4.alloc (.cells #[.int .u32 0, .slice none 0 0, .slice none 0 0] 72)) := (Below.refl _ _).alloc (Nat.le_refl _) _
          have HS5 := Lib.hid (show Cel (w4.alloc (.cells #[.int .u32 0, .slice none 0 0, .slice none 0 0] 72)) qx 0 #[.int .u32 (ab C s.c), fv, rv] ∧ (w4.alloc (.cells #[.int .u32 0, .slice none 0 0, .slice none 0 0] 72)).cell? (a.add i) = some (.int .u32 x) from ⟨HS4.out.1.below al5 HS4.out.1.lt, (al5.cell (block_lt_of_cell HS4.out.2)).trans HS4.out.2⟩)
          refine step_val (i := 9) (u := .pointer (some ⟨w4.heap.size, 0, none⟩)) (w' := w4.alloc (.cells #[.int .u32 0, .slice none 0 0, .slice none 0 0] 72)) (by kernel_rfl) rfl rfl rfl HS5.out (rM _ _) ?_
          have Z5 : Blk (w4.alloc (.cells #[.int .u32 0, .slice none 0 0, .slice none 0 0] 72)) w4.heap.size 72 #[.int .u32 0, .slice none 0 0, .slice none 0 0] := Blk.new _ _ _
          have of5 := own_all of' al5
          have or5 := own_all or' al5
          have hbk : w3.heap.size ≤ w4.heap.size := bw4.size
          have bw5 := bw4.trans (al5.mono hbk)
          generalize w4.alloc (.cells #[.int .u32 0, .slice none 0 0, .slice none 0 0] 72) = w5 at *
          generalize w4.heap.size = bk at *
          have hqb : qx < w3.heap.size := HR3.out.1.B.lt
          have nf5 := own_typ of5 Z5 (by decide)
          have nr5 := own_typ or5 Z5 (by decide)
          have keep : ∀ k, k ≠ bk → (w5.setCells bk 0 (#[.int .u32 (ab C c'), .slice fo F'.length fc, .slice ro D'.length rc] : Array Value).toList).heap[k]? = w5.heap[k]? := fun k hk => setCells_other _ k _ _ _ hk
          have bw6 := below_setCells bw5 hbk 0 (#[.int .u32 (ab C c'), .slice fo F'.length fc, .slice ro D'.length rc] : Array Value).toList
          refine step_store (i := 10) (p := .pointer (some ⟨bk, 0, none⟩)) (u := .agg #[.int .u32 (ab C c'), .slice fo F'.length fc, .slice ro D'.length rc]) (w' := w5.setCells bk 0 (#[.int .u32 (ab C c'), .slice fo F'.length fc, .slice ro D'.length rc] : Array Value).toList) (by kernel_rfl) rfl rfl rfl rfl (by simp [Act.eval_put_ne, Act.eval_put_same, Act.size_put, jsz]) (by simp [Act.eval_put_ne, Act.eval_put_same, Act.size_put, jsz]) ⟨(Cel.of_blk HR3.out.1.B).below bw6 hqb, (bw6.cell (block_lt_of_cell k3)).trans k3⟩ (run_store_at _ (Cel.of_blk Z5) (szGt _ _ _) rfl (one3 _ _ _ _ _ _ _)) ?_
          refine step_val (i := 11) (u := .int .i64 lv) (by kernel_rfl) rfl rfl rfl ⟨(Cel.of_blk HR3.out.1.B).below bw6 hqb, (bw6.cell (block_lt_of_cell k3)).trans k3⟩ (run_assign rfl (by simp [Act.eval_put_ne, Act.eval_put_same, Act.size_put, jsz]) _) ?_
          have HM := Lib.hid (show Rm G bk C s F D d (x : Int) rv w3.heap.size c' F' D' (.slice fo F'.length fc) (.slice ro D'.length rc) (w5.setCells bk 0 (#[.int .u32 (ab C c'), .slice fo F'.length fc, .slice ro D'.length rc] : Array Value).toList) from ⟨(Cel.of_blk Z5).setCells_same _ rfl, own_other of5 (fun k hk => keep k (fun e => nf5 (e ▸ hk))), own_other or5 (fun k hk => keep k (fun e => nr5 (e ▸ hk))), hn', ho', hl', hbk, HDE.out⟩)
          have HB6 := Lib.hid bw6
          refine wpAnyH_done (by kernel_rfl) ?_ _
          refine NoPanic.normal ?_
          rw [HJ.out, HBB.out]
          simp only [Act.put, List.setIfInBounds_toArray, List.set_cons_zero, List.set_cons_succ]
          clear HBB HJ HS HS4 HS5 Z5 of5 or5 bw5 bw6 keep nf5 nr5 of' or' bel' hn' ho' hl' bw4
          go_wp2_with fail
          go_meet
          exact ⟨_, c', F', D', _, _, rfl, rfl, HM.out, HB6.out⟩
        · clear hr1 hr2 rM
          rintro e w4 ⟨c', F', fv', rv', rfl, of', or', bel', hn', ho', hl'⟩
          rw [HD.out] at or'
          obtain ⟨D', hD'⟩ : ∃ D', (if lookF F d = 2 ∧ D.length < 16 then D ++ [(x : Int)] else D) = D' := ⟨_, rfl⟩
          rw [hD'] at or'
          have HDE := Lib.hid hD'
          clear hD'
          obtain ⟨fo, fc, hfo⟩ := own_arr of'
          obtain ⟨ro, rc, hro⟩ := own_arr or'
          subst hfo
          subst hro
          have hll : lookF F d = lv := (HR3.out.1.fits.look d).trans HLV.out
          have bw4 : Below w3.heap.size w3 w4 := (((Below.refl w3.heap.size w3).drew).alloc (Nat.le_refl _) _).trans (bel'.mono (by simp))
          have HS4 := Lib.hid (show Cel w4 qx 0 #[.int .u32 (ab C s.c), fv, rv] ∧ w4.cell? (a.add i) = some (.int .u32 x) from ⟨(Cel.of_blk HR3.out.1.B).below bw4 HR3.out.1.B.lt, (bw4.cell (block_lt_of_cell k3)).trans k3⟩)
          refine ⟨.tuple #[.agg #[.int .u32 (ab C c'), .slice fo F'.length fc, .slice ro D'.length rc], .int .i64 lv], by rw [hll], HS4.out, ?_⟩
          refine take_run (i := 6) (u := .tuple #[.agg #[.int .u32 (ab C c'), .slice fo F'.length fc, .slice ro D'.length rc], .int .i64 lv]) rfl (by kernel_rfl) (by kernel_rfl) (by kernel_rfl) rfl rfl (fun _ _ _ h => h) HS4.out (fun v hv => run_move rfl (by simp [Act.eval_put_ne, Act.eval_put_same, Act.size_put, jsz]) v) ?_
          refine take_run (i := 7) (u := .agg #[.int .u32 (ab C c'), .slice fo F'.length fc, .slice ro D'.length rc]) rfl (by kernel_rfl) (by kernel_rfl) (by kernel_rfl) rfl rfl (fun _ _ _ h => h) HS4.out (fun v hv => run_extract (t := .tuple #[.agg #[.int .u32 (ab C c'), .slice fo F'.length fc, .slice ro D'.length rc], .int .i64 lv]) rfl (by simp [Act.eval_put_ne, Act.eval_put_same, Act.size_put, jsz]) (by rfl)) ?_
          refine take_run (i := 8) (u := .int .i64 lv) rfl (by kernel_rfl) (by kernel_rfl) (by kernel_rfl) rfl rfl (fun _ _ _ h => h) HS4.out (fun v hv => run_extract (t := .tuple #[.agg #[.int .u32 (ab C c'), .slice fo F'.length fc, .slice ro D'.length rc], .int .i64 lv]) rfl (by simp [Act.eval_put_ne, Act.eval_put_same, Act.size_put, jsz]) (by rfl)) ?_
          have Z5 : Blk w4 w3.heap.size 72 #[.int .u32 0, .slice none 0 0, .slice none 0 0] := (Blk.new w3.drew 72 #[.int .u32 0, .slice none 0 0, .slice none 0 0]).below bel' (by simp)
          have of5 := of'
          have or5 := or'
          have hbk : w3.heap.size ≤ w3.heap.size := Nat.le_refl _
          have bw5 := bw4
          have HS5 := HS4
          obtain ⟨bk, hbke⟩ : ∃ bk, w3.heap.size = bk := ⟨_, rfl⟩
          have hbk : w3.heap.size ≤ bk := by omega
          rw [show w3.drew.heap.size = bk from hbke]
          have Z5 : Blk w4 bk 72 #[.int .u32 0, .slice none 0 0, .slice none 0 0] := hbke ▸ Z5
          obtain ⟨w5, hw5⟩ : ∃ w5, w4 = w5 := ⟨_, rfl⟩
          subst hw5
          have hqb : qx < w3.heap.size := HR3.out.1.B.lt
          have nf5 := own_typ of5 Z5 (by decide)
          have nr5 := own_typ or5 Z5 (by decide)
          have keep : ∀ k, k ≠ bk → (w4.setCells bk 0 (#[.int .u32 (ab C c'), .slice fo F'.length fc, .slice ro D'.length rc] : Array Value).toList).heap[k]? = w4.heap[k]? := fun k hk => setCells_other _ k _ _ _ hk
          have bw6 := below_setCells bw5 hbk 0 (#[.int .u32 (ab C c'), .slice fo F'.length fc, .slice ro D'.length rc] : Array Value).toList
          refine step_store (i := 10) (p := .pointer (some ⟨bk, 0, none⟩)) (u := .agg #[.int .u32 (ab C c'), .slice fo F'.length fc, .slice ro D'.length rc]) (w' := w4.setCells bk 0 (#[.int .u32 (ab C c'), .slice fo F'.length fc, .slice ro D'.length rc] : Array Value).toList) (by kernel_rfl) rfl rfl rfl rfl (by simp [Act.eval_put_ne, Act.eval_put_same, Act.size_put, jsz]) (by simp [Act.eval_put_ne, Act.eval_put_same, Act.size_put, jsz]) ⟨(Cel.of_blk HR3.out.1.B).below bw6 hqb, (bw6.cell (block_lt_of_cell k3)).trans k3⟩ (run_store_at _ (Cel.of_blk Z5) (szGt _ _ _) rfl (one3 _ _ _ _ _ _ _)) ?_
          refine step_val (i := 11) (u := .int .i64 lv) (by kernel_rfl) rfl rfl rfl ⟨(Cel.of_blk HR3.out.1.B).below bw6 hqb, (bw6.cell (block_lt_of_cell k3)).trans k3⟩ (run_assign rfl (by simp [Act.eval_put_ne, Act.eval_put_same, Act.size_put, jsz]) _) ?_
          have HM := Lib.hid (show Rm G bk C s F D d (x : Int) rv w3.heap.size c' F' D' (.slice fo F'.length fc) (.slice ro D'.length rc) (w4.setCells bk 0 (#[.int .u32 (ab C c'), .slice fo F'.length fc, .slice ro D'.length rc] : Array Value).toList) from ⟨(Cel.of_blk Z5).setCells_same _ rfl, own_other of5 (fun k hk => keep k (fun e => nf5 (e ▸ hk))), own_other or5 (fun k hk => keep k (fun e => nr5 (e ▸ hk))), hn', ho', fun k hk => (hl' k hk).imp id (fun h => by simp at h; omega), hbk, HDE.out⟩)
          have HB6 := Lib.hid bw6
          refine wpAnyH_done (by kernel_rfl) ?_ _
          refine NoPanic.normal ?_
          rw [HJ.out, HBB.out]
          simp only [Act.put, List.setIfInBounds_toArray, List.set_cons_zero, List.set_cons_succ]
          clear HBB HJ HS HS4 HS5 Z5 of5 or5 bw5 bw6 keep nf5 nr5 of' or' bel' hn' ho' hl' bw4
          go_wp2_with fail
          go_meet
          exact ⟨_, c', F', D', _, _, rfl, rfl, HM.out, HB6.out⟩
      case rest =>
      obtain ⟨bk, c', F', D', fv', rv', rfl, rfl, M, bw⟩ := hcut
      have R4 := HR3.out.1.below bw (Nat.le_refl _)
      have bel4 := HR3.out.2.trans (bw.mono hG3)
      have hdv1 : ∀ k, dv.ownBlock = some k → k < w3.heap.size := fun k hk => own_lt' HR3.out.1.t.d hk
      obtain ⟨fo, fc, hfo⟩ := own_arr M.f
      obtain ⟨ro, rc, hro⟩ := own_arr M.r
      subst hfo
      subst hro
      generalize wc = w4 at *
      have q0 := R4.B.cell 0
      have q1 := R4.B.cell 1
      have q2 := R4.B.cell 2
      have y0 := R4.B.frozen 0
      have y1 := R4.B.frozen 1
      have y2 := R4.B.frozen 2
      obtain ⟨G5, B5, f5, r5⟩ := R4.mid M
      have bel5 := ((bel4.setCell (p := ⟨qx, 0, none⟩) R4.hq (.int .u32 (ab C c'))).setCell (p := ⟨qx, 1, none⟩) R4.hq (.slice fo F'.length fc)).setCell (p := ⟨qx, 2, none⟩) R4.hq (.slice ro D'.length rc)
      have HM := Lib.hid (And.intro M (And.intro R4 (And.intro hdv1 (And.intro G5 (And.intro B5 (And.intro f5 (And.intro r5 bel5)))))))
      clear M R4 bel4 bw hdv1 G5 B5 f5 r5 bel5 HR3 k3
      go_upto_region 9 with (refine wpList_load_at rfl 72 _ rfl bk 0 rfl #[.int .u32 (ab C c'), .slice fo F'.length fc, .slice ro D'.length rc] _ HM.out.1.Z Try.underlying72 rfl (szGt _ _ _) ?_)
      clear q0 q1 q2 y0 y1 y2
      generalize ((w4.setCell ⟨qx, 0, none⟩ (.int .u32 (ab C c'))).setCell ⟨qx, 1, none⟩ (.slice fo F'.length fc)).setCell ⟨qx, 2, none⟩ (.slice ro D'.length rc) = w5 at *
      go_cut [74] (fun s74 wx => s74 = .bool false ∧ ∃ (pv' dv' : Value), Re G G qx C (i + 1) (addS s d) F' D' pv' dv' (.slice fo F'.length fc) (.slice ro D'.length rc) wx ∧ Below G w wx)
      case first =>
        have k5 := HK.out w5 HM.out.2.2.2.2.2.2.2
        have hsame : ∀ pv' dv' w6, Gt G G C (addS s d) (addD s D d (x : Int)) pv' dv' w6 → Up G pv dv w5 pv' dv' w6 → Re G G qx C (i + 1) (addS s d) F' D' pv' dv' (.slice fo F'.length fc) (.slice ro D'.length rc) w6 ∧ c' = (addS s d).c := fun pv' dv' w6 g6 u6 =>
          HM.out.2.1.turn (by rw [HD.out]; exact HM.out.1) HM.out.2.2.1 HM.out.2.2.2.1 HM.out.2.2.2.2.1 HM.out.2.2.2.2.2.1 HM.out.2.2.2.2.2.2.1 (by rw [HD.out]; exact g6) u6
        have hadd := add_any (HM.out.2.2.2.1.below (k := w5.heap.size) ((Below.refl _ w5).drew) (Nat.le_refl _)) d hd HM.out.2.1.ok (by have := HM.out.2.1.lp; omega) (fits_bd HM.out.2.1.ok HM.out.2.1.fits HM.out.2.1.bd (by have := HM.out.2.1.lc; omega)) (by have := HM.out.2.1.lc; omega) HM.out.2.1.ld
        rw [HD.out, HLV.out] at hadd
        have HSX := Lib.hid (show w5.drew.cell? (a.add i) = some (.int .u32 x) ∧ w5.drew.cell? ⟨qx, 0, none⟩ = some (.int .u32 (ab C c')) ∧ w5.drew.cell? ⟨qx, 1, none⟩ = some (.slice fo F'.length fc) from ⟨k5, HM.out.2.2.2.2.1.cell 0, HM.out.2.2.2.2.1.cell 1⟩)
        refine wp_region_noPanic ?_
        refine wp_region_held_drew (S := fun v => v.cell? (a.add i) = some (.int .u32 x) ∧ v.cell? ⟨qx, 0, none⟩ = some (.int .u32 (ab C c')) ∧ v.cell? ⟨qx, 1, none⟩ = some (.slice fo F'.length fc)) (by kernel_rfl) HSX.out (fun _ => ?_)
        refine wpAnyH_abs _ (fun b hb => ?_)
        have bsz : b.tmps.size = 121 := by rw [hb]; rfl
        have e1 : b.eval (.tmp 1) = .slice (some a) len cap := by rw [hb]; rfl
        have e7 : b.eval (.tmp 7) = .pointer (some ⟨G, 0, none⟩) := by rw [hb]; rfl
        have e8 : b.eval (.tmp 8) = .pointer (some ⟨qx, 0, none⟩) := by rw [hb]; rfl
        have e9 : b.eval (.tmp 9) = .int .i64 i := by rw [hb]; rfl
        have e11 : b.eval (.tmp 11) = .int .i64 lv := by rw [hb]; rfl
        have HBB := Lib.hid hb
        clear hb
        have EV := And.intro @Act.eval_put_ne (And.intro @Act.eval_put_same (And.intro @Act.size_put (And.intro bsz (And.intro e1 (And.intro e7 (And.intro e8 (And.intro e9 (e11))))))))
        refine take_run (i := 0) (u := .pointer (some ⟨G, 0, none⟩)) rfl (by kernel_rfl) (by kernel_rfl) (by kernel_rfl) rfl rfl (fun _ _ _ h => h) HSX.out (fun v hv => run_move rfl (by simp [EV]) v) ?_
        refine take_run (i := 1) (u := .slice (some a) len cap) rfl (by kernel_rfl) (by kernel_rfl) (by kernel_rfl) rfl rfl (fun _ _ _ h => h) HSX.out (fun v hv => run_move rfl (by simp [EV]) v) ?_
        refine take_run (i := 2) (u := .int .i64 i) rfl (by kernel_rfl) (by kernel_rfl) (by kernel_rfl) rfl rfl (fun _ _ _ h => h) HSX.out (fun v hv => run_move rfl (by simp [EV]) v) ?_
        refine take_run (i := 3) (u := .pointer (some (a.add i))) rfl (by kernel_rfl) (by kernel_rfl) (by kernel_rfl) rfl rfl (fun _ _ _ h => h) HSX.out (fun v hv => run_index (s := .slice (some a) len cap) (j := .int .i64 i) rfl (by simp [EV]) (by simp [EV]) (by go_simp)) ?_
        refine take_run (i := 4) (u := .int .u32 x) rfl (by kernel_rfl) (by kernel_rfl) (by kernel_rfl) rfl rfl (fun _ _ _ h => h) HSX.out (fun v hv => run_load1 (s := .pointer (some (a.add i))) rfl (by simp [EV]) (by obtain ⟨q, _, _⟩ := hv; go_simp)) ?_
        refine take_run (i := 6) (u := .int .i64 lv) rfl (by kernel_rfl) (by kernel_rfl) (by kernel_rfl) rfl rfl (fun _ _ _ h => h) HSX.out (fun v hv => run_move rfl (by simp [EV]) v) ?_
        refine step_calls (i := 5) (by kernel_rfl) rfl rfl rfl 41 Try.f41 _ _ rfl Try.func41 (by kernel_rfl) (by kernel_rfl) #[.pointer (some ⟨G, 0, none⟩), .int .u32 x] (by simp [EV]) hadd ?_
        rintro e w6 ⟨rfl, pv', dv', G6, U6, B6⟩
        obtain ⟨R6, hcc⟩ := hsame pv' dv' w6 G6 (updrew U6)
        have bel6 : Below G w w6 := (HM.out.2.2.2.2.2.2.2.drew).trans B6
        have hk6 : w6.cell? (a.add i) = some (.int .u32 x) := HK.out w6 bel6
        have q0 := R6.B.cell 0
        have q1 := R6.B.cell 1
        rw [← hcc] at q0
        clear HSX
        have HSX := Lib.hid (show w6.cell? (a.add i) = some (.int .u32 x) ∧ w6.cell? ⟨qx, 0, none⟩ = some (.int .u32 (ab C c')) ∧ w6.cell? ⟨qx, 1, none⟩ = some (.slice fo F'.length fc) from ⟨hk6, q0, q1⟩)
        refine ⟨_, rfl, HSX.out, ?_⟩
        have hcum := cum_any R6.t
        have hwh := whole_any R6.t
        rw [← hcc] at hcum
        have hem : (binOp .eql 3 (.int .i64 (F'.length : Int)) (.int .i64 0)).run Try.prog w6 = .ok (.bool (addS s d).P.isEmpty) w6 := eqlE R6 w6
        have HX6 := Lib.hid (And.intro R6 bel6)
        clear R6 bel6 hk6 q0 q1 G6 U6 B6 hcc
        refine take_run (i := 7) (u := .bool false) rfl (by kernel_rfl) (by kernel_rfl) (by kernel_rfl) rfl rfl (fun _ _ _ h => h) HSX.out (fun v hv => run_cmp_int (k := .i64) (p := lv) (q := lv) rfl (.inl rfl) (by simp [EV]) (by simp [EV]) (neqI _ _)) ?_
        refine take_run (i := 8) (u := .bool false) rfl (by kernel_rfl) (by kernel_rfl) (by kernel_rfl) rfl rfl (fun _ _ _ h => h) HSX.out (fun v hv => run_move rfl (by simp [EV]) v) ?_
        refine take_run_g (i := 9) (u := .pointer (some ⟨G, 0, none⟩)) rfl (by kernel_rfl) (by kernel_rfl) (by kernel_rfl) (wanted_of rfl rfl rfl (bb := false) (by simp [EV])) rfl (fun _ _ _ h => h) HSX.out (fun v hv => run_move rfl (by simp [EV]) v) ?_
        refine take_run_g (i := 11) (u := .pointer (some ⟨qx, 0, none⟩)) rfl (by kernel_rfl) (by kernel_rfl) (by kernel_rfl) (wanted_of rfl rfl rfl (bb := false) (by simp [EV])) rfl (fun _ _ _ h => h) HSX.out (fun v hv => run_field (s := .pointer (some ⟨qx, 0, none⟩)) rfl (by simp [EV]) (by kernel_rfl)) ?_
        refine take_run_g (i := 12) (u := .int .u32 (ab C c')) rfl (by kernel_rfl) (by kernel_rfl) (by kernel_rfl) (wanted_of rfl rfl rfl (bb := false) (by simp [EV])) rfl (fun _ _ _ h => h) HSX.out (fun v hv => run_load1 (s := .pointer (some ⟨qx, 0, none⟩)) rfl (by simp [EV]) (by obtain ⟨_, q, _⟩ := hv; go_simp)) ?_
        refine step_calls_g (i := 10) (by kernel_rfl) rfl (wanted_of rfl rfl rfl (bb := false) (by simp [EV])) rfl 42 Try.f42 _ _ rfl Try.func42 (by kernel_rfl) (by kernel_rfl) #[.pointer (some ⟨G, 0, none⟩)] (by simp [EV]) hcum ?_
        rintro w7 rfl
        refine ⟨HSX.out, ?_⟩
        refine take_run_g (i := 13) (u := .bool false) rfl (by kernel_rfl) (by kernel_rfl) (by kernel_rfl) (wanted_of rfl rfl rfl (bb := false) (by simp [EV])) rfl (fun _ _ _ h => h) HSX.out (fun v hv => run_cmp_int (k := .u32) (p := ab C c') (q := ab C c') rfl (.inl rfl) (by simp [EV]) (by simp [EV]) (neqU _ _)) ?_
        refine take_run (i := 14) (u := .bool false) rfl (by kernel_rfl) (by kernel_rfl) (by kernel_rfl) rfl rfl (fun _ _ _ h => h) HSX.out (fun v hv => run_pick (b := false) rfl (by simp [EV]) (by simp [EV])) ?_
        refine take_run (i := 15) (u := .bool false) rfl (by kernel_rfl) (by kernel_rfl) (by kernel_rfl) rfl rfl (fun _ _ _ h => h) HSX.out (fun v hv => run_move rfl (by simp [EV]) v) ?_
        refine take_run_g (i := 16) (u := .pointer (some ⟨G, 0, none⟩)) rfl (by kernel_rfl) (by kernel_rfl) (by kernel_rfl) (wanted_of rfl rfl rfl (bb := false) (by simp [EV])) rfl (fun _ _ _ h => h) HSX.out (fun v hv => run_move rfl (by simp [EV]) v) ?_
        refine take_run_g (i := 18) (u := .pointer (some ⟨qx, 1, none⟩)) rfl (by kernel_rfl) (by kernel_rfl) (by kernel_rfl) (wanted_of rfl rfl rfl (bb := false) (by simp [EV])) rfl (fun _ _ _ h => h) HSX.out (fun v hv => run_field (s := .pointer (some ⟨qx, 0, none⟩)) rfl (by simp [EV]) (by kernel_rfl)) ?_
        refine take_run_g (i := 19) (u := .slice fo F'.length fc) rfl (by kernel_rfl) (by kernel_rfl) (by kernel_rfl) (wanted_of rfl rfl rfl (bb := false) (by simp [EV])) rfl (fun _ _ _ h => h) HSX.out (fun v hv => run_load1 (s := .pointer (some ⟨qx, 1, none⟩)) rfl (by simp [EV]) (by obtain ⟨_, _, q⟩ := hv; go_simp)) ?_
        refine take_run_g (i := 20) (u := .int .i64 (F'.length : Int)) rfl (by kernel_rfl) (by kernel_rfl) (by kernel_rfl) (wanted_of rfl rfl rfl (bb := false) (by simp [EV])) rfl (fun _ _ _ h => h) HSX.out (fun v hv => run_lens (s := .slice fo F'.length fc) rfl (by simp [EV]) (fun cs => by kernel_rfl)) ?_
        refine take_run_g (i := 21) (u := .bool (addS s d).P.isEmpty) rfl (by kernel_rfl) (by kernel_rfl) (by kernel_rfl) (wanted_of rfl rfl rfl (bb := false) (by simp [EV])) rfl (fun _ _ _ h => h) HSX.out (fun v hv => run_cmp_int (k := .i64) (p := (F'.length : Int)) (q := 0) rfl (.inr rfl) (by simp [EV]) rfl (eqlE HX6.out.1 v)) ?_
        refine step_calls_g (i := 17) (by kernel_rfl) rfl (wanted_of rfl rfl rfl (bb := false) (by simp [EV])) rfl 43 Try.f43 _ _ rfl Try.func43 (by kernel_rfl) (by kernel_rfl) #[.pointer (some ⟨G, 0, none⟩)] (by simp [EV]) hwh ?_
        rintro w7 rfl
        refine ⟨HSX.out, ?_⟩
        refine take_run_g (i := 22) (u := .bool false) rfl (by kernel_rfl) (by kernel_rfl) (by kernel_rfl) (wanted_of rfl rfl rfl (bb := false) (by simp [EV])) rfl (fun _ _ _ h => h) HSX.out (fun v hv => run_cmp_bool (p := (addS s d).P.isEmpty) (q := (addS s d).P.isEmpty) rfl (.inl rfl) (by simp [EV]) (by simp [EV]) (neqB _ _)) ?_
        refine take_run (i := 23) (u := .bool false) rfl (by kernel_rfl) (by kernel_rfl) (by kernel_rfl) rfl rfl (fun _ _ _ h => h) HSX.out (fun v hv => run_pick (b := false) rfl (by simp [EV]) (by simp [EV])) ?_
        refine wpAnyH_done (by kernel_rfl) ?_ _
        refine NoPanic.normal ?_
        rw [HBB.out]
        simp only [Act.put, List.setIfInBounds_toArray, List.set_cons_zero, List.set_cons_succ]
        clear HBB HSX
        go_wp2_with fail
        go_meet
        exact ⟨rfl, pv', dv', HX6.out.1, HX6.out.2⟩
      case rest =>
      obtain ⟨rfl, pv', dv', R5, bel5⟩ := hcut
      generalize wc = w6 at *
      clear HM HK HLV
      generalize (addS s d) = s' at *
      go_upto_region 11 with fail
      go_cut [79] (fun s79 wx => ∃ bb : Bool, s79 = .bool bb ∧ w6 = wx)
      case first =>
        go_wp2_with fail
        go_meet
        exact ⟨_, rfl, rfl⟩
      case rest =>
      obtain ⟨bb, rfl, rfl⟩ := hcut
      cases bb with
      | false =>
        have HE := Lib.hid (And.intro R5 bel5)
        clear R5 bel5
        go_wp2_with fail
        go_roundw
        case rel => exact ⟨i + 1, _, _, _, _, _, _, _, by go_num, by omega, by omega, HE.out.1, HE.out.2⟩
        case measure => simp [intOf]; omega
      | true =>
        obtain ⟨od, dc, hdv⟩ := own_arr R5.t.d
        subst hdv
        have hdup := dups_any R5.t
        have hX := R5.undup
        have bel7 := bel5.setCell (p := ⟨G, 2, none⟩) (Nat.le_refl _) (.slice none 0 0)
        have HD7 := Lib.hid (And.intro hX bel7)
        clear R5 bel5 hX bel7
        go_wp2_with fail
        refine hdup.mono ?_
        rintro e w7 ⟨rfl, rfl⟩
        go_upto_region 13 with fail
        clear hdup
        generalize w6.setCell ⟨G, 2, none⟩ (.slice none 0 0) = w7 at *
        have hG7 : G ≤ w7.heap.size := by have := HD7.out.1.hq; have := HD7.out.1.B.lt; omega
        go_cut [95] (fun s95 wx => s95 = .bool false ∧ Rd G G qx C (i + 1) s' F' D' pv' (.slice od D'.length dc) (.slice fo F'.length fc) (.slice ro D'.length rc) wx ∧ Below G w wx)
        case first =>
          have HSX := Lib.hid (show Cel w7.drew qx 0 #[.int .u32 (ab C s'.c), .slice fo F'.length fc, .slice ro D'.length rc] from Cel.of_blk (show Blk w7.drew qx _ _ from HD7.out.1.B))
          have hst : ∀ v, Below w7.heap.size w7 v → Rd G G qx C (i + 1) s' F' D' pv' (.slice od D'.length dc) (.slice fo F'.length fc) (.slice ro D'.length rc) v := fun v hv => HD7.out.1.below hv (Nat.le_refl _)
          have HST := Lib.hid hst
          clear hst
          refine wp_region_noPanic ?_
          refine wp_region_held_drew (S := fun v => Cel v qx 0 #[.int .u32 (ab C s'.c), .slice fo F'.length fc, .slice ro D'.length rc]) (by kernel_rfl) HSX.out (fun _ => ?_)
          refine wpAnyH_abs _ (fun b hb => ?_)
          have bsz : b.tmps.size = 121 := by rw [hb]; rfl
          have e7 : b.eval (.tmp 7) = .pointer (some ⟨G, 0, none⟩) := by rw [hb]; rfl
          have e8 : b.eval (.tmp 8) = .pointer (some ⟨qx, 0, none⟩) := by rw [hb]; rfl
          have e12 : b.eval (.tmp 12) = .slice od D'.length dc := by rw [hb]; rfl
          have HBB := Lib.hid hb
          clear hb
          have EV := And.intro @Act.eval_put_ne (And.intro @Act.eval_put_same (And.intro @Act.size_put (And.intro bsz (And.intro e7 (And.intro e8 (e12))))))
          refine take_run (i := 0) (u := .slice od D'.length dc) rfl (by kernel_rfl) (by kernel_rfl) (by kernel_rfl) rfl rfl (fun _ _ _ h => h) HSX.out (fun v hv => run_move rfl (by simp [EV]) v) ?_
          refine take_run (i := 1) (u := .int .i64 (D'.length : Int)) rfl (by kernel_rfl) (by kernel_rfl) (by kernel_rfl) rfl rfl (fun _ _ _ h => h) HSX.out (fun v hv => run_lens (s := .slice od D'.length dc) rfl (by simp [EV]) (fun cs => by kernel_rfl)) ?_
          refine take_run (i := 2) (u := .pointer (some ⟨qx, 2, none⟩)) rfl (by kernel_rfl) (by kernel_rfl) (by kernel_rfl) rfl rfl (fun _ _ _ h => h) HSX.out (fun v hv => run_field (s := .pointer (some ⟨qx, 0, none⟩)) rfl (by simp [EV]) (by kernel_rfl)) ?_
          refine take_run (i := 3) (u := .slice ro D'.length rc) rfl (by kernel_rfl) (by kernel_rfl) (by kernel_rfl) rfl rfl (fun _ _ _ h => h) HSX.out (fun v hv => run_load1 (s := .pointer (some ⟨qx, 2, none⟩)) rfl (by simp [EV]) (by have q : v.cell? ⟨qx, 2, none⟩ = some (.slice ro D'.length rc) := hv.cell 2 (u := .slice ro D'.length rc) rfl; go_simp)) ?_
          refine take_run (i := 4) (u := .int .i64 (D'.length : Int)) rfl (by kernel_rfl) (by kernel_rfl) (by kernel_rfl) rfl rfl (fun _ _ _ h => h) HSX.out (fun v hv => run_lens (s := .slice ro D'.length rc) rfl (by simp [EV]) (fun cs => by kernel_rfl)) ?_
          refine take_run (i := 5) (u := .bool false) rfl (by kernel_rfl) (by kernel_rfl) (by kernel_rfl) rfl rfl (fun _ _ _ h => h) HSX.out (fun v hv => run_cmp_int (k := .i64) (p := (D'.length : Int)) (q := (D'.length : Int)) rfl (.inl rfl) (by simp [EV]) (by simp [EV]) (neqI _ _)) ?_
          refine take_run (i := 6) (u := .bool false) rfl (by kernel_rfl) (by kernel_rfl) (by kernel_rfl) rfl rfl (fun _ _ _ h => h) HSX.out (fun v hv => run_move rfl (by simp [EV]) v) ?_
          refine take_run_g (i := 7) (u := .pointer (some ⟨G, 0, none⟩)) rfl (by kernel_rfl) (by kernel_rfl) (by kernel_rfl) (wanted_of rfl rfl rfl (bb := false) (by simp [EV])) rfl (fun _ _ _ h => h) HSX.out (fun v hv => run_move rfl (by simp [EV]) v) ?_
          refine take_run_g (i := 9) (u := .agg #[.int .u32 (ab C s'.c), .slice fo F'.length fc, .slice ro D'.length rc]) rfl (by kernel_rfl) (by kernel_rfl) (by kernel_rfl) (wanted_of rfl rfl rfl (bb := false) (by simp [EV])) rfl (fun _ _ _ h => h) HSX.out (fun v hv => run_load_at rfl (h := qx) (off := 0) (by simp [EV]) _ Try.underlying72 rfl (szGt _ _ _) hv) ?_
          refine step_calls_e (i := 8) (A := GpsA G s') (by kernel_rfl) rfl (wanted_of rfl rfl rfl (bb := false) (by simp [EV])) rfl 46 Try.f46 _ _ rfl Try.func46 (by kernel_rfl) (by kernel_rfl) #[.pointer (some ⟨G, 0, none⟩)] (by simp [EV]) (by have R := HST.out _ ((Below.refl w7.heap.size w7).drew); exact R.t.gapsA R.ok R.fits R.bd R.lp R.lc (by omega)) (fun uA wA aA hbA => ?_)
          have bwA : Below w7.heap.size w7 wA := ((Below.refl _ w7).drew).trans hbA
          have RA := HST.out wA bwA
          refine ⟨Cel.of_blk RA.B, ?_⟩
          refine step_calls_e (i := 10) (A := GpsA G s') (by kernel_rfl) rfl (wanted_of rfl rfl rfl (bb := false) (by simp [EV])) rfl 47 Try.f47 _ _ rfl Try.func47 (by kernel_rfl) (by kernel_rfl) #[.agg #[.int .u32 (ab C s'.c), .slice fo F'.length fc, .slice ro D'.length rc]] (by simp [EV]) (rgapsA RA.f RA.ok RA.fits RA.bd RA.lf RA.lp (by omega) (by have h1 := bwA.size; omega)) (fun uB w8 b8 hbB => ?_)
          have bw8 : Below w7.heap.size w7 w8 := bwA.trans (hbB.mono bwA.size)
          have a8 := gpsA_st _ _ _ aA hbB
          refine ⟨Cel.of_blk (HST.out w8 bw8).B, ?_⟩
          refine step_calls_g (i := 11) (by kernel_rfl) rfl (wanted_of rfl rfl rfl (bb := false) (by simp [EV])) rfl 45 Try.f45 _ _ rfl Try.func45 (by kernel_rfl) (by kernel_rfl) #[uA, uB] (by simp [EV]) (sameA a8 b8) ?_
          intro w9 hb9
          have bw9 : Below w7.heap.size w7 w9 := bw8.trans (hb9.mono bw8.size)
          have R9 := HST.out w9 bw9
          have bel9 := HD7.out.2.trans (bw9.mono hG7)
          refine ⟨Cel.of_blk R9.B, ?_⟩
          clear HSX
          have HSX := Lib.hid (show Cel w9 qx 0 #[.int .u32 (ab C s'.c), .slice fo F'.length fc, .slice ro D'.length rc] from Cel.of_blk R9.B)
          have HX9 := Lib.hid (And.intro R9 bel9)
          clear R9 bel9 bw9 hb9
          refine take_run_g (i := 12) (u := .bool false) rfl (by kernel_rfl) (by kernel_rfl) (by kernel_rfl) (wanted_of rfl rfl rfl (bb := false) (by simp [EV])) rfl (fun _ _ _ h => h) HSX.out (fun v hv => run_not (p := true) rfl (by simp [EV]) (by kernel_rfl)) ?_
          refine take_run (i := 13) (u := .bool false) rfl (by kernel_rfl) (by kernel_rfl) (by kernel_rfl) rfl rfl (fun _ _ _ h => h) HSX.out (fun v hv => run_pick (b := false) rfl (by simp [EV]) (by simp [EV])) ?_
          refine wpAnyH_done (by kernel_rfl) ?_ _
          refine NoPanic.normal ?_
          rw [HBB.out]
          simp only [Act.put, List.setIfInBounds_toArray, List.set_cons_zero, List.set_cons_succ]
          clear HBB HSX
          go_wp2_with fail
          go_meet
          exact ⟨rfl, HX9.out.1, HX9.out.2⟩
        case rest =>
        obtain ⟨rfl, R, bel⟩ := hcut
        generalize wc = w8 at *
        clear HD7
        go_wp2_with fail
        go_loopw [13] (fun s13 wr => ∃ k : Nat, k ≤ D'.length ∧ s13 = .int .i64 k ∧ Rd G G qx C (i + 1) s' F' D' pv' (.slice od D'.length dc) (.slice fo F'.length fc) (.slice ro D'.length rc) wr ∧ Below G w wr) (fun s13 _ => D'.length - (intOf s13).toNat)
        case atStart => exact ⟨0, by omega, rfl, R, bel⟩
        case round =>
          clear R bel
          obtain ⟨k, hk, rfl, R, bel⟩ := hrel
          have hld := R.ld
          have hG8 : G ≤ wr.heap.size := by have := bel.size; omega
          by_cases hltk : k < D'.length
          · obtain ⟨y, hy⟩ : ∃ y, D'[k]? = some y := ⟨_, List.getElem?_eq_getElem hltk⟩
            obtain ⟨gd, hod, kd⟩ := own_atU R.x hy
            obtain ⟨gr, hro, kr⟩ := own_atU R.d hy
            subst hod
            subst hro
            have hk' : (k : Int) < (D'.length : Int) := by omega
            have kq := R.B.cell 2
            have kq1 := cell_regrown kd
            have kq2 := cell_regrown kr
            have kq3 := cell_regrown kq
            have hne := neqU y
            have HW := Lib.hid (And.intro R bel)
            clear R bel hy kd kr kq
            go_upto_region 18 with fail
            refine wp_region_quiet_below (by kernel_rfl) (by kernel_rfl) ?_
            repeat (any_goals (first | go_big_quiet_step (fail) | quiet_step (fail)))
            refine wpQuiet_nil ?_
            intro _ hw'
            obtain ⟨⟨dq, osq⟩, hw''⟩ := hw'
            subst hw''
            have R9 := HW.out.1.below (below_regrown wr dq osq) (Nat.le_refl _)
            have bel9 := HW.out.2.trans ((below_regrown wr dq osq).mono hG8)
            have HV9 := Lib.hid (And.intro R9 bel9)
            clear R9 bel9 kq1 kq2 kq3 HW
            generalize grow (redrawn wr dq) osq = w9 at *
            go_wp2_with fail
            go_roundw
            case rel => exact ⟨k + 1, by omega, by go_num, HV9.out.1, HV9.out.2⟩
            case measure => simp [intOf]; omega
          · obtain rfl : k = D'.length := by omega
            have c2 := R.B.cell 2
            have f2 := R.B.frozen 2
            have R9 := R.done
            have bel9 := bel.setCell (p := ⟨qx, 2, none⟩) R.hq (.slice none 0 0)
            have HV9 := Lib.hid (And.intro R9 bel9)
            clear R9 bel9 R bel
            go_wp2_with fail
            go_roundw
            case rel => exact ⟨i + 1, _, _, _, _, _, _, _, by go_num, by omega, by omega, HV9.out.1, HV9.out.2⟩
            case measure => simp [intOf]; omega
    · by_cases hl : i < len
      · have hl1 : (i : Int) < (len : Int) := by omega
        have hl2 : ¬ (i : Int) < 60 := by omega
        have hl3 : (60 : Int) ≤ (i : Int) := by omega
        have HR := Lib.hid (And.intro R bel)
        clear R bel
        go_upto_region 21 with fail
        have HSX := Lib.hid (show Cel wr.drew qx 0 #[.int .u32 (ab C s.c), fv, rv] from Cel.of_blk (show Blk wr.drew qx _ _ from HR.out.1.B))
        refine wp_region_noPanic ?_
        refine wp_region_held_drew (S := fun v => Cel v qx 0 #[.int .u32 (ab C s.c), fv, rv]) (by kernel_rfl) HSX.out (fun _ => ?_)
        refine wpAnyH_abs _ (fun b hb => ?_)
        have bsz : b.tmps.size = 121 := by rw [hb]; rfl
        have e7 : b.eval (.tmp 7) = .pointer (some ⟨G, 0, none⟩) := by rw [hb]; rfl
        have e8 : b.eval (.tmp 8) = .pointer (some ⟨qx, 0, none⟩) := by rw [hb]; rfl
        have HBB := Lib.hid hb
        clear hb
        have EV := And.intro @Act.eval_put_ne (And.intro @Act.eval_put_same (And.intro @Act.size_put (And.intro bsz (And.intro e7 (e8)))))
        refine step_calls (i := 0) (by kernel_rfl) rfl rfl rfl 48 Try.f48 _ _ rfl Try.func48 (by kernel_rfl) (by kernel_rfl) #[] (by simp) (awake16_any _) ?_
        rintro e w3 ⟨rfl, hb3⟩
        have bw3 : Below wr.heap.size wr w3 := ((Below.refl _ wr).drew).trans hb3
        have R3 := HR.out.1.below bw3 (Nat.le_refl _)
        refine ⟨_, rfl, Cel.of_blk R3.B, ?_⟩
        clear HSX
        have HSX := Lib.hid (show Cel w3 qx 0 #[.int .u32 (ab C s.c), fv, rv] from Cel.of_blk R3.B)
        refine take_run (i := 1) (u := .bool true) rfl (by kernel_rfl) (by kernel_rfl) (by kernel_rfl) rfl rfl (fun _ _ _ h => h) HSX.out (fun v hv => run_move rfl (by simp [EV]) v) ?_
        refine take_run_g (i := 2) (u := .pointer (some ⟨G, 0, none⟩)) rfl (by kernel_rfl) (by kernel_rfl) (by kernel_rfl) (wanted_of rfl rfl rfl (bb := true) (by simp [EV])) rfl (fun _ _ _ h => h) HSX.out (fun v hv => run_move rfl (by simp [EV]) v) ?_
        refine take_run_g (i := 4) (u := .agg #[.int .u32 (ab C s.c), fv, rv]) rfl (by kernel_rfl) (by kernel_rfl) (by kernel_rfl) (wanted_of rfl rfl rfl (bb := true) (by simp [EV])) rfl (fun _ _ _ h => h) HSX.out (fun v hv => run_load_at rfl (h := qx) (off := 0) (by simp [EV]) _ Try.underlying72 rfl (szGt _ _ _) hv) ?_
        refine step_calls_e (i := 3) (A := GpsA G s) (by kernel_rfl) rfl (wanted_of rfl rfl rfl (bb := true) (by simp [EV])) rfl 46 Try.f46 _ _ rfl Try.func46 (by kernel_rfl) (by kernel_rfl) #[.pointer (some ⟨G, 0, none⟩)] (by simp [EV]) (R3.t.gapsA R3.ok R3.fits R3.bd R3.lp R3.lc (by omega)) (fun uA wA aA hbA => ?_)
        have RA := R3.below hbA (Nat.le_refl _)
        have bwA : Below wr.heap.size wr wA := bw3.trans (hbA.mono bw3.size)
        refine ⟨Cel.of_blk RA.B, ?_⟩
        refine step_calls_e (i := 5) (A := GpsA G s) (by kernel_rfl) rfl (wanted_of rfl rfl rfl (bb := true) (by simp [EV])) rfl 47 Try.f47 _ _ rfl Try.func47 (by kernel_rfl) (by kernel_rfl) #[.agg #[.int .u32 (ab C s.c), fv, rv]] (by simp [EV]) (rgapsA RA.f RA.ok RA.fits RA.bd RA.lf RA.lp (by omega) (by have h1 := bwA.size; omega)) (fun uB w8 b8 hbB => ?_)
        have R8 := RA.below hbB (Nat.le_refl _)
        have bw8 : Below wr.heap.size wr w8 := bwA.trans (hbB.mono bwA.size)
        have a8 := gpsA_st _ _ _ aA hbB
        refine ⟨Cel.of_blk R8.B, ?_⟩
        refine step_calls_g (i := 6) (by kernel_rfl) rfl (wanted_of rfl rfl rfl (bb := true) (by simp [EV])) rfl 45 Try.f45 _ _ rfl Try.func45 (by kernel_rfl) (by kernel_rfl) #[uA, uB] (by simp [EV]) (sameA a8 b8) ?_
        intro w9 hb9
        have R9 := R8.below hb9 (Nat.le_refl _)
        have bw9 : Below wr.heap.size wr w9 := bw8.trans (hb9.mono bw8.size)
        have bel9 : Below w.heap.size w w9 := by rw [hG]; exact HR.out.2.trans (bw9.mono hGw)
        refine ⟨Cel.of_blk R9.B, ?_⟩
        clear HSX
        have HSX := Lib.hid (show Cel w9 qx 0 #[.int .u32 (ab C s.c), fv, rv] from Cel.of_blk R9.B)
        have HX9 := Lib.hid bel9
        clear R9 bel9 bw9 hb9 R8 bw8 a8 b8 RA bwA R3 bw3
        refine take_run (i := 7) (u := .bool true) rfl (by kernel_rfl) (by kernel_rfl) (by kernel_rfl) rfl rfl (fun _ _ _ h => h) HSX.out (fun v hv => run_pick (b := true) rfl (by simp [EV]) (by simp [EV])) ?_
        refine step_val (i := 8) (u := .bool true) (by kernel_rfl) rfl rfl rfl HSX.out (run_assign rfl (by simp [EV]) _) ?_
        refine wpAnyH_done (by kernel_rfl) ?_ _
        refine NoPanic.normal ?_
        rw [HBB.out]
        simp only [Act.put, List.setIfInBounds_toArray, List.set_cons_zero, List.set_cons_succ]
        clear HBB HSX
        go_wp2_with fail
        go_ret
        exact ⟨rfl, by first | exact HX9.out | exact hG ▸ HX9.out⟩
      · have hl1 : (len : Int) ≤ (i : Int) := by omega
        have HR := Lib.hid (And.intro R bel)
        clear R bel
        go_upto_region 21 with fail
        have HSX := Lib.hid (show Cel wr.drew qx 0 #[.int .u32 (ab C s.c), fv, rv] from Cel.of_blk (show Blk wr.drew qx _ _ from HR.out.1.B))
        refine wp_region_noPanic ?_
        refine wp_region_held_drew (S := fun v => Cel v qx 0 #[.int .u32 (ab C s.c), fv, rv]) (by kernel_rfl) HSX.out (fun _ => ?_)
        refine wpAnyH_abs _ (fun b hb => ?_)
        have bsz : b.tmps.size = 121 := by rw [hb]; rfl
        have e7 : b.eval (.tmp 7) = .pointer (some ⟨G, 0, none⟩) := by rw [hb]; rfl
        have e8 : b.eval (.tmp 8) = .pointer (some ⟨qx, 0, none⟩) := by rw [hb]; rfl
        have HBB := Lib.hid hb
        clear hb
        have EV := And.intro @Act.eval_put_ne (And.intro @Act.eval_put_same (And.intro @Act.size_put (And.intro bsz (And.intro e7 (e8)))))
        refine step_calls (i := 0) (by kernel_rfl) rfl rfl rfl 48 Try.f48 _ _ rfl Try.func48 (by kernel_rfl) (by kernel_rfl) #[] (by simp) (awake16_any _) ?_
        rintro e w3 ⟨rfl, hb3⟩
        have bw3 : Below wr.heap.size wr w3 := ((Below.refl _ wr).drew).trans hb3
        have R3 := HR.out.1.below bw3 (Nat.le_refl _)
        refine ⟨_, rfl, Cel.of_blk R3.B, ?_⟩
        clear HSX
        have HSX := Lib.hid (show Cel w3 qx 0 #[.int .u32 (ab C s.c), fv, rv] from Cel.of_blk R3.B)
        refine take_run (i := 1) (u := .bool true) rfl (by kernel_rfl) (by kernel_rfl) (by kernel_rfl) rfl rfl (fun _ _ _ h => h) HSX.out (fun v hv => run_move rfl (by simp [EV]) v) ?_
        refine take_run_g (i := 2) (u := .pointer (some ⟨G, 0, none⟩)) rfl (by kernel_rfl) (by kernel_rfl) (by kernel_rfl) (wanted_of rfl rfl rfl (bb := true) (by simp [EV])) rfl (fun _ _ _ h => h) HSX.out (fun v hv => run_move rfl (by simp [EV]) v) ?_
        refine take_run_g (i := 4) (u := .agg #[.int .u32 (ab C s.c), fv, rv]) rfl (by kernel_rfl) (by kernel_rfl) (by kernel_rfl) (wanted_of rfl rfl rfl (bb := true) (by simp [EV])) rfl (fun _ _ _ h => h) HSX.out (fun v hv => run_load_at rfl (h := qx) (off := 0) (by simp [EV]) _ Try.underlying72 rfl (szGt _ _ _) hv) ?_
        refine step_calls_e (i := 3) (A := GpsA G s) (by kernel_rfl) rfl (wanted_of rfl rfl rfl (bb := true) (by simp [EV])) rfl 46 Try.f46 _ _ rfl Try.func46 (by kernel_rfl) (by kernel_rfl) #[.pointer (some ⟨G, 0, none⟩)] (by simp [EV]) (R3.t.gapsA R3.ok R3.fits R3.bd R3.lp R3.lc (by omega)) (fun uA wA aA hbA => ?_)
        have RA := R3.below hbA (Nat.le_refl _)
        have bwA : Below wr.heap.size wr wA := bw3.trans (hbA.mono bw3.size)
        refine ⟨Cel.of_blk RA.B, ?_⟩
        refine step_calls_e (i := 5) (A := GpsA G s) (by kernel_rfl) rfl (wanted_of rfl rfl rfl (bb := true) (by simp [EV])) rfl 47 Try.f47 _ _ rfl Try.func47 (by kernel_rfl) (by kernel_rfl) #[.agg #[.int .u32 (ab C s.c), fv, rv]] (by simp [EV]) (rgapsA RA.f RA.ok RA.fits RA.bd RA.lf RA.lp (by omega) (by have h1 := bwA.size; omega)) (fun uB w8 b8 hbB => ?_)
        have R8 := RA.below hbB (Nat.le_refl _)
        have bw8 : Below wr.heap.size wr w8 := bwA.trans (hbB.mono bwA.size)
        have a8 := gpsA_st _ _ _ aA hbB
        refine ⟨Cel.of_blk R8.B, ?_⟩
        refine step_calls_g (i := 6) (by kernel_rfl) rfl (wanted_of rfl rfl rfl (bb := true) (by simp [EV])) rfl 45 Try.f45 _ _ rfl Try.func45 (by kernel_rfl) (by kernel_rfl) #[uA, uB] (by simp [EV]) (sameA a8 b8) ?_
        intro w9 hb9
        have R9 := R8.below hb9 (Nat.le_refl _)
        have bw9 : Below wr.heap.size wr w9 := bw8.trans (hb9.mono bw8.size)
        have bel9 : Below w.heap.size w w9 := by rw [hG]; exact HR.out.2.trans (bw9.mono hGw)
        refine ⟨Cel.of_blk R9.B, ?_⟩
        clear HSX
        have HSX := Lib.hid (show Cel w9 qx 0 #[.int .u32 (ab C s.c), fv, rv] from Cel.of_blk R9.B)
        have HX9 := Lib.hid bel9
        clear R9 bel9 bw9 hb9 R8 bw8 a8 b8 RA bwA R3 bw3
        refine take_run (i := 7) (u := .bool true) rfl (by kernel_rfl) (by kernel_rfl) (by kernel_rfl) rfl rfl (fun _ _ _ h => h) HSX.out (fun v hv => run_pick (b := true) rfl (by simp [EV]) (by simp [EV])) ?_
        refine step_val (i := 8) (u := .bool true) (by kernel_rfl) rfl rfl rfl HSX.out (run_assign rfl (by simp [EV]) _) ?_
        refine wpAnyH_done (by kernel_rfl) ?_ _
        refine NoPanic.normal ?_
        rw [HBB.out]
        simp only [Act.put, List.setIfInBounds_toArray, List.set_cons_zero, List.set_cons_succ]
        clear HBB HSX
        go_wp2_with fail
        go_ret
        exact ⟨rfl, by first | exact HX9.out | exact hG ▸ HX9.out⟩
end Go.Proofs.Ythddacgdmngfhaa.gap
