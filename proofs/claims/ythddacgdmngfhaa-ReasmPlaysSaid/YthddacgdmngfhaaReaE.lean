/- Layer 17: a part added; the statement's own example; the law. -/
import Derived.Test.YthddacgdmngfhaaReaD
import Derived.WalkSpells
namespace Go.Proofs.Ythddacgdmngfhaa.rea
open Go.Sort (grow)
open Go.ChangeShapes Go.WideShapes Go.ChangeAt Go.RowKit kit
open del (ms szM)
set_option maxRecDepth 100000

/-- A struct loaded out of any place, as one step of a region that draws its order. -/
theorem step_load_at {P : Program} {ops : Array Oper} {o : Oper} {a : Act} {w : World} {K : Act → World → Prop} {Q : Exit → Act → World → Prop} {E : Prop}
    (hg : o.guard = none) (ty : TypeId) (x : Operand) (ho : o.op = .load ty x) (h off : Nat) (hx : a.eval x = .pointer (some ⟨h, off, none⟩)) (cs : Array Value) (d : TypeDesc) (C : Cel w h off cs)
    (hu : P.underlying ty = some d) (hd : (match d with | .struct _ | .array _ _ => true | _ => false) = true) (hi : (P.info? ty).map (·.size) = some cs.size) (k : K (a.put o.dst (.agg cs)) w) :
    if Region.wanted o (yielded ops a.tmps) = true then Oper.wp P o a w K Q else E := by
  have hw : Region.wanted o (yielded ops a.tmps) = true := by simp [Region.wanted, hg]
  rw [if_pos hw]
  unfold Oper.wp execOp
  simp only [ho, hx, Instr.loadAt, Instr.sureAddr, Sem.run_bind, Sem.run_pure, Result.andThen_ok, run_loadVar_at ty d C hu hd hi]
  exact k
theorem len_of {b0 g m c : Nat} {b : Int} (w : World) (q : Pa b0 g m #[] c b w) : Calls Try.prog 62 #[.pointer (some ⟨g, 0, none⟩)] w fun e w' => e = .returned (.int .i64 0) ∧ w' = w := by
  have g0 : w.cell? ⟨g, 0, none⟩ = some (.map (some m)) := q.B.cell 0
  have hl : ∀ ty, (Builtin.len_ #[205] ty #[.map (some m)]).run Try.prog w = .ok (.int .i64 0) w := fun ty => len_map uM q.M #[205] rfl ty
  go_enter Try.func62, Try.ntmps62
  go_wp2_with fail
  go_ret
  exact ⟨rfl, rfl⟩
set_option maxHeartbeats 4000000 in
theorem add_first (b0 g m : Nat) (w : World) (q : Pa b0 g m #[] 0 0 w) (hb0 : b0 ≤ w.heap.size) : Calls Try.prog 60 #[.pointer (some ⟨g, 0, none⟩), .agg (ckr 1 6 ⟨#[98]⟩)] w fun e w' => e = .returned (.tuple #[.agg #[.int .i64 0, .int .i64 0, .bool false, .int .u32 0, .string ⟨#[]⟩], .bool false]) ∧ Pa b0 g m es1 1 1 w' ∧ Below b0 w w' := by
  have hgw := q.B.lt
  have hmw := q.M.lt
  have X1 := (Blk.new w 40 (ckr 1 6 ⟨#[98]⟩)).alloc (.cells #[.int .i64 0, .int .i64 0, .bool false, .int .u32 0, .string ⟨#[]⟩] 30)
  have S1 : Blk ((w.alloc (.cells (ckr 1 6 ⟨#[98]⟩) 40)).alloc (.cells #[.int .i64 0, .int .i64 0, .bool false, .int .u32 0, .string ⟨#[]⟩] 30)) (w.heap.size + 1) 30 #[.int .i64 0, .int .i64 0, .bool false, .int .u32 0, .string ⟨#[]⟩] := blk_new2 _ _ _ _
  have bel1 := ((Below.refl b0 w).alloc hb0 (.cells (ckr 1 6 ⟨#[98]⟩) 40)).alloc (by simp; omega) (.cells #[.int .i64 0, .int .i64 0, .bool false, .int .u32 0, .string ⟨#[]⟩] 30)
  have q1 := (q.alloc (.cells (ckr 1 6 ⟨#[98]⟩) 40)).alloc (.cells #[.int .i64 0, .int .i64 0, .bool false, .int .u32 0, .string ⟨#[]⟩] 30)
  go_enter Try.func60, Try.ntmps60
  go_upto_region 1 with (fail)
  clear q
  have hw0 : (w.alloc (.cells (ckr 1 6 ⟨#[98]⟩) 40)).alloc (.cells #[.int .i64 0, .int .i64 0, .bool false, .int .u32 0, .string ⟨#[]⟩] 30) = (w.alloc (.cells #[.int .i64 0, .int .i64 1, .int .u32 6, .int .i64 0, .int .i64 0, .int .u32 0, .string ⟨#[98]⟩, .int .u32 0, .int .u32 0, .int .i64 0, .int .i64 0, .slice none 0 0, .slice none 0 0, .slice none 0 0, .slice none 0 0] 40)).alloc (.cells #[.int .i64 0, .int .i64 0, .bool false, .int .u32 0, .string ⟨#[]⟩] 30) := rfl
  first | rw [← hw0] | skip
  clear hw0
  generalize (w.alloc (.cells (ckr 1 6 ⟨#[98]⟩) 40)).alloc (.cells #[.int .i64 0, .int .i64 0, .bool false, .int .u32 0, .string ⟨#[]⟩] 30) = w1 at *
  generalize hmb : w.heap.size + 1 = mb at *
  generalize w.heap.size = cb at *
  have hgl := q1.B.lt
  have hml := q1.M.lt
  have hcl := X1.lt
  have hsl := S1.lt
  have g0 : w1.cell? ⟨g, 0, none⟩ = some (.map (some m)) := q1.B.cell 0
  have x2 : w1.cell? ⟨cb, 2, none⟩ = some (.int .u32 6) := X1.cell 2
  have lk1 : (Instr.lookup 205 (.map (some m)) (.int .u32 6) true).run Try.prog w1 = .ok (.tuple #[.agg #[.int .i64 0, .int .i64 0, .int .u32 0, .int .i64 0, .int .i64 0, .int .u32 0, .string ⟨#[]⟩, .int .u32 0, .int .u32 0, .int .i64 0, .int .i64 0, .slice none 0 0, .slice none 0 0, .slice none 0 0, .slice none 0 0], .bool false]) w1 := lk_none uM uK q1.M (zeroC _) rfl
  have lk2 : ∀ o, (Instr.lookup 205 (.map (some m)) (.int .u32 6) true).run Try.prog (w1.alloc o) = .ok (.tuple #[.agg #[.int .i64 0, .int .i64 0, .int .u32 0, .int .i64 0, .int .i64 0, .int .u32 0, .string ⟨#[]⟩, .int .u32 0, .int .u32 0, .int .i64 0, .int .i64 0, .slice none 0 0, .slice none 0 0, .slice none 0 0, .slice none 0 0], .bool false]) (w1.alloc o) := fun o => lk_none uM uK (q1.M.alloc o) (zeroC _) rfl
  have lk3 : ∀ o, (Instr.lookup 205 (.map (some m)) (.int .u32 6) true).run Try.prog (w1.alloc o).drew = .ok (.tuple #[.agg #[.int .i64 0, .int .i64 0, .int .u32 0, .int .i64 0, .int .i64 0, .int .u32 0, .string ⟨#[]⟩, .int .u32 0, .int .u32 0, .int .i64 0, .int .i64 0, .slice none 0 0, .slice none 0 0, .slice none 0 0, .slice none 0 0], .bool false]) (w1.alloc o).drew := fun o => lk_none uM uK (q1.M.alloc o).drew (zeroC _) rfl
  have lk4 : (Instr.lookup 205 (.map (some m)) (.int .u32 6) true).run Try.prog w1.drew = .ok (.tuple #[.agg #[.int .i64 0, .int .i64 0, .int .u32 0, .int .i64 0, .int .i64 0, .int .u32 0, .string ⟨#[]⟩, .int .u32 0, .int .u32 0, .int .i64 0, .int .i64 0, .slice none 0 0, .slice none 0 0, .slice none 0 0, .slice none 0 0], .bool false]) w1.drew := lk_none uM uK q1.M.drew (zeroC _) rfl
  go_upto_region 3 with (fail)
  go_region
  have q3 := (q1.alloc (.cells #[.int .i64 0, .int .i64 0, .int .u32 0, .int .i64 0, .int .i64 0, .int .u32 0, .string ⟨#[]⟩, .int .u32 0, .int .u32 0, .int .i64 0, .int .i64 0, .slice none 0 0, .slice none 0 0, .slice none 0 0, .slice none 0 0] 40)).drew
  have X3 := (X1.alloc (.cells #[.int .i64 0, .int .i64 0, .int .u32 0, .int .i64 0, .int .i64 0, .int .u32 0, .string ⟨#[]⟩, .int .u32 0, .int .u32 0, .int .i64 0, .int .i64 0, .slice none 0 0, .slice none 0 0, .slice none 0 0, .slice none 0 0] 40)).drew
  have S3 := (S1.alloc (.cells #[.int .i64 0, .int .i64 0, .int .u32 0, .int .i64 0, .int .i64 0, .int .u32 0, .string ⟨#[]⟩, .int .u32 0, .int .u32 0, .int .i64 0, .int .i64 0, .slice none 0 0, .slice none 0 0, .slice none 0 0, .slice none 0 0] 40)).drew
  have bel3 := (bel1.alloc (by omega) (.cells #[.int .i64 0, .int .i64 0, .int .u32 0, .int .i64 0, .int .i64 0, .int .u32 0, .string ⟨#[]⟩, .int .u32 0, .int .u32 0, .int .i64 0, .int .i64 0, .slice none 0 0, .slice none 0 0, .slice none 0 0, .slice none 0 0] 40)).drew
  clear q1 X1 S1 bel1 g0 x2 lk1 lk2 lk3 lk4 hgl hml hcl hsl
  generalize (w1.alloc (.cells #[.int .i64 0, .int .i64 0, .int .u32 0, .int .i64 0, .int .i64 0, .int .u32 0, .string ⟨#[]⟩, .int .u32 0, .int .u32 0, .int .i64 0, .int .i64 0, .slice none 0 0, .slice none 0 0, .slice none 0 0, .slice none 0 0] 40)).drew = w3 at *
  skip
  have g0 : w3.cell? ⟨g, 0, none⟩ = some (.map (some m)) := q3.B.cell 0
  have hnm : ∀ w, (binOp .eql 205 (.map (some m)) (.map none)).run Try.prog w = .ok (.bool false) w := fun w => run_eql_map_nil w _ _ _ (some m) uM
  go_upto_region 8 with (fail)
  clear g0 hnm
  go_cut [42] (fun _ wx => Pa b0 g m es1 1 0 wx ∧ Blk wx cb 40 (ckr 1 6 ⟨#[98]⟩) ∧ Blk wx mb 30 #[.int .i64 0, .int .i64 0, .bool false, .int .u32 0, .string ⟨#[]⟩] ∧ Below b0 w wx)
  case first =>
    have g0 : w3.cell? ⟨g, 0, none⟩ = some (.map (some m)) := q3.B.cell 0
    have x2 : w3.cell? ⟨cb, 2, none⟩ = some (.int .u32 6) := X3.cell 2
    have szR := szC 1 6 ⟨#[98]⟩
    have y0 : w3.cell? ⟨cb, 0, none⟩ = some (.int .i64 0) := X3.cell 0
    have y1 : w3.cell? ⟨cb, 1, none⟩ = some (.int .i64 1) := X3.cell 1
    have y3 : w3.cell? ⟨cb, 3, none⟩ = some (.int .i64 0) := X3.cell 3
    have y4 : w3.cell? ⟨cb, 4, none⟩ = some (.int .i64 0) := X3.cell 4
    have y5 : w3.cell? ⟨cb, 5, none⟩ = some (.int .u32 0) := X3.cell 5
    have y6 : w3.cell? ⟨cb, 6, none⟩ = some (.string ⟨#[98]⟩) := X3.cell 6
    have y7 : w3.cell? ⟨cb, 7, none⟩ = some (.int .u32 0) := X3.cell 7
    have y8 : w3.cell? ⟨cb, 8, none⟩ = some (.int .u32 0) := X3.cell 8
    have y9 : w3.cell? ⟨cb, 9, none⟩ = some (.int .i64 0) := X3.cell 9
    have y10 : w3.cell? ⟨cb, 10, none⟩ = some (.int .i64 0) := X3.cell 10
    have y11 : w3.cell? ⟨cb, 11, none⟩ = some (.slice none 0 0) := X3.cell 11
    have y12 : w3.cell? ⟨cb, 12, none⟩ = some (.slice none 0 0) := X3.cell 12
    have y13 : w3.cell? ⟨cb, 13, none⟩ = some (.slice none 0 0) := X3.cell 13
    have y14 : w3.cell? ⟨cb, 14, none⟩ = some (.slice none 0 0) := X3.cell 14
    have hbw : b0 ≤ w3.heap.size := by have := q3.hg; have := q3.B.lt; omega
    go_region_law ((refine step_call2 (by rfl) 105 Try.f105 _ _ (by rfl) Try.func105 (by kernel_rfl) (by kernel_rfl) #[.agg (ckr 1 6 ⟨#[98]⟩)] (by simp [Act.eval, Act.put, ckr]) (clone_any 1 6 ⟨#[98]⟩ _) ?_; rintro e w9 ⟨rfl, hb9⟩; refine ⟨_, rfl, ?_⟩; have q9 := q3.drew.below hb9 (Nat.le_refl _); have X9 := X3.drew.below hb9 X3.lt; have S9 := S3.drew.below hb9 S3.lt; have bel9 := bel3.drew.trans (hb9.mono hbw); have g9 : w9.cell? ⟨g, 0, none⟩ = some (.map (some m)) := q9.B.cell 0; have x9 : w9.cell? ⟨cb, 2, none⟩ = some (.int .u32 6) := X9.cell 2; have u9 : (Instr.mapUpdate 205 (.map (some m)) (.int .u32 6) (.agg (ckr 1 6 ⟨#[98]⟩))).run Try.prog w9 = .ok () (Go.ChangeMaps.setBlock w9 m (.map es1 1)) := up_new uM uK q9.M (.agg (ckr 1 6 ⟨#[98]⟩)) rfl))
    all_goals
      go_wp2_with fail
      go_meet
      exact ⟨q9.map _ _, blk_map q9.M X9 _ _, blk_map q9.M S9 _ _, q9.M.bel bel9 q9.hm _ _⟩
  case rest =>
  obtain ⟨q10, X10, S10, bel10⟩ := hcut
  clear q3 X3 S3 bel3
  have g1 : wc.cell? ⟨g, 1, none⟩ = some (.int .i64 0) := q10.B.cell 1
  have g1f : wc.frozen? ⟨g, 1, none⟩ = false := q10.B.frozen 1
  have x6 : wc.cell? ⟨cb, 6, none⟩ = some (.string ⟨#[98]⟩) := X10.cell 6
  have hs1 : (⟨#[98]⟩ : ByteArray).size = 1 := rfl
  have hgl := q10.B.lt
  have hcl := X10.lt
  go_upto_region 9 with (fail)
  go_region
  have q11 := (q10.byt 1).drew
  have X11 := (X10.far (p := ⟨g, 1, none⟩) (by show cb ≠ g; omega) (.int .i64 1)).drew
  have S11 := (S10.far (p := ⟨g, 1, none⟩) (by show mb ≠ g; omega) (.int .i64 1)).drew
  have bel11 := (bel10.setCell (p := ⟨g, 1, none⟩) q10.hg (.int .i64 1)).drew
  clear q10 X10 S10 bel10 g1 g1f x6 hs1 hgl hcl
  generalize (wc.setCell ⟨g, 1, none⟩ (.int .i64 1)).drew = w11 at *
  have szR := szC 1 6 ⟨#[98]⟩
  have hbw : b0 ≤ w11.heap.size := by have := q11.hg; have := q11.B.lt; omega
  go_upto_region 10 with (fail)
  go_wp2_with (refine wpList_load_at rfl 40 _ rfl cb 0 rfl (ckr 1 6 ⟨#[98]⟩) _ (Cel.of_blk X11) Try.underlying40 rfl szR ?_)
  refine (reach_none b0 g m 1 1 es1 rfl _ q11).mono ?_
  rintro e w12 ⟨rfl, hb12⟩
  have q12 := q11.below hb12 (Nat.le_refl _)
  have S12 := S11.below hb12 S11.lt
  have bel12 := bel11.trans (hb12.mono hbw)
  clear q11 X11 S11 bel11 hb12 szR hbw
  have sz : (Try.prog.info? 30).map (·.size) = some (#[.int .i64 0, .int .i64 0, .bool false, .int .u32 0, .string ⟨#[]⟩] : Array Value).size := szM
  go_wp2_with (refine wpList_store_at rfl 30 _ _ rfl mb 0 #[.int .i64 0, .int .i64 0, .bool false, .int .u32 0, .string ⟨#[]⟩] rfl rfl #[.int .i64 0, .int .i64 0, .bool false, .int .u32 0, .string ⟨#[]⟩] (Cel.of_blk S12) sz rfl (by kernel_rfl) ?_)
  have K := (Cel.of_blk S12).setCells_same (#[.int .i64 0, .int .i64 0, .bool false, .int .u32 0, .string ⟨#[]⟩] : Array Value).toList rfl
  have bel13 := below_setCells bel12 (show b0 ≤ mb by omega) 0 (#[.int .i64 0, .int .i64 0, .bool false, .int .u32 0, .string ⟨#[]⟩] : Array Value).toList
  have q13 : Pa b0 g m es1 1 1 (w12.setCells mb 0 (#[.int .i64 0, .int .i64 0, .bool false, .int .u32 0, .string ⟨#[]⟩] : Array Value).toList) := ⟨blk_setCells q12.B (by omega) 0 _, mapb_setCells q12.M (by omega) 0 _, q12.hg, q12.hm, q12.ne⟩
  exact bodyPost_ret (v := .tuple #[.agg #[.int .i64 0, .int .i64 0, .bool false, .int .u32 0, .string ⟨#[]⟩], .bool false]) (by rw [results_cell_tmp_at rfl _ _ mb 0 #[.int .i64 0, .int .i64 0, .bool false, .int .u32 0, .string ⟨#[]⟩] _ rfl (K.congr (by simp)) Try.underlying30 rfl sz]; rfl) rfl ⟨rfl, q13, bel13⟩
set_option maxHeartbeats 4000000 in
theorem add_second (b0 g m : Nat) (w : World) (q : Pa b0 g m es1 1 1 w) (hb0 : b0 ≤ w.heap.size) : Calls Try.prog 60 #[.pointer (some ⟨g, 0, none⟩), .agg (ckr 2 5 ⟨#[97]⟩)] w fun e w' => e = .returned (.tuple #[.agg #[.int .i64 0, .int .i64 0, .bool false, .int .u32 0, .string ⟨#[97, 98]⟩], .bool true]) ∧ Pa b0 g m #[] 2 0 w' ∧ Below b0 w w' := by
  have hgw := q.B.lt
  have hmw := q.M.lt
  have X1 := (Blk.new w 40 (ckr 2 5 ⟨#[97]⟩)).alloc (.cells #[.int .i64 0, .int .i64 0, .bool false, .int .u32 0, .string ⟨#[]⟩] 30)
  have S1 : Blk ((w.alloc (.cells (ckr 2 5 ⟨#[97]⟩) 40)).alloc (.cells #[.int .i64 0, .int .i64 0, .bool false, .int .u32 0, .string ⟨#[]⟩] 30)) (w.heap.size + 1) 30 #[.int .i64 0, .int .i64 0, .bool false, .int .u32 0, .string ⟨#[]⟩] := blk_new2 _ _ _ _
  have bel1 := ((Below.refl b0 w).alloc hb0 (.cells (ckr 2 5 ⟨#[97]⟩) 40)).alloc (by simp; omega) (.cells #[.int .i64 0, .int .i64 0, .bool false, .int .u32 0, .string ⟨#[]⟩] 30)
  have q1 := (q.alloc (.cells (ckr 2 5 ⟨#[97]⟩) 40)).alloc (.cells #[.int .i64 0, .int .i64 0, .bool false, .int .u32 0, .string ⟨#[]⟩] 30)
  go_enter Try.func60, Try.ntmps60
  go_upto_region 1 with (fail)
  clear q
  have hw0 : (w.alloc (.cells (ckr 2 5 ⟨#[97]⟩) 40)).alloc (.cells #[.int .i64 0, .int .i64 0, .bool false, .int .u32 0, .string ⟨#[]⟩] 30) = (w.alloc (.cells #[.int .i64 0, .int .i64 2, .int .u32 5, .int .i64 0, .int .i64 0, .int .u32 0, .string ⟨#[97]⟩, .int .u32 0, .int .u32 0, .int .i64 0, .int .i64 0, .slice none 0 0, .slice none 0 0, .slice none 0 0, .slice none 0 0] 40)).alloc (.cells #[.int .i64 0, .int .i64 0, .bool false, .int .u32 0, .string ⟨#[]⟩] 30) := rfl
  first | rw [← hw0] | skip
  clear hw0
  generalize (w.alloc (.cells (ckr 2 5 ⟨#[97]⟩) 40)).alloc (.cells #[.int .i64 0, .int .i64 0, .bool false, .int .u32 0, .string ⟨#[]⟩] 30) = w1 at *
  generalize hmb : w.heap.size + 1 = mb at *
  generalize w.heap.size = cb at *
  have hgl := q1.B.lt
  have hml := q1.M.lt
  have hcl := X1.lt
  have hsl := S1.lt
  have g0 : w1.cell? ⟨g, 0, none⟩ = some (.map (some m)) := q1.B.cell 0
  have x2 : w1.cell? ⟨cb, 2, none⟩ = some (.int .u32 5) := X1.cell 2
  have lk1 : (Instr.lookup 205 (.map (some m)) (.int .u32 5) true).run Try.prog w1 = .ok (.tuple #[.agg #[.int .i64 0, .int .i64 0, .int .u32 0, .int .i64 0, .int .i64 0, .int .u32 0, .string ⟨#[]⟩, .int .u32 0, .int .u32 0, .int .i64 0, .int .i64 0, .slice none 0 0, .slice none 0 0, .slice none 0 0, .slice none 0 0], .bool false]) w1 := lk_none uM uK q1.M (zeroC _) rfl
  have lk2 : ∀ o, (Instr.lookup 205 (.map (some m)) (.int .u32 5) true).run Try.prog (w1.alloc o) = .ok (.tuple #[.agg #[.int .i64 0, .int .i64 0, .int .u32 0, .int .i64 0, .int .i64 0, .int .u32 0, .string ⟨#[]⟩, .int .u32 0, .int .u32 0, .int .i64 0, .int .i64 0, .slice none 0 0, .slice none 0 0, .slice none 0 0, .slice none 0 0], .bool false]) (w1.alloc o) := fun o => lk_none uM uK (q1.M.alloc o) (zeroC _) rfl
  have lk3 : ∀ o, (Instr.lookup 205 (.map (some m)) (.int .u32 5) true).run Try.prog (w1.alloc o).drew = .ok (.tuple #[.agg #[.int .i64 0, .int .i64 0, .int .u32 0, .int .i64 0, .int .i64 0, .int .u32 0, .string ⟨#[]⟩, .int .u32 0, .int .u32 0, .int .i64 0, .int .i64 0, .slice none 0 0, .slice none 0 0, .slice none 0 0, .slice none 0 0], .bool false]) (w1.alloc o).drew := fun o => lk_none uM uK (q1.M.alloc o).drew (zeroC _) rfl
  have lk4 : (Instr.lookup 205 (.map (some m)) (.int .u32 5) true).run Try.prog w1.drew = .ok (.tuple #[.agg #[.int .i64 0, .int .i64 0, .int .u32 0, .int .i64 0, .int .i64 0, .int .u32 0, .string ⟨#[]⟩, .int .u32 0, .int .u32 0, .int .i64 0, .int .i64 0, .slice none 0 0, .slice none 0 0, .slice none 0 0, .slice none 0 0], .bool false]) w1.drew := lk_none uM uK q1.M.drew (zeroC _) rfl
  go_upto_region 3 with (fail)
  go_region
  have q3 := (q1.alloc (.cells #[.int .i64 0, .int .i64 0, .int .u32 0, .int .i64 0, .int .i64 0, .int .u32 0, .string ⟨#[]⟩, .int .u32 0, .int .u32 0, .int .i64 0, .int .i64 0, .slice none 0 0, .slice none 0 0, .slice none 0 0, .slice none 0 0] 40)).drew
  have X3 := (X1.alloc (.cells #[.int .i64 0, .int .i64 0, .int .u32 0, .int .i64 0, .int .i64 0, .int .u32 0, .string ⟨#[]⟩, .int .u32 0, .int .u32 0, .int .i64 0, .int .i64 0, .slice none 0 0, .slice none 0 0, .slice none 0 0, .slice none 0 0] 40)).drew
  have S3 := (S1.alloc (.cells #[.int .i64 0, .int .i64 0, .int .u32 0, .int .i64 0, .int .i64 0, .int .u32 0, .string ⟨#[]⟩, .int .u32 0, .int .u32 0, .int .i64 0, .int .i64 0, .slice none 0 0, .slice none 0 0, .slice none 0 0, .slice none 0 0] 40)).drew
  have bel3 := (bel1.alloc (by omega) (.cells #[.int .i64 0, .int .i64 0, .int .u32 0, .int .i64 0, .int .i64 0, .int .u32 0, .string ⟨#[]⟩, .int .u32 0, .int .u32 0, .int .i64 0, .int .i64 0, .slice none 0 0, .slice none 0 0, .slice none 0 0, .slice none 0 0] 40)).drew
  clear q1 X1 S1 bel1 g0 x2 lk1 lk2 lk3 lk4 hgl hml hcl hsl
  generalize (w1.alloc (.cells #[.int .i64 0, .int .i64 0, .int .u32 0, .int .i64 0, .int .i64 0, .int .u32 0, .string ⟨#[]⟩, .int .u32 0, .int .u32 0, .int .i64 0, .int .i64 0, .slice none 0 0, .slice none 0 0, .slice none 0 0, .slice none 0 0] 40)).drew = w3 at *
  skip
  have g0 : w3.cell? ⟨g, 0, none⟩ = some (.map (some m)) := q3.B.cell 0
  have hnm : ∀ w, (binOp .eql 205 (.map (some m)) (.map none)).run Try.prog w = .ok (.bool false) w := fun w => run_eql_map_nil w _ _ _ (some m) uM
  go_upto_region 8 with (fail)
  clear g0 hnm
  go_cut [42] (fun _ wx => Pa b0 g m es2 2 1 wx ∧ Blk wx cb 40 (ckr 2 5 ⟨#[97]⟩) ∧ Blk wx mb 30 #[.int .i64 0, .int .i64 0, .bool false, .int .u32 0, .string ⟨#[]⟩] ∧ Below b0 w wx)
  case first =>
    have g0 : w3.cell? ⟨g, 0, none⟩ = some (.map (some m)) := q3.B.cell 0
    have x2 : w3.cell? ⟨cb, 2, none⟩ = some (.int .u32 5) := X3.cell 2
    have szR := szC 2 5 ⟨#[97]⟩
    have y0 : w3.cell? ⟨cb, 0, none⟩ = some (.int .i64 0) := X3.cell 0
    have y1 : w3.cell? ⟨cb, 1, none⟩ = some (.int .i64 2) := X3.cell 1
    have y3 : w3.cell? ⟨cb, 3, none⟩ = some (.int .i64 0) := X3.cell 3
    have y4 : w3.cell? ⟨cb, 4, none⟩ = some (.int .i64 0) := X3.cell 4
    have y5 : w3.cell? ⟨cb, 5, none⟩ = some (.int .u32 0) := X3.cell 5
    have y6 : w3.cell? ⟨cb, 6, none⟩ = some (.string ⟨#[97]⟩) := X3.cell 6
    have y7 : w3.cell? ⟨cb, 7, none⟩ = some (.int .u32 0) := X3.cell 7
    have y8 : w3.cell? ⟨cb, 8, none⟩ = some (.int .u32 0) := X3.cell 8
    have y9 : w3.cell? ⟨cb, 9, none⟩ = some (.int .i64 0) := X3.cell 9
    have y10 : w3.cell? ⟨cb, 10, none⟩ = some (.int .i64 0) := X3.cell 10
    have y11 : w3.cell? ⟨cb, 11, none⟩ = some (.slice none 0 0) := X3.cell 11
    have y12 : w3.cell? ⟨cb, 12, none⟩ = some (.slice none 0 0) := X3.cell 12
    have y13 : w3.cell? ⟨cb, 13, none⟩ = some (.slice none 0 0) := X3.cell 13
    have y14 : w3.cell? ⟨cb, 14, none⟩ = some (.slice none 0 0) := X3.cell 14
    have hbw : b0 ≤ w3.heap.size := by have := q3.hg; have := q3.B.lt; omega
    go_region_law ((refine step_call2 (by rfl) 105 Try.f105 _ _ (by rfl) Try.func105 (by kernel_rfl) (by kernel_rfl) #[.agg (ckr 2 5 ⟨#[97]⟩)] (by simp [Act.eval, Act.put, ckr]) (clone_any 2 5 ⟨#[97]⟩ _) ?_; rintro e w9 ⟨rfl, hb9⟩; refine ⟨_, rfl, ?_⟩; have q9 := q3.drew.below hb9 (Nat.le_refl _); have X9 := X3.drew.below hb9 X3.lt; have S9 := S3.drew.below hb9 S3.lt; have bel9 := bel3.drew.trans (hb9.mono hbw); have g9 : w9.cell? ⟨g, 0, none⟩ = some (.map (some m)) := q9.B.cell 0; have x9 : w9.cell? ⟨cb, 2, none⟩ = some (.int .u32 5) := X9.cell 2; have u9 : (Instr.mapUpdate 205 (.map (some m)) (.int .u32 5) (.agg (ckr 2 5 ⟨#[97]⟩))).run Try.prog w9 = .ok () (Go.ChangeMaps.setBlock w9 m (.map es2 2)) := up_new uM uK q9.M (.agg (ckr 2 5 ⟨#[97]⟩)) rfl))
    all_goals
      go_wp2_with fail
      go_meet
      exact ⟨q9.map _ _, blk_map q9.M X9 _ _, blk_map q9.M S9 _ _, q9.M.bel bel9 q9.hm _ _⟩
  case rest =>
  obtain ⟨q10, X10, S10, bel10⟩ := hcut
  clear q3 X3 S3 bel3
  have g1 : wc.cell? ⟨g, 1, none⟩ = some (.int .i64 1) := q10.B.cell 1
  have g1f : wc.frozen? ⟨g, 1, none⟩ = false := q10.B.frozen 1
  have x6 : wc.cell? ⟨cb, 6, none⟩ = some (.string ⟨#[97]⟩) := X10.cell 6
  have hs1 : (⟨#[97]⟩ : ByteArray).size = 1 := rfl
  have hgl := q10.B.lt
  have hcl := X10.lt
  go_upto_region 9 with (fail)
  go_region
  have q11 := (q10.byt 2).drew
  have X11 := (X10.far (p := ⟨g, 1, none⟩) (by show cb ≠ g; omega) (.int .i64 2)).drew
  have S11 := (S10.far (p := ⟨g, 1, none⟩) (by show mb ≠ g; omega) (.int .i64 2)).drew
  have bel11 := (bel10.setCell (p := ⟨g, 1, none⟩) q10.hg (.int .i64 2)).drew
  clear q10 X10 S10 bel10 g1 g1f x6 hs1 hgl hcl
  generalize (wc.setCell ⟨g, 1, none⟩ (.int .i64 2)).drew = w11 at *
  have szR := szC 2 5 ⟨#[97]⟩
  have hbw : b0 ≤ w11.heap.size := by have := q11.hg; have := q11.B.lt; omega
  go_upto_region 10 with (fail)
  go_wp2_with (refine wpList_load_at rfl 40 _ rfl cb 0 rfl (ckr 2 5 ⟨#[97]⟩) _ (Cel.of_blk X11) Try.underlying40 rfl szR ?_)
  refine (reach_begin g _).mono ?_
  rintro e w12 ⟨rfl, hb12⟩
  have q12 := q11.below hb12 (Nat.le_refl _)
  have X12 := X11.below hb12 X11.lt
  have S12 := S11.below hb12 S11.lt
  have bel12 := bel11.trans (hb12.mono hbw)
  have hbw12 : b0 ≤ w12.heap.size := Nat.le_trans hbw hb12.size
  clear q11 X11 S11 bel11 hb12 hbw
  go_upto_region 13 with (fail)
  go_wp2_with (refine wpList_load_at rfl 40 _ rfl cb 0 rfl (ckr 2 5 ⟨#[97]⟩) _ (Cel.of_blk X12) Try.underlying40 rfl szR ?_)
  refine (reach_end b0 g m 2 0 2 es2 rfl _ q12).mono ?_
  rintro e w14 ⟨rfl, hb14⟩
  have q14 := q12.below hb14 (Nat.le_refl _)
  have S14 := S12.below hb14 S12.lt
  have bel14 := bel12.trans (hb14.mono hbw12)
  have hbw14 : mb < w14.heap.size := S14.lt
  clear q12 X12 S12 bel12 hb14 szR
  go_upto_region 16 with (fail)
  go_wp2_with fail
  refine (taken_of b0 g m 2 mb w14 q14 (by omega) S14 hbw14 (by omega) (by omega)).mono ?_
  rintro e w16 ⟨rfl, q16, bel16, S16⟩
  have bel17 := bel14.trans bel16
  have sz : (Try.prog.info? 30).map (·.size) = some (#[.int .i64 0, .int .i64 0, .bool false, .int .u32 0, .string ⟨#[97, 98]⟩] : Array Value).size := szM
  go_wp2_with (refine wpList_store_at rfl 30 _ _ rfl mb 0 #[.int .i64 0, .int .i64 0, .bool false, .int .u32 0, .string ⟨#[97, 98]⟩] rfl rfl #[.int .i64 0, .int .i64 0, .bool false, .int .u32 0, .string ⟨#[]⟩] (Cel.of_blk S16) sz rfl (by kernel_rfl) ?_)
  have K := (Cel.of_blk S16).setCells_same (#[.int .i64 0, .int .i64 0, .bool false, .int .u32 0, .string ⟨#[97, 98]⟩] : Array Value).toList rfl
  have bel18 := below_setCells bel17 (show b0 ≤ mb by omega) 0 (#[.int .i64 0, .int .i64 0, .bool false, .int .u32 0, .string ⟨#[97, 98]⟩] : Array Value).toList
  have q18 : Pa b0 g m #[] 2 0 (w16.setCells mb 0 (#[.int .i64 0, .int .i64 0, .bool false, .int .u32 0, .string ⟨#[97, 98]⟩] : Array Value).toList) := ⟨blk_setCells q16.B (by omega) 0 _, mapb_setCells q16.M (by omega) 0 _, q16.hg, q16.hm, q16.ne⟩
  exact bodyPost_ret (v := .tuple #[.agg #[.int .i64 0, .int .i64 0, .bool false, .int .u32 0, .string ⟨#[97, 98]⟩], .bool true]) (by rw [results_cell_tmp_at rfl _ _ mb 0 #[.int .i64 0, .int .i64 0, .bool false, .int .u32 0, .string ⟨#[97, 98]⟩] _ rfl (K.congr (by simp)) Try.underlying30 rfl sz]; rfl) rfl ⟨rfl, q18, bel18⟩
set_option maxHeartbeats 2000000 in
theorem awake17_any (w : World) : Calls Try.prog 59 #[] w fun e w' => e = .returned (.bool true) ∧ Below w.heap.size w w' := by
  go_enter Try.func59, Try.ntmps59
  go_wp2_with fail
  refine (new_any _).mono ?_
  rintro e w1 ⟨rfl, q1, bel1⟩
  generalize w.heap.size + 1 = g at *
  generalize hm : w.heap.size = m at *
  have hb1 : m ≤ w1.heap.size := by have := q1.M.lt; omega
  go_wp2_with fail
  refine (add_first m g m w1 q1 hb1).mono ?_
  rintro e w2 ⟨rfl, q2, bl2⟩
  have bel2 := bel1.trans bl2
  clear q1 bel1 bl2
  go_upto_region 3 with (fail)
  have q3 := q2.alloc (.cells #[.int .i64 0, .int .i64 0, .bool false, .int .u32 0, .string ⟨#[]⟩] 30)
  have bel3 := bel2.alloc (by have := q2.M.lt; omega) (.cells #[.int .i64 0, .int .i64 0, .bool false, .int .u32 0, .string ⟨#[]⟩] 30)
  clear q2 bel2
  generalize w2.alloc (.cells #[.int .i64 0, .int .i64 0, .bool false, .int .u32 0, .string ⟨#[]⟩] 30) = w3 at *
  have hb3 : m ≤ w3.heap.size := by have := q3.M.lt; omega
  go_wp2_with fail
  refine (add_second m g m w3 q3 hb3).mono ?_
  rintro e w4 ⟨rfl, q4, bl4⟩
  have bel4 := bel3.trans bl4
  clear q3 bel3 bl4
  go_upto_region 4 with (fail)
  have q5 := q4.alloc (.cells #[.int .i64 0, .int .i64 0, .bool false, .int .u32 0, .string ⟨#[97, 98]⟩] 30)
  have S5 := Blk.new w4 30 #[.int .i64 0, .int .i64 0, .bool false, .int .u32 0, .string ⟨#[97, 98]⟩]
  have bel5 := bel4.alloc (by have := q4.M.lt; omega) (.cells #[.int .i64 0, .int .i64 0, .bool false, .int .u32 0, .string ⟨#[97, 98]⟩] 30)
  clear q4 bel4
  generalize w4.alloc (.cells #[.int .i64 0, .int .i64 0, .bool false, .int .u32 0, .string ⟨#[97, 98]⟩] 30) = w5 at *
  generalize w4.heap.size = z at *
  have s4 : w5.cell? ⟨z, 4, none⟩ = some (.string ⟨#[97, 98]⟩) := S5.cell 4
  go_wp2_with fail
  refine (len_of _ q5).mono ?_
  rintro e w6 ⟨rfl, rfl⟩
  go_wp2_with fail
  go_ret
  subst hm
  exact ⟨rfl, bel5⟩
end Go.Proofs.Ythddacgdmngfhaa.rea
