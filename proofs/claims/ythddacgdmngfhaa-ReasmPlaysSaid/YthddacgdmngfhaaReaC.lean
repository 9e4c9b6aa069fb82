/- Layer 17: parts made; how far a message reaches. -/
import Derived.Test.YthddacgdmngfhaaReaB
import Derived.LoopTactic
namespace Go.Proofs.Ythddacgdmngfhaa.rea
open Go.Sort (grow)
open Go.ChangeShapes Go.WideShapes Go.ChangeAt Go.RowKit kit
set_option maxRecDepth 100000

theorem uM : Try.prog.underlying 205 = some (.map 28 40) := by kernel_rfl
theorem uK : Try.prog.underlying 28 = some (.int .u32) := by kernel_rfl
theorem zeroC (w : World) : (zeroValue 40).run Try.prog w = .ok (.agg (ckr 0 0 ⟨#[]⟩)) w := by kernel_rfl
/-- The cells of parts. -/
def pr (m : Nat) (b : Int) : Array Value := #[.map (some m), .int .i64 b]
/-- Parts at a place, with what waits. -/
structure Pa (b0 g m : Nat) (es : Array MapEntry) (c : Nat) (b : Int) (w : World) : Prop where
  B : Blk w g 207 (pr m b)
  M : MapB w m es c
  hg : b0 ≤ g
  hm : b0 ≤ m
  ne : m ≠ g
section
variable {b0 g m c : Nat} {es : Array MapEntry} {b : Int} {w w' : World}
theorem Pa.below {k : Nat} (q : Pa b0 g m es c b w) (hb : Below k w w') (hk : w.heap.size ≤ k) : Pa b0 g m es c b w' :=
  ⟨q.B.below hb (Nat.lt_of_lt_of_le q.B.lt hk), q.M.below hb (Nat.lt_of_lt_of_le q.M.lt hk), q.hg, q.hm, q.ne⟩
theorem Pa.alloc (q : Pa b0 g m es c b w) (o : Obj) : Pa b0 g m es c b (w.alloc o) := q.below ((Below.refl w.heap.size w).alloc (Nat.le_refl _) o) (Nat.le_refl _)
theorem Pa.drew (q : Pa b0 g m es c b w) : Pa b0 g m es c b w.drew := ⟨q.B, q.M, q.hg, q.hm, q.ne⟩
theorem Pa.far (q : Pa b0 g m es c b w) {p : Addr} (h1 : g ≠ p.block) (h2 : m ≠ p.block) (v : Value) : Pa b0 g m es c b (w.setCell p v) := ⟨q.B.far h1 v, q.M.far h2 v, q.hg, q.hm, q.ne⟩
end
theorem new_any (w : World) : Calls Try.prog 58 #[] w fun e w' => e = .returned (.pointer (some ⟨w.heap.size + 1, 0, none⟩)) ∧ Pa w.heap.size (w.heap.size + 1) w.heap.size #[] 0 0 w' ∧ Below w.heap.size w w' := by
  have hmk : ∀ w, (Instr.makeMap 205 none).run Try.prog w = .ok (.map (some w.heap.size)) (w.alloc (.map #[] 0)) := fun w => rfl
  have q : Pa w.heap.size (w.heap.size + 1) w.heap.size #[] 0 0 ((w.alloc (.map #[] 0)).alloc (.cells (pr w.heap.size 0) 207)) := ⟨blk_new2 _ _ _ _, (MapB.new w).alloc _, by omega, Nat.le_refl _, by omega⟩
  have bel := ((Below.refl w.heap.size w).alloc (Nat.le_refl _) (.map #[] 0)).alloc (by simp) (.cells (pr w.heap.size 0) 207)
  go_enter Try.func58, Try.ntmps58
  go_wp2
  go_ret
  exact ⟨by simp, q, bel⟩
theorem reach_begin (g : Nat) (w : World) : Calls Try.prog 106 #[.pointer (some ⟨g, 0, none⟩), .agg (ckr 2 5 ⟨#[97]⟩), .int .i64 2, .int .i64 1, .int .i64 (-1)] w fun e w' => e = .returned (.tuple #[.int .u32 5, .bool true]) ∧ Below w.heap.size w w' := by
  have X := Blk.new w 40 (ckr 2 5 ⟨#[97]⟩)
  have bel := (Below.refl w.heap.size w).alloc (Nat.le_refl _) (.cells (ckr 2 5 ⟨#[97]⟩) 40)
  go_enter Try.func106, Try.ntmps106
  go_wp2_with fail
  generalize w.alloc (.cells (ckr 2 5 ⟨#[97]⟩) 40) = w1 at *
  have x1 : w1.cell? ⟨w.heap.size, 1, none⟩ = some (.int .i64 2) := X.cell 1
  have x2 : w1.cell? ⟨w.heap.size, 2, none⟩ = some (.int .u32 5) := X.cell 2
  have b1 : bits .and .i64 2 2 = 2 := by decide
  refine wp_loop_rounds 1 ?_
  rw [rounds_succ]
  go_wp2_with fail
  exact bodyPost_ret (v := .tuple #[.int .u32 5, .bool true]) (by first | rfl | simp [results]) rfl ⟨rfl, bel⟩
set_option maxHeartbeats 2000000 in
theorem reach_none (b0 g m c : Nat) (b : Int) (es : Array MapEntry) (hf : Instr.findNow (.int .u32) (.int .u32 5) es.toList 0 = some none) (w : World) (q : Pa b0 g m es c b w) : Calls Try.prog 106 #[.pointer (some ⟨g, 0, none⟩), .agg (ckr 1 6 ⟨#[98]⟩), .int .i64 2, .int .i64 1, .int .i64 (-1)] w fun e w' => e = .returned (.tuple #[.int .u32 0, .bool false]) ∧ Below w.heap.size w w' := by
  have hgl := q.B.lt
  have hml := q.M.lt
  have X := Blk.new w 40 (ckr 1 6 ⟨#[98]⟩)
  have bel := (Below.refl w.heap.size w).alloc (Nat.le_refl _) (.cells (ckr 1 6 ⟨#[98]⟩) 40)
  have q1 := q.alloc (.cells (ckr 1 6 ⟨#[98]⟩) 40)
  go_enter Try.func106, Try.ntmps106
  go_wp2_with fail
  clear q
  generalize w.alloc (.cells (ckr 1 6 ⟨#[98]⟩) 40) = w1 at *
  clear hgl hml
  have hgl := q1.B.lt
  have hml := q1.M.lt
  have hw1 : w.heap.size < w1.heap.size := X.lt
  have x1 : w1.cell? ⟨w.heap.size, 1, none⟩ = some (.int .i64 1) := X.cell 1
  have x2 : w1.cell? ⟨w.heap.size, 2, none⟩ = some (.int .u32 6) := X.cell 2
  have g0 : w1.cell? ⟨g, 0, none⟩ = some (.map (some m)) := q1.B.cell 0
  have b1 : bits .and .i64 1 2 = 0 := by decide
  have b2 : IntKind.u32.wrap (-1) = 4294967295 := by decide
  have b3 : IntKind.u32.wrap 4294967301 = 5 := by decide
  have lk1 : (Instr.lookup 205 (.map (some m)) (.int .u32 5) true).run Try.prog w1 = .ok (.tuple #[.agg #[.int .i64 0, .int .i64 0, .int .u32 0, .int .i64 0, .int .i64 0, .int .u32 0, .string ⟨#[]⟩, .int .u32 0, .int .u32 0, .int .i64 0, .int .i64 0, .slice none 0 0, .slice none 0 0, .slice none 0 0, .slice none 0 0], .bool false]) w1 := lk_none uM uK q1.M (zeroC _) hf
  have lk2 : ∀ o, (Instr.lookup 205 (.map (some m)) (.int .u32 5) true).run Try.prog (w1.alloc o) = .ok (.tuple #[.agg #[.int .i64 0, .int .i64 0, .int .u32 0, .int .i64 0, .int .i64 0, .int .u32 0, .string ⟨#[]⟩, .int .u32 0, .int .u32 0, .int .i64 0, .int .i64 0, .slice none 0 0, .slice none 0 0, .slice none 0 0, .slice none 0 0], .bool false]) (w1.alloc o) := fun o => lk_none uM uK (q1.M.alloc o) (zeroC _) hf
  have lk3 : ∀ o, (Instr.lookup 205 (.map (some m)) (.int .u32 5) true).run Try.prog (w1.alloc o).drew = .ok (.tuple #[.agg #[.int .i64 0, .int .i64 0, .int .u32 0, .int .i64 0, .int .i64 0, .int .u32 0, .string ⟨#[]⟩, .int .u32 0, .int .u32 0, .int .i64 0, .int .i64 0, .slice none 0 0, .slice none 0 0, .slice none 0 0, .slice none 0 0], .bool false]) (w1.alloc o).drew := fun o => lk_none uM uK (q1.M.alloc o).drew (zeroC _) hf
  have lk4 : (Instr.lookup 205 (.map (some m)) (.int .u32 5) true).run Try.prog w1.drew = .ok (.tuple #[.agg #[.int .i64 0, .int .i64 0, .int .u32 0, .int .i64 0, .int .i64 0, .int .u32 0, .string ⟨#[]⟩, .int .u32 0, .int .u32 0, .int .i64 0, .int .i64 0, .slice none 0 0, .slice none 0 0, .slice none 0 0, .slice none 0 0], .bool false]) w1.drew := lk_none uM uK q1.M.drew (zeroC _) hf
  refine wp_loop_rounds 1 ?_
  rw [rounds_succ]
  go_wp2_with fail
  go_region
  have bel2 := (bel.alloc bel.size (.cells #[.int .i64 0, .int .i64 0, .int .u32 0, .int .i64 0, .int .i64 0, .int .u32 0, .string ⟨#[]⟩, .int .u32 0, .int .u32 0, .int .i64 0, .int .i64 0, .slice none 0 0, .slice none 0 0, .slice none 0 0, .slice none 0 0] 40)).drew
  clear lk1 lk2 lk3 lk4
  generalize (w1.alloc (.cells #[.int .i64 0, .int .i64 0, .int .u32 0, .int .i64 0, .int .i64 0, .int .u32 0, .string ⟨#[]⟩, .int .u32 0, .int .u32 0, .int .i64 0, .int .i64 0, .slice none 0 0, .slice none 0 0, .slice none 0 0, .slice none 0 0] 40)).drew = w2 at *
  go_wp2_with fail
  exact bodyPost_ret (v := .tuple #[.int .u32 0, .bool false]) (by first | rfl | simp [results]) rfl ⟨rfl, bel2⟩
set_option maxHeartbeats 2000000 in
theorem reach_end (b0 g m c i : Nat) (b : Int) (es : Array MapEntry) (hf : Instr.findNow (.int .u32) (.int .u32 6) es.toList 0 = some (some (i, .agg (ckr 1 6 ⟨#[98]⟩)))) (w : World) (q : Pa b0 g m es c b w) : Calls Try.prog 106 #[.pointer (some ⟨g, 0, none⟩), .agg (ckr 2 5 ⟨#[97]⟩), .int .i64 1, .int .i64 2, .int .i64 1] w fun e w' => e = .returned (.tuple #[.int .u32 6, .bool true]) ∧ Below w.heap.size w w' := by
  have hgl := q.B.lt
  have hml := q.M.lt
  have X := Blk.new w 40 (ckr 2 5 ⟨#[97]⟩)
  have bel := (Below.refl w.heap.size w).alloc (Nat.le_refl _) (.cells (ckr 2 5 ⟨#[97]⟩) 40)
  have q1 := q.alloc (.cells (ckr 2 5 ⟨#[97]⟩) 40)
  go_enter Try.func106, Try.ntmps106
  go_wp2_with fail
  clear q
  generalize w.alloc (.cells (ckr 2 5 ⟨#[97]⟩) 40) = w1 at *
  clear hgl hml
  have hgl := q1.B.lt
  have hml := q1.M.lt
  have hw1 : w.heap.size < w1.heap.size := X.lt
  have x1 : w1.cell? ⟨w.heap.size, 1, none⟩ = some (.int .i64 2) := X.cell 1
  have x2 : w1.cell? ⟨w.heap.size, 2, none⟩ = some (.int .u32 5) := X.cell 2
  have g0 : w1.cell? ⟨g, 0, none⟩ = some (.map (some m)) := q1.B.cell 0
  have b1 : bits .and .i64 2 1 = 0 := by decide
  have b2 : IntKind.u32.wrap 1 = 1 := by decide
  have b3 : IntKind.u32.wrap 6 = 6 := by decide
  have lk1 : (Instr.lookup 205 (.map (some m)) (.int .u32 6) true).run Try.prog w1 = .ok (.tuple #[.agg #[.int .i64 0, .int .i64 1, .int .u32 6, .int .i64 0, .int .i64 0, .int .u32 0, .string ⟨#[98]⟩, .int .u32 0, .int .u32 0, .int .i64 0, .int .i64 0, .slice none 0 0, .slice none 0 0, .slice none 0 0, .slice none 0 0], .bool true]) w1 := lk_some uM uK q1.M (i := i) (v := .agg (ckr 1 6 ⟨#[98]⟩)) hf
  have lk2 : ∀ o, (Instr.lookup 205 (.map (some m)) (.int .u32 6) true).run Try.prog (w1.alloc o) = .ok (.tuple #[.agg #[.int .i64 0, .int .i64 1, .int .u32 6, .int .i64 0, .int .i64 0, .int .u32 0, .string ⟨#[98]⟩, .int .u32 0, .int .u32 0, .int .i64 0, .int .i64 0, .slice none 0 0, .slice none 0 0, .slice none 0 0, .slice none 0 0], .bool true]) (w1.alloc o) := fun o => lk_some uM uK (q1.M.alloc o) (i := i) (v := .agg (ckr 1 6 ⟨#[98]⟩)) hf
  have lk3 : ∀ o, (Instr.lookup 205 (.map (some m)) (.int .u32 6) true).run Try.prog (w1.alloc o).drew = .ok (.tuple #[.agg #[.int .i64 0, .int .i64 1, .int .u32 6, .int .i64 0, .int .i64 0, .int .u32 0, .string ⟨#[98]⟩, .int .u32 0, .int .u32 0, .int .i64 0, .int .i64 0, .slice none 0 0, .slice none 0 0, .slice none 0 0, .slice none 0 0], .bool true]) (w1.alloc o).drew := fun o => lk_some uM uK (q1.M.alloc o).drew (i := i) (v := .agg (ckr 1 6 ⟨#[98]⟩)) hf
  have lk4 : (Instr.lookup 205 (.map (some m)) (.int .u32 6) true).run Try.prog w1.drew = .ok (.tuple #[.agg #[.int .i64 0, .int .i64 1, .int .u32 6, .int .i64 0, .int .i64 0, .int .u32 0, .string ⟨#[98]⟩, .int .u32 0, .int .u32 0, .int .i64 0, .int .i64 0, .slice none 0 0, .slice none 0 0, .slice none 0 0, .slice none 0 0], .bool true]) w1.drew := lk_some uM uK q1.M.drew (i := i) (v := .agg (ckr 1 6 ⟨#[98]⟩)) hf
  refine wp_loop_rounds 2 ?_
  rw [rounds_succ]
  go_wp2_with fail
  go_region
  have Y2 : Blk (w1.alloc (.cells #[.int .i64 0, .int .i64 1, .int .u32 6, .int .i64 0, .int .i64 0, .int .u32 0, .string ⟨#[98]⟩, .int .u32 0, .int .u32 0, .int .i64 0, .int .i64 0, .slice none 0 0, .slice none 0 0, .slice none 0 0, .slice none 0 0] 40)).drew w1.heap.size 40 (ckr 1 6 ⟨#[98]⟩) := (Blk.new w1 40 (ckr 1 6 ⟨#[98]⟩)).drew
  have X2 : Blk (w1.alloc (.cells #[.int .i64 0, .int .i64 1, .int .u32 6, .int .i64 0, .int .i64 0, .int .u32 0, .string ⟨#[98]⟩, .int .u32 0, .int .u32 0, .int .i64 0, .int .i64 0, .slice none 0 0, .slice none 0 0, .slice none 0 0, .slice none 0 0] 40)).drew w.heap.size 40 (ckr 2 5 ⟨#[97]⟩) := (X.alloc (.cells #[.int .i64 0, .int .i64 1, .int .u32 6, .int .i64 0, .int .i64 0, .int .u32 0, .string ⟨#[98]⟩, .int .u32 0, .int .u32 0, .int .i64 0, .int .i64 0, .slice none 0 0, .slice none 0 0, .slice none 0 0, .slice none 0 0] 40)).drew
  have bel2 := (bel.alloc bel.size (.cells #[.int .i64 0, .int .i64 1, .int .u32 6, .int .i64 0, .int .i64 0, .int .u32 0, .string ⟨#[98]⟩, .int .u32 0, .int .u32 0, .int .i64 0, .int .i64 0, .slice none 0 0, .slice none 0 0, .slice none 0 0, .slice none 0 0] 40)).drew
  clear lk1 lk2 lk3 lk4 X bel q1 x1 x2 g0
  generalize (w1.alloc (.cells #[.int .i64 0, .int .i64 1, .int .u32 6, .int .i64 0, .int .i64 0, .int .u32 0, .string ⟨#[98]⟩, .int .u32 0, .int .u32 0, .int .i64 0, .int .i64 0, .slice none 0 0, .slice none 0 0, .slice none 0 0, .slice none 0 0] 40)).drew = w2 at *
  generalize w1.heap.size = v at *
  have szA := szC 2 5 ⟨#[97]⟩
  have szB := szC 1 6 ⟨#[98]⟩
  have oneB := oneC 1 6 ⟨#[98]⟩
  go_wp2_with (first | (refine wpList_load_at_g (by rfl) 40 _ rfl v 0 rfl (ckr 1 6 ⟨#[98]⟩) _ (Cel.of_blk Y2) Try.underlying40 rfl szB ?_) | (refine wpList_load_at_g (by rfl) 40 _ rfl w.heap.size 0 rfl (ckr 2 5 ⟨#[97]⟩) _ (Cel.of_blk X2) Try.underlying40 rfl szA ?_))
  refine (together_56 _ _ _).mono ?_
  rintro e w3 ⟨rfl, hb3⟩
  have Y3 := Y2.below hb3 Y2.lt
  have X3 := X2.below hb3 X2.lt
  have bel3 := bel2.trans (hb3.mono bel2.size)
  clear Y2 X2 bel2 hb3
  have y1 : w3.cell? ⟨v, 1, none⟩ = some (.int .i64 1) := Y3.cell 1
  have b4 : bits .and .i64 1 2 = 0 := by decide
  go_upto_region 5 with (fail)
  go_wp2_with (first | (refine wpList_load_at rfl 40 _ rfl v 0 rfl (ckr 1 6 ⟨#[98]⟩) _ (Cel.of_blk Y3) Try.underlying40 rfl szB ?_) | (refine wpList_store_at rfl 40 _ _ rfl w.heap.size 0 (ckr 1 6 ⟨#[98]⟩) rfl rfl (ckr 2 5 ⟨#[97]⟩) (Cel.of_blk X3) szB rfl oneB ?_))
  have K := (Cel.of_blk X3).setCells_same (ckr 1 6 ⟨#[98]⟩).toList rfl
  have bel4 := below_setCells bel3 (Nat.le_refl _) 0 (ckr 1 6 ⟨#[98]⟩).toList
  clear Y3 X3 y1 bel3 szA szB oneB
  generalize w3.setCells w.heap.size 0 (ckr 1 6 ⟨#[98]⟩).toList = w4 at *
  have x1 : w4.cell? ⟨w.heap.size, 1, none⟩ = some (.int .i64 1) := K.cell0 1 rfl
  have x2 : w4.cell? ⟨w.heap.size, 2, none⟩ = some (.int .u32 6) := K.cell0 2 rfl
  have b5 : bits .and .i64 1 1 = 1 := by decide
  try rw [rounds_succ]
  go_wp2_with fail
  exact bodyPost_ret (v := .tuple #[.int .u32 6, .bool true]) (by first | rfl | simp [results]) rfl ⟨rfl, bel4⟩
end Go.Proofs.Ythddacgdmngfhaa.rea
