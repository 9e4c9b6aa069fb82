/- Layer 17: a message taken. -/
import Derived.Test.YthddacgdmngfhaaReaC
import Derived.Test.YthddacgdmngfhaaBld
import Derived.Test.YthddacgdmngfhaaShb
namespace Go.Proofs.Ythddacgdmngfhaa.rea
open Go.Sort (grow)
open Go.ChangeShapes Go.WideShapes Go.ChangeAt Go.RowKit kit
open del (ms szM)
set_option maxRecDepth 100000

def es1 : Array MapEntry := #[⟨.int .u32 6, .agg (ckr 1 6 ⟨#[98]⟩), 0⟩]
def es2 : Array MapEntry := #[⟨.int .u32 6, .agg (ckr 1 6 ⟨#[98]⟩), 0⟩, ⟨.int .u32 5, .agg (ckr 2 5 ⟨#[97]⟩), 1⟩]
section
variable {b0 g m c : Nat} {es : Array MapEntry} {b : Int} {w w' : World}
theorem Pa.below' {k : Nat} (q : Pa b0 g m es c b w) (hb : Below k w w') (hg : g < k) (hm : m < k) : Pa b0 g m es c b w' := ⟨q.B.below hb hg, q.M.below hb hm, q.hg, q.hm, q.ne⟩
theorem Pa.map (q : Pa b0 g m es c b w) (es' : Array MapEntry) (c' : Nat) : Pa b0 g m es' c' b (Go.ChangeMaps.setBlock w m (.map es' c')) := ⟨blk_map q.M q.B _ _, q.M.set_ _ _, q.hg, q.hm, q.ne⟩
theorem Pa.byt (q : Pa b0 g m es c b w) (b' : Int) : Pa b0 g m es c b' (w.setCell ⟨g, 1, none⟩ (.int .i64 b')) := ⟨q.B.set_ 1 _, q.M.far (p := ⟨g, 1, none⟩) q.ne _, q.hg, q.hm, q.ne⟩
theorem used_map {B bb : Nat} {bs : List Value} (h : bld.UsedB B bb bs w) (M : MapB w m es c) (hm : m < B) (es' : Array MapEntry) (c' : Nat) : bld.UsedB B bb bs (Go.ChangeMaps.setBlock w m (.map es' c')) := by
  obtain ⟨hB, v, hb, hown, hne⟩ := h
  exact ⟨hB, v, (M.other _ _ (by omega)).trans hb, own_other hown (fun k hk => M.other _ _ (by have := own_ge hown k hk; omega)), hne⟩
end
theorem mapb_setCells {w : World} {m h c : Nat} {es : Array MapEntry} (M : MapB w m es c) (hne : m ≠ h) : ∀ (o : Nat) (vs : List Value), MapB (w.setCells h o vs) m es c := by
  intro o vs
  induction vs generalizing o w with
  | nil => exact M
  | cons v vs ih => exact ih (M.far (p := ⟨h, o, none⟩) hne v) (o + 1)
set_option maxHeartbeats 4000000 in
theorem taken_of (b0 g m c z : Nat) (w : World) (q : Pa b0 g m es2 c 2 w) (hb0 : b0 ≤ w.heap.size) (V : Blk w z 30 #[.int .i64 0, .int .i64 0, .bool false, .int .u32 0, .string ⟨#[]⟩]) (hzl : z < w.heap.size) (hzg : z ≠ g) (hzm : z ≠ m) : Calls Try.prog 107 #[.pointer (some ⟨g, 0, none⟩), .int .u32 5, .int .u32 6] w fun e w' => e = .returned (.agg #[.int .i64 0, .int .i64 0, .bool false, .int .u32 0, .string ⟨#[97, 98]⟩]) ∧ Pa b0 g m #[] c 0 w' ∧ Below b0 w w' ∧ Blk w' z 30 #[.int .i64 0, .int .i64 0, .bool false, .int .u32 0, .string ⟨#[]⟩] := by
  have hgl := q.B.lt
  have hml := q.M.lt
  have R1 := Blk.new w 30 #[.int .i64 0, .int .i64 0, .bool false, .int .u32 0, .string ⟨#[]⟩]
  have V1 := V.alloc (.cells #[.int .i64 0, .int .i64 0, .bool false, .int .u32 0, .string ⟨#[]⟩] 30)
  have bel1 := (Below.refl b0 w).alloc (by have := q.hg; omega) (.cells #[.int .i64 0, .int .i64 0, .bool false, .int .u32 0, .string ⟨#[]⟩] 30)
  have q1 := q.alloc (.cells #[.int .i64 0, .int .i64 0, .bool false, .int .u32 0, .string ⟨#[]⟩] 30)
  go_enter Try.func107, Try.ntmps107
  go_upto_region 1 with (fail)
  clear q
  generalize w.alloc (.cells #[.int .i64 0, .int .i64 0, .bool false, .int .u32 0, .string ⟨#[]⟩] 30) = w1 at *
  have hbr : b0 ≤ w.heap.size := by have := bel1.size; have := q1.hg; have := R1.lt; first | omega | exact hb0
  generalize w.heap.size = r at *
  have g0 : w1.cell? ⟨g, 0, none⟩ = some (.map (some m)) := q1.B.cell 0
  have lkA : (Instr.lookup 205 (.map (some m)) (.int .u32 5) false).run Try.prog w1 = .ok (.agg #[.int .i64 0, .int .i64 2, .int .u32 5, .int .i64 0, .int .i64 0, .int .u32 0, .string ⟨#[97]⟩, .int .u32 0, .int .u32 0, .int .i64 0, .int .i64 0, .slice none 0 0, .slice none 0 0, .slice none 0 0, .slice none 0 0]) w1 := lk_val uM uK q1.M (i := 1) (v := .agg (ckr 2 5 ⟨#[97]⟩)) rfl
  go_upto_region 2 with (fail)
  have q2 := q1.alloc (.cells #[.int .i64 0, .int .i64 2, .int .u32 5, .int .i64 0, .int .i64 0, .int .u32 0, .string ⟨#[97]⟩, .int .u32 0, .int .u32 0, .int .i64 0, .int .i64 0, .slice none 0 0, .slice none 0 0, .slice none 0 0, .slice none 0 0] 40)
  have X2 := Blk.new w1 40 #[.int .i64 0, .int .i64 2, .int .u32 5, .int .i64 0, .int .i64 0, .int .u32 0, .string ⟨#[97]⟩, .int .u32 0, .int .u32 0, .int .i64 0, .int .i64 0, .slice none 0 0, .slice none 0 0, .slice none 0 0, .slice none 0 0]
  have R2 := R1.alloc (.cells #[.int .i64 0, .int .i64 2, .int .u32 5, .int .i64 0, .int .i64 0, .int .u32 0, .string ⟨#[97]⟩, .int .u32 0, .int .u32 0, .int .i64 0, .int .i64 0, .slice none 0 0, .slice none 0 0, .slice none 0 0, .slice none 0 0] 40)
  have V2 := V1.alloc (.cells #[.int .i64 0, .int .i64 2, .int .u32 5, .int .i64 0, .int .i64 0, .int .u32 0, .string ⟨#[97]⟩, .int .u32 0, .int .u32 0, .int .i64 0, .int .i64 0, .slice none 0 0, .slice none 0 0, .slice none 0 0, .slice none 0 0] 40)
  have bel2 := bel1.alloc (by have := q1.hg; have := q1.B.lt; omega) (.cells #[.int .i64 0, .int .i64 2, .int .u32 5, .int .i64 0, .int .i64 0, .int .u32 0, .string ⟨#[97]⟩, .int .u32 0, .int .u32 0, .int .i64 0, .int .i64 0, .slice none 0 0, .slice none 0 0, .slice none 0 0, .slice none 0 0] 40)
  clear q1 R1 V1 bel1 g0 lkA
  generalize w1.alloc (.cells #[.int .i64 0, .int .i64 2, .int .u32 5, .int .i64 0, .int .i64 0, .int .u32 0, .string ⟨#[97]⟩, .int .u32 0, .int .u32 0, .int .i64 0, .int .i64 0, .slice none 0 0, .slice none 0 0, .slice none 0 0, .slice none 0 0] 40) = w2 at *
  generalize w1.heap.size = xa at *
  have x1 : w2.cell? ⟨xa, 1, none⟩ = some (.int .i64 2) := X2.cell 1
  have x3 : w2.cell? ⟨xa, 3, none⟩ = some (.int .i64 0) := X2.cell 3
  have x4 : w2.cell? ⟨xa, 4, none⟩ = some (.int .i64 0) := X2.cell 4
  have x5 : w2.cell? ⟨xa, 5, none⟩ = some (.int .u32 0) := X2.cell 5
  have b4 : bits .and .i64 2 4 = 0 := by decide
  go_upto_region 3 with (fail)
  have q3 := q2.alloc (.cells #[.int .i64 0, .int .i64 0, .bool false, .int .u32 0, .string ⟨#[]⟩] 30)
  have S3 := Blk.new w2 30 #[.int .i64 0, .int .i64 0, .bool false, .int .u32 0, .string ⟨#[]⟩]
  have R3 := R2.alloc (.cells #[.int .i64 0, .int .i64 0, .bool false, .int .u32 0, .string ⟨#[]⟩] 30)
  have V3 := V2.alloc (.cells #[.int .i64 0, .int .i64 0, .bool false, .int .u32 0, .string ⟨#[]⟩] 30)
  have bel3 := bel2.alloc (by have := q2.hg; have := q2.B.lt; omega) (.cells #[.int .i64 0, .int .i64 0, .bool false, .int .u32 0, .string ⟨#[]⟩] 30)
  have hrs : r < w2.heap.size := R2.lt
  have hgs : g < w2.heap.size := q2.B.lt
  have hms : m < w2.heap.size := q2.M.lt
  clear q2 R2 V2 X2 bel2 x1 x3 x4 x5
  generalize w2.alloc (.cells #[.int .i64 0, .int .i64 0, .bool false, .int .u32 0, .string ⟨#[]⟩] 30) = w3 at *
  generalize w2.heap.size = sb at *
  have s2 : w3.cell? ⟨sb, 2, none⟩ = some (.bool false) := S3.cell 2
  go_upto_region 6 with (fail)
  have H4 : bld.IsB w3.heap.size w3.heap.size [] (w3.alloc (.cells #[.pointer none, .slice none 0 0] 270)) := Lib.fresh_isBuilder 270 5 w3
  have q4 := q3.alloc (.cells #[.pointer none, .slice none 0 0] 270)
  have S4 := S3.alloc (.cells #[.pointer none, .slice none 0 0] 270)
  have R4 := R3.alloc (.cells #[.pointer none, .slice none 0 0] 270)
  have V4 := V3.alloc (.cells #[.pointer none, .slice none 0 0] 270)
  have bel4 := bel3.alloc (by have := q3.hg; have := q3.B.lt; omega) (.cells #[.pointer none, .slice none 0 0] 270)
  have hsb : sb < w3.heap.size := S3.lt
  have hbb : w3.heap.size < (w3.alloc (.cells #[.pointer none, .slice none 0 0] 270)).heap.size := by simp
  have hb0 : b0 ≤ w3.heap.size := by have := q3.hg; omega
  clear q3 S3 R3 V3 bel3 s2
  generalize w3.alloc (.cells #[.pointer none, .slice none 0 0] 270) = w4 at *
  generalize w3.heap.size = bb at *
  have w7 : IntKind.u32.wrap 7 = 7 := by decide
  have w6 : IntKind.u32.wrap 6 = 6 := by decide
  go_wp2_with fail
  refine wp_loop_rounds 3 ?_
  rw [rounds_succ]
  have g0 : w4.cell? ⟨g, 0, none⟩ = some (.map (some m)) := q4.B.cell 0
  have lkA : (Instr.lookup 205 (.map (some m)) (.int .u32 5) false).run Try.prog w4 = .ok (.agg #[.int .i64 0, .int .i64 2, .int .u32 5, .int .i64 0, .int .i64 0, .int .u32 0, .string ⟨#[97]⟩, .int .u32 0, .int .u32 0, .int .i64 0, .int .i64 0, .slice none 0 0, .slice none 0 0, .slice none 0 0, .slice none 0 0]) w4 := lk_val uM uK q4.M (i := 1) (v := .agg (ckr 2 5 ⟨#[97]⟩)) rfl
  have hfd : ∀ w : World, (Instr.field 40 (.agg #[.int .i64 0, .int .i64 2, .int .u32 5, .int .i64 0, .int .i64 0, .int .u32 0, .string ⟨#[97]⟩, .int .u32 0, .int .u32 0, .int .i64 0, .int .i64 0, .slice none 0 0, .slice none 0 0, .slice none 0 0, .slice none 0 0]) 6).run Try.prog w = .ok (.string ⟨#[97]⟩) w := fun _ => by kernel_rfl
  go_wp2_with fail
  clear hfd
  refine (bld.write_any bb bb [] ⟨#[97]⟩ w4 H4 (by show _ + 1 ≤ 100000000; first | (simp; done) | decide) (by omega)).mono ?_
  rintro e w4a ⟨rfl, H5, hb5⟩
  have q5 := q4.below' hb5 (by omega) (by omega)
  have S5 := S4.below hb5 (by omega)
  have R5 := R4.below hb5 (by omega)
  have V5 := V4.below hb5 (by omega)
  have bel5 := bel4.trans (hb5.mono hb0)
  have hbb5 : bb < w4a.heap.size := Nat.lt_of_lt_of_le hbb hb5.size
  clear q4 S4 R4 V4 bel4 H4 g0 lkA hb5 hbb
  have g0 : w4a.cell? ⟨g, 0, none⟩ = some (.map (some m)) := q5.B.cell 0
  have heq : (es2).eraseIdxIfInBounds 1 = es1 := by first | rfl | kernel_rfl | simp [es2, es1, Array.eraseIdxIfInBounds]
  have dl : ∀ ty, (Builtin.delete_ #[205, 28] ty #[.map (some m), .int .u32 5]).run Try.prog w4a = .ok (.tuple #[]) (Go.ChangeMaps.setBlock w4a m (.map es1 c)) := fun ty => by rw [del_some uM uK q5.M #[205, 28] rfl ty (i := 1) (v := .agg (ckr 2 5 ⟨#[97]⟩)) rfl, heq]
  go_upto_region 8 with (fail)
  have q4 := q5.map es1 c
  have S4 := blk_map q5.M S5 es1 c
  have R4 := blk_map q5.M R5 es1 c
  have V4 := blk_map q5.M V5 es1 c
  have bel4 := q5.M.bel bel5 q5.hm es1 c
  have H4 : bld.IsB bb bb _ _ := .inr (used_map H5 q5.M (by omega) es1 c)
  have hbb : bb < (Go.ChangeMaps.setBlock w4a m (.map es1 c)).heap.size := by rw [MapB.size]; exact hbb5
  clear q5 S5 R5 V5 bel5 H5 g0 dl heq hbb5
  generalize Go.ChangeMaps.setBlock w4a m (.map es1 c) = w5 at *
  go_wp2_with fail
  rw [rounds_succ]
  have g0 : w5.cell? ⟨g, 0, none⟩ = some (.map (some m)) := q4.B.cell 0
  have lkA : (Instr.lookup 205 (.map (some m)) (.int .u32 6) false).run Try.prog w5 = .ok (.agg #[.int .i64 0, .int .i64 1, .int .u32 6, .int .i64 0, .int .i64 0, .int .u32 0, .string ⟨#[98]⟩, .int .u32 0, .int .u32 0, .int .i64 0, .int .i64 0, .slice none 0 0, .slice none 0 0, .slice none 0 0, .slice none 0 0]) w5 := lk_val uM uK q4.M (i := 0) (v := .agg (ckr 1 6 ⟨#[98]⟩)) rfl
  have hfd : ∀ w : World, (Instr.field 40 (.agg #[.int .i64 0, .int .i64 1, .int .u32 6, .int .i64 0, .int .i64 0, .int .u32 0, .string ⟨#[98]⟩, .int .u32 0, .int .u32 0, .int .i64 0, .int .i64 0, .slice none 0 0, .slice none 0 0, .slice none 0 0, .slice none 0 0]) 6).run Try.prog w = .ok (.string ⟨#[98]⟩) w := fun _ => by kernel_rfl
  go_wp2_with fail
  clear hfd
  refine (bld.write_any bb bb _ ⟨#[98]⟩ w5 H4 (by show _ + 1 ≤ 100000000; first | (simp; done) | decide) (by omega)).mono ?_
  rintro e w5a ⟨rfl, H5, hb5⟩
  have q5 := q4.below' hb5 (by omega) (by omega)
  have S5 := S4.below hb5 (by omega)
  have R5 := R4.below hb5 (by omega)
  have V5 := V4.below hb5 (by omega)
  have bel5 := bel4.trans (hb5.mono hb0)
  have hbb5 : bb < w5a.heap.size := Nat.lt_of_lt_of_le hbb hb5.size
  clear q4 S4 R4 V4 bel4 H4 g0 lkA hb5 hbb
  have g0 : w5a.cell? ⟨g, 0, none⟩ = some (.map (some m)) := q5.B.cell 0
  have heq : (es1).eraseIdxIfInBounds 0 = #[] := by first | rfl | kernel_rfl | simp [es2, es1, Array.eraseIdxIfInBounds]
  have dl : ∀ ty, (Builtin.delete_ #[205, 28] ty #[.map (some m), .int .u32 6]).run Try.prog w5a = .ok (.tuple #[]) (Go.ChangeMaps.setBlock w5a m (.map #[] c)) := fun ty => by rw [del_some uM uK q5.M #[205, 28] rfl ty (i := 0) (v := .agg (ckr 1 6 ⟨#[98]⟩)) rfl, heq]
  go_upto_region 8 with (fail)
  have q4 := q5.map #[] c
  have S4 := blk_map q5.M S5 #[] c
  have R4 := blk_map q5.M R5 #[] c
  have V4 := blk_map q5.M V5 #[] c
  have bel4 := q5.M.bel bel5 q5.hm #[] c
  have H4 : bld.IsB bb bb _ _ := .inr (used_map H5 q5.M (by omega) #[] c)
  have hbb : bb < (Go.ChangeMaps.setBlock w5a m (.map #[] c)).heap.size := by rw [MapB.size]; exact hbb5
  clear q5 S5 R5 V5 bel5 H5 g0 dl heq hbb5
  generalize Go.ChangeMaps.setBlock w5a m (.map #[] c) = w6 at *
  go_wp2_with fail
  rw [rounds_succ]
  go_wp2_with fail
  refine (Try.Builder_String_any bb bb [97, 98] w6 H4 (by omega)).mono ?_
  rintro e w8 ⟨rfl, hb8⟩
  have q8 := q4.below' hb8 (by omega) (by omega)
  have S8 := S4.below hb8 (by omega)
  have R8 := R4.below hb8 (by omega)
  have V8 := V4.below hb8 (by omega)
  have bel8 := bel4.trans (hb8.mono hb0)
  clear q4 S4 R4 V4 bel4 H4 hb8 hbb
  have s4 : w8.cell? ⟨sb, 4, none⟩ = some (.string ⟨#[]⟩) := S8.cell 4
  have s4f : w8.frozen? ⟨sb, 4, none⟩ = false := S8.frozen 4
  go_upto_region 12 with (fail)
  have q9 := q8.far (p := ⟨sb, 4, none⟩) (by show g ≠ sb; omega) (by show m ≠ sb; omega) (.string ⟨#[97, 98]⟩)
  have S9 : Blk (w8.setCell ⟨sb, 4, none⟩ (.string ⟨#[97, 98]⟩)) sb 30 #[.int .i64 0, .int .i64 0, .bool false, .int .u32 0, .string ⟨#[97, 98]⟩] := S8.set_ 4 _
  have R9 := R8.far (p := ⟨sb, 4, none⟩) (by show r ≠ sb; omega) (.string ⟨#[97, 98]⟩)
  have V9 := V8.far (p := ⟨sb, 4, none⟩) (by show z ≠ sb; omega) (.string ⟨#[97, 98]⟩)
  have bel9 := bel8.setCell (p := ⟨sb, 4, none⟩) (by show b0 ≤ sb; omega) (.string ⟨#[97, 98]⟩)
  clear q8 S8 R8 V8 bel8 s4 s4f
  generalize w8.setCell ⟨sb, 4, none⟩ (.string ⟨#[97, 98]⟩) = w9 at *
  have g1 : w9.cell? ⟨g, 1, none⟩ = some (.int .i64 2) := q9.B.cell 1
  have g1f : w9.frozen? ⟨g, 1, none⟩ = false := q9.B.frozen 1
  have s4 : w9.cell? ⟨sb, 4, none⟩ = some (.string ⟨#[97, 98]⟩) := S9.cell 4
  have hs2 : (⟨#[97, 98]⟩ : ByteArray).size = 2 := rfl
  go_region
  have q10 := (q9.byt 0).drew
  have S10 := (S9.far (p := ⟨g, 1, none⟩) (by show sb ≠ g; omega) (.int .i64 0)).drew
  have R10 := (R9.far (p := ⟨g, 1, none⟩) (by show r ≠ g; omega) (.int .i64 0)).drew
  have V10 := (V9.far (p := ⟨g, 1, none⟩) (by show z ≠ g; omega) (.int .i64 0)).drew
  have bel10 := (bel9.setCell (p := ⟨g, 1, none⟩) q9.hg (.int .i64 0)).drew
  clear q9 S9 R9 V9 bel9 g1 g1f s4 hs2
  generalize (w9.setCell ⟨g, 1, none⟩ (.int .i64 0)).drew = w10 at *
  have sz : (Try.prog.info? 30).map (·.size) = some (#[.int .i64 0, .int .i64 0, .bool false, .int .u32 0, .string ⟨#[97, 98]⟩] : Array Value).size := szM
  have sz0 : (#[.int .i64 0, .int .i64 0, .bool false, .int .u32 0, .string ⟨#[]⟩] : Array Value).size = (#[.int .i64 0, .int .i64 0, .bool false, .int .u32 0, .string ⟨#[97, 98]⟩] : Array Value).size := rfl
  go_wp2_with (first | (refine wpList_load_at rfl 30 _ rfl sb 0 rfl #[.int .i64 0, .int .i64 0, .bool false, .int .u32 0, .string ⟨#[97, 98]⟩] _ (Cel.of_blk S10) Try.underlying30 rfl sz ?_) | (refine wpList_store_at rfl 30 _ _ rfl r 0 #[.int .i64 0, .int .i64 0, .bool false, .int .u32 0, .string ⟨#[97, 98]⟩] rfl rfl #[.int .i64 0, .int .i64 0, .bool false, .int .u32 0, .string ⟨#[]⟩] (Cel.of_blk R10) sz sz0 (by kernel_rfl) ?_))
  have K := (Cel.of_blk R10).setCells_same (#[.int .i64 0, .int .i64 0, .bool false, .int .u32 0, .string ⟨#[97, 98]⟩] : Array Value).toList rfl
  have bel11 := below_setCells bel10 hbr 0 (#[.int .i64 0, .int .i64 0, .bool false, .int .u32 0, .string ⟨#[97, 98]⟩] : Array Value).toList
  have q11 : Pa b0 g m #[] c 0 (w10.setCells r 0 (#[.int .i64 0, .int .i64 0, .bool false, .int .u32 0, .string ⟨#[97, 98]⟩] : Array Value).toList) := ⟨blk_setCells q10.B (by omega) 0 _, mapb_setCells q10.M (by omega) 0 _, q10.hg, q10.hm, q10.ne⟩
  exact bodyPost_ret (v := .agg #[.int .i64 0, .int .i64 0, .bool false, .int .u32 0, .string ⟨#[97, 98]⟩]) (results_cell_at rfl _ _ r 0 #[.int .i64 0, .int .i64 0, .bool false, .int .u32 0, .string ⟨#[97, 98]⟩] _ rfl (K.congr (by simp)) Try.underlying30 rfl sz) rfl ⟨rfl, q11, bel11, blk_setCells V10 (by omega) 0 _⟩
end Go.Proofs.Ythddacgdmngfhaa.rea
