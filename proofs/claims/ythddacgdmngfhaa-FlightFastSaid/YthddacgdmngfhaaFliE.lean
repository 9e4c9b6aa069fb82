/- Layer 21: a chunk added to a fresh flight. -/
import Derived.Test.YthddacgdmngfhaaFliD
import Derived.Test.YthddacgdmngfhaaKitD
namespace Go.Proofs.Ythddacgdmngfhaa.fli
open Go.Sort (grow)
open Go.ChangeShapes Go.WideShapes Go.ChangeAt Go.RowKit kit
set_option maxRecDepth 100000

/-- A struct loaded out of any place, as one step of a region that draws its order. -/
theorem step_load_at {P : Program} {ops : Array Oper} {o : Oper} {a : Act} {w : World} {K : Act → World → Prop} {Q : Exit → Act → World → Prop} {E : Prop}
    (hg : o.guard = none) (ty : TypeId) (x : Operand) (ho : o.op = .load ty x) (h off : Nat) (hx : a.eval x = .pointer (some ⟨h, off, none⟩)) (cs : Array Value) (d : TypeDesc) (C : Cel w h off cs)
    (hu : P.underlying ty = some d) (hd : (match d with | .struct _ | .array _ _ => true | _ => false) = true) (hi : (P.info? ty).map (·.size) = some cs.size) (k : K (a.put o.dst (.agg cs)) w) :
    if Region.wanted o (yielded ops a.tmps) = true then Oper.wp P o a w K Q else E := by
  have hw : Region.wanted o (yielded ops a.tmps) = true := by simp [Region.wanted, hg]
  rw [if_pos hw]
  unfold Oper.wp execOp
  simp only [ho, hx, Instr.loadAt, Instr.sureAddr, Sem.run_bind, Sem.run_pure, Result.andThen_ok, run_loadVar_at ty d C hu hd hi]
  exact k
def zS : Array Value := #[.int .i64 0, .int .i64 0, .int .u32 0, .int .i64 0, .int .i64 0, .int .u32 0, .string ByteArray.empty, .int .u32 0, .int .u32 0, .int .i64 0, .int .i64 0, .slice none 0 0, .slice none 0 0, .slice none 0 0, .slice none 0 0, .int .i64 0, .int .i64 0, .int .i64 0, .int .i64 0, .bool false, .bool false, .bool false]
theorem infoZ : (Try.prog.info? 231).map (fun i => (i.zero, i.size, i.bytes)) = some (some (.agg zS), 22, 224) := infoS
/-- A flight that holds the first chunk. -/
structure Fl (b0 g h cap : Nat) (w : World) : Prop where
  B : Blk w g 229 #[.int .u32 4, .slice (some ⟨h, 0, none⟩) 1 cap]
  ne : h ≠ g
  hg : b0 ≤ g
  hh : b0 ≤ h
  c1 : 1 ≤ cap
  c2 : cap ≤ maxLen
  C : Cel w h 0 se
set_option maxHeartbeats 4000000 in
theorem add_one (b0 g : Nat) (w : World) (B : Blk w g 229 #[.int .u32 4, .slice none 0 0]) (hg : b0 ≤ g) : Calls Try.prog 75 #[.pointer (some ⟨g, 0, none⟩), .agg (ch 0 0 ⟨#[120]⟩), .int .i64 0, .int .i64 3] w fun e w' => e = .returned (.agg (ch 0 5 ⟨#[120]⟩)) ∧ (∃ h cap, Fl b0 g h cap w') ∧ Below b0 w w' := by
  have hgw := B.lt
  have X1 := (Blk.new w 40 (ch 0 0 ⟨#[120]⟩)).alloc (.cells (ch 0 0 ⟨#[]⟩) 40)
  have R1 := blk_new2 w (.cells (ch 0 0 ⟨#[120]⟩) 40) 40 (ch 0 0 ⟨#[]⟩)
  have B1 := (B.alloc (.cells (ch 0 0 ⟨#[120]⟩) 40)).alloc (.cells (ch 0 0 ⟨#[]⟩) 40)
  have bel1 := ((Below.refl b0 w).alloc (by omega) (.cells (ch 0 0 ⟨#[120]⟩) 40)).alloc (by simp; omega) (.cells (ch 0 0 ⟨#[]⟩) 40)
  go_enter Try.func75, Try.ntmps75
  go_upto_region 3 with (fail)
  rw [show (w.alloc (.cells (ch 0 0 ⟨#[120]⟩) 40)).alloc (.cells #[.int .i64 0, .int .i64 0, .int .u32 0, .int .i64 0, .int .i64 0, .int .u32 0, .string ⟨#[]⟩, .int .u32 0, .int .u32 0, .int .i64 0, .int .i64 0, .slice none 0 0, .slice none 0 0, .slice none 0 0, .slice none 0 0] 40) = (w.alloc (.cells (ch 0 0 ⟨#[120]⟩) 40)).alloc (.cells (ch 0 0 ⟨#[]⟩) 40) from rfl]
  clear B
  generalize (w.alloc (.cells (ch 0 0 ⟨#[120]⟩) 40)).alloc (.cells (ch 0 0 ⟨#[]⟩) 40) = w1 at *
  generalize hr : w.heap.size + 1 = r at *
  generalize hc : w.heap.size = c at *
  have hb0c : b0 ≤ c := by omega
  have hb0r : b0 ≤ r := by omega
  have hgc : g ≠ c := by omega
  have hgr : g ≠ r := by omega
  have hcr : r ≠ c := by omega
  go_wp2_with (refine wpList_load_at rfl 40 _ rfl c 0 rfl (ch 0 0 ⟨#[120]⟩) _ (Cel.of_blk X1) Try.underlying40 rfl (szC _ _ _) ?_)
  refine (clone_any 0 0 ⟨#[120]⟩ _).mono ?_
  rintro e w2 ⟨rfl, hb2⟩
  have X2 := X1.below hb2 X1.lt
  have R2 := R1.below hb2 R1.lt
  have B2 := B1.below hb2 B1.lt
  have bel2 := bel1.trans (hb2.mono (by have := B1.lt; omega))
  clear X1 R1 B1 bel1 hb2
  have szA := szC 0 0 ⟨#[120]⟩
  have C3 := (Cel.of_blk X2).setCells_same (ch 0 0 ⟨#[120]⟩).toList rfl
  have R3 := blk_setCells R2 hcr 0 (ch 0 0 ⟨#[120]⟩).toList
  have B3 := blk_setCells B2 hgc 0 (ch 0 0 ⟨#[120]⟩).toList
  have bel3 := below_setCells bel2 hb0c 0 (ch 0 0 ⟨#[120]⟩).toList
  go_upto_region 4 with (refine wpList_store_at rfl 40 _ _ rfl c 0 (ch 0 0 ⟨#[120]⟩) rfl rfl (ch 0 0 ⟨#[120]⟩) (Cel.of_blk X2) (szC _ _ _) rfl (ch_one _ _ _) ?_)
  clear X2 R2 B2 bel2
  generalize w2.setCells c 0 (ch 0 0 ⟨#[120]⟩).toList = w3 at *
  have C3 : Cel w3 c 0 (ch 0 0 ⟨#[120]⟩) := C3.congr rfl
  go_wp2_with fail
  refine (next_one g _ B3).mono ?_
  rintro e w4 ⟨rfl, hb4⟩
  have C4 := C3.below hb4 C3.lt
  have R4 := R3.below hb4 R3.lt
  have B4 := B3.below hb4 B3.lt
  have bel4 := bel3.trans (hb4.mono (by have := B3.lt; omega))
  clear C3 R3 B3 bel3 hb4
  have x2 : w4.cell? ⟨c, 2, none⟩ = some (.int .u32 0) := C4.cell0 2 rfl
  have x2f : w4.frozen? ⟨c, 2, none⟩ = false := C4.frozen0 2 (by decide)
  go_upto_region 5 with (fail)
  have C5 : Cel (w4.setCell ⟨c, 2, none⟩ (.int .u32 5)) c 0 (ch 0 5 ⟨#[120]⟩) := (C4.set_ 2 (.int .u32 5)).congr rfl
  have R5 := R4.far (p := ⟨c, 2, none⟩) hcr (.int .u32 5)
  have B5 := B4.far (p := ⟨c, 2, none⟩) hgc (.int .u32 5)
  have bel5 := bel4.setCell (p := ⟨c, 2, none⟩) hb0c (.int .u32 5)
  clear C4 R4 B4 bel4 x2 x2f
  generalize w4.setCell ⟨c, 2, none⟩ (.int .u32 5) = w5 at *
  have y0 : w5.cell? ⟨c, 0, none⟩ = some (.int .i64 0) := C5.cell0 0 rfl
  have y1 : w5.cell? ⟨c, 1, none⟩ = some (.int .i64 0) := C5.cell0 1 rfl
  have y2 : w5.cell? ⟨c, 2, none⟩ = some (.int .u32 5) := C5.cell0 2 rfl
  have y3 : w5.cell? ⟨c, 3, none⟩ = some (.int .i64 0) := C5.cell0 3 rfl
  have y4 : w5.cell? ⟨c, 4, none⟩ = some (.int .i64 0) := C5.cell0 4 rfl
  have y5 : w5.cell? ⟨c, 5, none⟩ = some (.int .u32 0) := C5.cell0 5 rfl
  have y6 : w5.cell? ⟨c, 6, none⟩ = some (.string ⟨#[120]⟩) := C5.cell0 6 rfl
  have y7 : w5.cell? ⟨c, 7, none⟩ = some (.int .u32 0) := C5.cell0 7 rfl
  have y8 : w5.cell? ⟨c, 8, none⟩ = some (.int .u32 0) := C5.cell0 8 rfl
  have y9 : w5.cell? ⟨c, 9, none⟩ = some (.int .i64 0) := C5.cell0 9 rfl
  have y10 : w5.cell? ⟨c, 10, none⟩ = some (.int .i64 0) := C5.cell0 10 rfl
  have y11 : w5.cell? ⟨c, 11, none⟩ = some (.slice none 0 0) := C5.cell0 11 rfl
  have y12 : w5.cell? ⟨c, 12, none⟩ = some (.slice none 0 0) := C5.cell0 12 rfl
  have y13 : w5.cell? ⟨c, 13, none⟩ = some (.slice none 0 0) := C5.cell0 13 rfl
  have y14 : w5.cell? ⟨c, 14, none⟩ = some (.slice none 0 0) := C5.cell0 14 rfl
  have hgl := B5.lt
  have hcl := C5.lt
  obtain ⟨i0, hi, hz0, hz1, hz2⟩ := info_parts infoZ
  have g1 : w5.cell? ⟨g, 1, none⟩ = some (.slice none 0 0) := B5.cell 1
  have g2 : ∀ o, (w5.alloc o).cell? ⟨g, 1, none⟩ = some (.slice none 0 0) := fun o => (B5.alloc o).cell 1
  go_region_law ((refine step_append_lies _ (by rfl) _ _ _ (by rfl) b0 231 i0 (.agg zS) 22 224 Try.underlying227 hi hz0 hz1 hz2 (by rfl) (by decide) (.slice none 0 0) 0 [] (by rfl) (World.ownsRow_nil _ _ _ _) ⟨w5.heap.size, 0, none⟩ 1 1 se.toList (by rfl) (by rfl) (World.news_of_block (cs := se) (heap_alloc_new _ _)) se_one (by omega) (by unfold maxLen; omega) (by omega) (by simp; omega) (w5.heap.size + 1) (by simp) ?_; intro h cap w8 hown8 hgrow hat hlt; have B8 : Blk w8 g 229 #[.int .u32 4, .slice none 0 0] := (hgrow.block g (by simp; omega) (by simp [Value.ownBlock])).trans (B5.alloc _); have g8 := B8.cell 1; have f8 := B8.frozen 1))
  all_goals
    have hh : h = w5.heap.size + 1 := hat.resolve_left (by simp [Value.ownBlock])
    have hcap : 1 ≤ cap ∧ cap ≤ maxLen := by
      rcases hown8.2 with ⟨q, _⟩ | ⟨g', cap', cur, q, _, _, q1, q2, _⟩
      · simp at q
      · simp at q
        obtain ⟨rfl, rfl⟩ := q
        exact ⟨by omega, q2⟩
    have K8 : Cel w8 h 0 se := (Cel.of_owns hown8).congr (by simp)
    have C8 : Cel w8 c 0 (ch 0 5 ⟨#[120]⟩) := ((C5.alloc (.cells se 231)).drew).block (hgrow.block c (by simp; omega) (by simp [Value.ownBlock])) (Nat.lt_of_lt_of_le (show c < w5.heap.size + 1 by omega) (by have := hgrow.size; simpa using this))
    have R8 : Blk w8 r 40 (ch 0 0 ⟨#[]⟩) := (hgrow.block r (by have := R5.lt; simp; omega) (by simp [Value.ownBlock])).trans (R5.alloc _)
    have bel8 : Below b0 w w8 := ((bel5.alloc (by omega) (.cells se 231)).drew).grown hgrow (by simp; omega) (fun k hk => by simp [Value.ownBlock] at hk)
    have hne : h ≠ g := by omega
    have hhr : h ≠ r := by have := R5.lt; omega
    have hhc : h ≠ c := by omega
    have hb0h : b0 ≤ h := by omega
    have B9 : Blk (w8.setCell ⟨g, 1, none⟩ (.slice (some ⟨h, 0, none⟩) 1 cap)) g 229 #[.int .u32 4, .slice (some ⟨h, 0, none⟩) 1 cap] := B8.set_ 1 _
    have K9 := K8.far (p := ⟨g, 1, none⟩) hne (.slice (some ⟨h, 0, none⟩) 1 cap)
    have C9 := C8.far (p := ⟨g, 1, none⟩) (Ne.symm hgc) (.slice (some ⟨h, 0, none⟩) 1 cap)
    have R9 := R8.far (p := ⟨g, 1, none⟩) (Ne.symm hgr) (.slice (some ⟨h, 0, none⟩) 1 cap)
    have bel9 := bel8.setCell (p := ⟨g, 1, none⟩) hg (.slice (some ⟨h, 0, none⟩) 1 cap)
    clear hown8 hgrow hat hlt B8 g8 f8 K8 C8 R8 bel8 hh
    clear B5 C5 R5 bel5 g1 g2 y0 y1 y2 y3 y4 y5 y6 y7 y8 y9 y10 y11 y12 y13 y14 hgl hcl hi hz0 hz1 hz2
    generalize w8.setCell ⟨g, 1, none⟩ (.slice (some ⟨h, 0, none⟩) 1 cap) = w9 at *
    have szB := szC 0 5 ⟨#[120]⟩
    go_wp2_with (refine wpList_load_at rfl 40 _ rfl c 0 rfl (ch 0 5 ⟨#[120]⟩) _ C9 Try.underlying40 rfl szB ?_)
    refine (clone_any 0 5 ⟨#[120]⟩ _).mono ?_
    rintro e w10 ⟨rfl, hb10⟩
    have K10 := K9.below hb10 K9.lt
    have R10 := R9.below hb10 R9.lt
    have B10 := B9.below hb10 B9.lt
    have bel10 := bel9.trans (hb10.mono (by have := B9.lt; omega))
    clear K9 R9 B9 bel9 hb10 C9
    have Z10 := (Cel.of_blk R10).setCells_same (ch 0 5 ⟨#[120]⟩).toList rfl
    have K11 := K10.setCells_far hhr 0 (ch 0 5 ⟨#[120]⟩).toList
    have B11 := blk_setCells B10 hgr 0 (ch 0 5 ⟨#[120]⟩).toList
    have bel11 := below_setCells bel10 hb0r 0 (ch 0 5 ⟨#[120]⟩).toList
    go_wp2_with (refine wpList_store_at rfl 40 _ _ rfl r 0 (ch 0 5 ⟨#[120]⟩) rfl rfl (ch 0 0 ⟨#[]⟩) (Cel.of_blk R10) szB rfl (ch_one _ _ _) ?_)
    exact bodyPost_ret (v := .agg (ch 0 5 ⟨#[120]⟩)) (results_cell_at rfl _ _ r 0 (ch 0 5 ⟨#[120]⟩) _ rfl (Z10.congr rfl) Try.underlying40 rfl szB) rfl ⟨rfl, ⟨h, cap, B11, hne, hg, hb0h, hcap.1, hcap.2, K11⟩, bel11⟩
end Go.Proofs.Ythddacgdmngfhaa.fli
