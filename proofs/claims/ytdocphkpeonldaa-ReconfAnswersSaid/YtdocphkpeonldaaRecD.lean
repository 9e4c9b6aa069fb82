/- Layer 28: a request is sent, and read. -/
import Derived.Test.YtdocphkpeonldaaRecC
namespace Go.Proofs.Ytdocphkpeonldaa.rec_
open Go.ChangeShapes Go.WideShapes Go.ChangeAt Go.RowKit kit oct
set_option maxRecDepth 100000

/-- What lay there before lies there still, but for one block. -/
structure Keep (n g : Nat) (w w' : World) : Prop where
  block : ∀ k, k < n → k ≠ g → w'.heap[k]? = w.heap[k]?
section
variable {n g : Nat} {w w1 w2 : World}
theorem Keep.refl (n g : Nat) (w : World) : Keep n g w w := ⟨fun _ _ _ => rfl⟩
theorem Keep.below {B : Nat} (h : Keep n g w w1) (hb : Below B w1 w2) (hB : n ≤ B) : Keep n g w w2 := ⟨fun k hk hg => (hb.block k (by omega)).trans (h.block k hk hg)⟩
theorem Keep.alloc (h : Keep n g w w1) (hn : n ≤ w1.heap.size) (o : Obj) : Keep n g w (w1.alloc o) := h.below ((Below.refl _ _).alloc (Nat.le_refl _) o) hn
theorem Keep.drew (h : Keep n g w w1) : Keep n g w w1.drew := ⟨h.block⟩
theorem Keep.setG (h : Keep n g w w1) (o : Nat) (v : Value) : Keep n g w (w1.setCell ⟨g, o, none⟩ v) := ⟨fun k hk hg => (Below.heap_setCell w1 ⟨g, o, none⟩ v k hg).trans (h.block k hk hg)⟩
theorem Keep.setR (h : Keep n g w w1) {r : Nat} (hr : n ≤ r) (o : Nat) (vs : List Value) : Keep n g w (w1.setCells r o vs) := h.below (below_setCells (Below.refl r w1) (Nat.le_refl _) o vs) hr
theorem Keep.setGs (h : Keep n g w w1) : ∀ (o : Nat) (vs : List Value), Keep n g w (w1.setCells g o vs) := by
  intro o vs
  induction vs generalizing o w1 with
  | nil => exact h
  | cons v vs ih => exact ih (h.setG o v) (o + 1)
theorem Keep.blk {k : Nat} {t : TypeId} {cs : Array Value} (h : Keep n g w w1) (B : Blk w k t cs) (hk : k < n) (hg : k ≠ g) : Blk w1 k t cs := (h.block k hk hg).trans B
end
set_option maxHeartbeats 4000000 in
theorem send_one (b0 g : Nat) (w : World) (B : Blk w g 149 (st 5 9 3 0 0)) (hg : b0 ≤ g) :
    Calls Try.prog 24 #[.pointer (some ⟨g, 0, none⟩), .int .i64 1] w fun e w' => ∃ h, e = .returned (.tuple #[.agg (cc 130 5 h), .bool true]) ∧ w.heap.size ≤ h ∧ Blk w' h 23 #[.int .i64 17, .string (mS 5 3)] ∧ Blk w' g 149 (st 5 9 3 1 1) ∧ Keep w.heap.size g w w' ∧ Below b0 w w' := by
  have hgw := B.lt
  have B1 := B.alloc (.cells c0 43)
  have R1 := Blk.new w 43 c0
  have k1 := (Keep.refl w.heap.size g w).alloc (Nat.le_refl _) (.cells c0 43)
  have bel1 := (Below.refl b0 w).alloc (by omega) (.cells c0 43)
  go_enter Try.func24, Try.ntmps24
  go_upto_region 1 with (fail)
  rw [show w.alloc (.cells #[.int .i64 0, .int .i64 0, .int .u32 0, .int .i64 0, .int .i64 0, .int .u32 0, .string ⟨#[]⟩, .int .u32 0, .int .u32 0, .int .i64 0, .int .i64 0, .slice none 0 0, .slice none 0 0, .slice none 0 0, .slice none 0 0] 43) = w.alloc (.cells c0 43) from rfl]
  generalize w.alloc (.cells c0 43) = w1 at *
  generalize hr : w.heap.size = r at *
  go_wp2_with fail
  refine (want_of g 5 9 3 0 0 _ B1).mono ?_
  rintro e w2 ⟨rfl, rfl⟩
  have d3 : w2.cell? ⟨g, 3, none⟩ = some (.int .i64 0) := B1.cell 3
  have d3f : w2.frozen? ⟨g, 3, none⟩ = false := B1.frozen 3
  have d4 : w2.cell? ⟨g, 4, none⟩ = some (.int .i64 0) := B1.cell 4
  have d4f : w2.frozen? ⟨g, 4, none⟩ = false := B1.frozen 4
  go_upto_region 5 with (fail)
  have B3 : Blk ((w2.setCell ⟨g, 3, none⟩ (.int .i64 1)).setCell ⟨g, 4, none⟩ (.int .i64 1)) g 149 (st 5 9 3 1 1) := (B1.set_ 3 (.int .i64 1)).set_ 4 (.int .i64 1)
  have R3 := (R1.far (p := ⟨g, 3, none⟩) (show r ≠ g by omega) (.int .i64 1)).far (p := ⟨g, 4, none⟩) (show r ≠ g by omega) (.int .i64 1)
  have k3 := (k1.setG 3 (.int .i64 1)).setG 4 (.int .i64 1)
  have bel3 := (bel1.setCell (p := ⟨g, 3, none⟩) hg (.int .i64 1)).setCell (p := ⟨g, 4, none⟩) hg (.int .i64 1)
  clear B B1 R1 k1 bel1 d3 d3f d4 d4f
  generalize (w2.setCell ⟨g, 3, none⟩ (.int .i64 1)).setCell ⟨g, 4, none⟩ (.int .i64 1) = w3 at *
  have hrl := R3.lt
  have hgl := B3.lt
  have d0 : w3.cell? ⟨g, 0, none⟩ = some (.int .u32 5) := B3.cell 0
  have d2 : w3.cell? ⟨g, 2, none⟩ = some (.int .i64 3) := B3.cell 2
  have hM : ∀ w, Calls Try.prog 16 #[.int .u32 5, .int .i64 3] w fun e w' => e = .returned (.agg #[.int .i64 17, .string (mS 5 3)]) ∧ Below w.heap.size w w' := fun w => more_any 5 3 (by omega) (by omega) w
  have hC := fun w => chunkOf_any 5 17 (mS 5 3) w
  go_region_law
    ((first | (refine step_call (by rfl) 16 Try.f16 _ _ (by rfl) Try.func16 (by kernel_rfl) (by kernel_rfl) #[.int .u32 5, .int .i64 3] (by simp [Act.eval, Act.put]) (hM _) ?_; intro w6 hb6; have B6 := B3.drew.below hb6 hgl; have R6 := R3.drew.below hb6 hrl; have k6 := k3.drew.below hb6 (show r ≤ w3.heap.size by omega); have bel6 := bel3.drew.trans (hb6.mono (show b0 ≤ w3.heap.size by omega)); have e0 : w6.cell? ⟨g, 0, none⟩ = some (.int .u32 5) := B6.cell 0; have hgl6 := B6.lt; have hrl6 := R6.lt)
            | (refine step_call2 (by rfl) 81 Try.f81 _ _ (by rfl) Try.func81 (by kernel_rfl) (by kernel_rfl) #[.int .u32 5, .agg #[.int .i64 17, .string (mS 5 3)]] (by simp [Act.eval, Act.put]) (hC _) ?_; rintro e w7 ⟨rfl, P7, hb7⟩; refine ⟨.agg #[.int .i64 130, .int .i64 0, .int .u32 5, .int .i64 0, .int .i64 0, .int .u32 0, .string ⟨#[]⟩, .int .u32 0, .int .u32 0, .int .i64 0, .int .i64 0, .slice (some ⟨w6.heap.size + 2, 0, none⟩) 1 1, .slice none 0 0, .slice none 0 0, .slice none 0 0], rfl, ?_⟩; have B7 := B6.below hb7 hgl6; have R7 := R6.below hb7 hrl6; have k7 := k6.below hb7 (show r ≤ w6.heap.size by omega); have bel7 := bel6.trans (hb7.mono (show b0 ≤ w6.heap.size by omega)); have S7 : Blk w7 r 43 #[.int .i64 0, .int .i64 0, .int .u32 0, .int .i64 0, .int .i64 0, .int .u32 0, .string ⟨#[]⟩, .int .u32 0, .int .u32 0, .int .i64 0, .int .i64 0, .slice none 0 0, .slice none 0 0, .slice none 0 0, .slice none 0 0] := R7; have C7 := fun i => S7.cell i; have F7 := fun i => S7.frozen i)))
  all_goals
    clear C7 F7 S7
    have Z := (Cel.of_blk R7).setCells_same (cc 130 5 (w6.heap.size + 2)).toList rfl
    have P8 := blk_setCells P7 (show w6.heap.size + 2 ≠ r by omega) 0 (cc 130 5 (w6.heap.size + 2)).toList
    have B8 := blk_setCells B7 (show g ≠ r by omega) 0 (cc 130 5 (w6.heap.size + 2)).toList
    have k8 := k7.setR (Nat.le_refl r) 0 (cc 130 5 (w6.heap.size + 2)).toList
    have bel8 := below_setCells bel7 (show b0 ≤ r by omega) 0 (cc 130 5 (w6.heap.size + 2)).toList
    go_wp2_with fail
    exact bodyPost_ret (v := .tuple #[.agg #[.int .i64 130, .int .i64 0, .int .u32 5, .int .i64 0, .int .i64 0, .int .u32 0, .string ⟨#[]⟩, .int .u32 0, .int .u32 0, .int .i64 0, .int .i64 0, .slice (some ⟨w6.heap.size + 2, 0, none⟩) 1 1, .slice none 0 0, .slice none 0 0, .slice none 0 0], .bool true]) ((results_cell_tmp_at rfl _ _ r 0 #[.int .i64 130, .int .i64 0, .int .u32 5, .int .i64 0, .int .i64 0, .int .u32 0, .string ⟨#[]⟩, .int .u32 0, .int .u32 0, .int .i64 0, .int .i64 0, .slice (some ⟨w6.heap.size + 2, 0, none⟩) 1 1, .slice none 0 0, .slice none 0 0, .slice none 0 0] _ rfl (Z.congr rfl) Try.underlying43 rfl (szC 130 5 (w6.heap.size + 2))).trans rfl) rfl ⟨w6.heap.size + 2, rfl, by omega, P8, B8, by rw [hr]; exact k8, bel8⟩
end Go.Proofs.Ytdocphkpeonldaa.rec_
