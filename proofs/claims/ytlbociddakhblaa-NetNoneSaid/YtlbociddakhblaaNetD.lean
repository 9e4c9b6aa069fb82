/- Layer 31: one packet taken; the statement walked. -/
import Derived.Test.YtlbociddakhblaaNetC
namespace Go.Proofs.Ytlbociddakhblaa.net
open Go.ChangeShapes Go.WideShapes Go.ChangeAt Go.RowKit kit
set_option maxRecDepth 100000

theorem blk_setCells {w : World} {g h : Nat} {t : TypeId} {cs : Array Value} (B : Blk w g t cs) (hne : g ≠ h) : ∀ (o : Nat) (vs : List Value), Blk (w.setCells h o vs) g t cs := by
  intro o vs
  induction vs generalizing o w with
  | nil => exact B
  | cons v vs ih => exact ih (B.far (p := ⟨h, o, none⟩) hne v) (o + 1)
abbrev item1 : Array Value := item 0 0 1 0 ⟨#[]⟩ false
theorem szI : (Try.prog.info? 27).map (·.size) = some item1.size := by kernel_rfl
theorem oneI : item1.all (·.oneCell') = true := by kernel_rfl
theorem blk_setRow {w : World} {g h : Nat} {t : TypeId} {cs : Array Value} (B : Blk w g t cs) (hne : g ≠ h) (xs : Array Value) : Blk (w.setRow h xs) g t cs := by
  unfold Blk at *
  unfold World.setRow
  simp [Array.getElem?_modify, Ne.symm hne, B]
theorem below_setRow {B g : Nat} {a w : World} (h : Below B a w) (hg : B ≤ g) (cs : Array Value) : Below B a (w.setRow g cs) := by
  refine ⟨h.os, h.tape, h.output, by simpa using h.size, fun k hk => ?_⟩
  rw [setRow_other w g k cs (by omega)]
  exact h.block k hk
/-- A net with nothing left. -/
def EmptyAt (g : Nat) (w : World) : Prop := ∃ h cap, Blk w g 119 #[.slice (some ⟨h, 0, none⟩) 0 cap, .int .i64 0]
set_option maxHeartbeats 1000000 in
theorem take_first (g : Nat) (w : World) (O : OneAt g w) : Calls Try.prog 15 #[.pointer (some ⟨g, 0, none⟩), .int .i64 0] w fun e w' => e = .returned (.tuple #[.agg item1, .bool true]) ∧ EmptyAt g w' ∧ Below g w w' := by
  obtain ⟨h, cap, B, hne, hlt, hc1, hc2, hI⟩ := O
  have hg := B.lt
  go_enter Try.func15, Try.ntmps15
  go_wp2_with fail
  refine (has_one g h cap _ (B.alloc _)).mono ?_
  rintro e w1 ⟨rfl, rfl⟩
  have B1 := B.alloc (.cells (item 0 0 0 0 ⟨#[]⟩ false) 27)
  have R1 := Blk.new w 27 (item 0 0 0 0 ⟨#[]⟩ false)
  have be := (Below.refl w.heap.size w).alloc (Nat.le_refl _) (.cells (item 0 0 0 0 ⟨#[]⟩ false) 27)
  have hI1 : ∀ j u, (item 0 0 1 0 ⟨#[]⟩ false)[j]? = some u → (w.alloc (.cells (item 0 0 0 0 ⟨#[]⟩ false) 27)).cell? ⟨h, j, none⟩ = some u ∧ (w.alloc (.cells (item 0 0 0 0 ⟨#[]⟩ false) 27)).frozen? ⟨h, j, none⟩ = false := fun j u hu => ⟨(be.cell (p := ⟨h, j, none⟩) hlt).trans (hI j u hu).1, (be.frozen (p := ⟨h, j, none⟩) hlt).trans (hI j u hu).2⟩
  have hlt1 : h < (w.alloc (.cells (item 0 0 0 0 ⟨#[]⟩ false) 27)).heap.size := Nat.lt_of_lt_of_le hlt be.size
  have hs1 : (w.alloc (.cells (item 0 0 0 0 ⟨#[]⟩ false) 27)).heap.size = w.heap.size + 1 := by simp
  clear hI
  generalize w.alloc (.cells (item 0 0 0 0 ⟨#[]⟩ false) 27) = w1 at *
  have c0 : w1.cell? ⟨g, 0, none⟩ = some (.slice (some ⟨h, 0, none⟩) 1 cap) := B1.cell 0
  have i0 := (hI1 0 _ rfl).1
  have i1 := (hI1 1 _ rfl).1
  have i2 := (hI1 2 _ rfl).1
  have i3 := (hI1 3 _ rfl).1
  have i4 := (hI1 4 _ rfl).1
  have i5 := (hI1 5 _ rfl).1
  have HI := Lib.hid hI1
  have HS := Lib.hid hs1
  clear hI1 hs1
  go_upto_region 4 with (fail)
  clear i0 i1 i2 i3 i4 i5
  have B2 := B1.alloc (.cells item1 27)
  have R2 := R1.alloc (.cells item1 27)
  have X2 := Blk.new w1 27 item1
  have be2 := be.alloc be.size (.cells item1 27)
  have bx := (Below.refl w1.heap.size w1).alloc (Nat.le_refl _) (.cells item1 27)
  have hI2 : ∀ j u, (item 0 0 1 0 ⟨#[]⟩ false)[j]? = some u → (w1.alloc (.cells item1 27)).cell? ⟨h, j, none⟩ = some u ∧ (w1.alloc (.cells item1 27)).frozen? ⟨h, j, none⟩ = false := fun j u hu => ⟨(bx.cell (p := ⟨h, j, none⟩) hlt1).trans (HI.out j u hu).1, (bx.frozen (p := ⟨h, j, none⟩) hlt1).trans (HI.out j u hu).2⟩
  have hlt2 : h < (w1.alloc (.cells item1 27)).heap.size := Nat.lt_of_lt_of_le hlt1 bx.size
  have hD := delete_one h cap _ hlt2 hc1 hc2 hI2
  have hx : w1.heap.size ≠ h := Nat.ne_of_gt hlt1
  have hr : w.heap.size ≠ h := Nat.ne_of_gt hlt
  clear hI2 HI c0
  generalize w1.alloc (.cells item1 27) = w2 at *
  have c0 : w2.cell? ⟨g, 0, none⟩ = some (.slice (some ⟨h, 0, none⟩) 1 cap) := B2.cell 0
  go_wp2_with fail
  refine hD.mono ?_
  rintro e w3 ⟨rfl, hw3⟩
  have B3 : Blk w3 g 119 #[.slice (some ⟨h, 0, none⟩) 1 cap, .int .i64 0] := by rw [hw3]; exact blk_setCells B2.drew (Nat.ne_of_lt hne) _ _
  have R3 : Blk w3 w.heap.size 27 item0 := by rw [hw3]; exact blk_setCells R2.drew hr _ _
  have X3 : Blk w3 w1.heap.size 27 item1 := by rw [hw3]; exact blk_setCells X2.drew hx _ _
  have be3 : Below g w w3 := by rw [hw3]; exact below_setCells ((be2.mono (Nat.le_of_lt hg)).drew) (Nat.le_of_lt hne) _ _
  clear hw3 hD c0 B2 R2 X2 be2 bx
  have C := fun i => B3.cell i
  have F := fun i => B3.frozen i
  have gl := B3.lt
  have X4 := X3.far (p := ⟨g, 0, none⟩) (by have := HS.out; show w1.heap.size ≠ g; omega) (.slice (some ⟨h, 0, none⟩) 0 cap)
  have R4 := R3.far (p := ⟨g, 0, none⟩) (by show w.heap.size ≠ g; omega) (.slice (some ⟨h, 0, none⟩) 0 cap)
  have B4 := B3.set_ 0 (.slice (some ⟨h, 0, none⟩) 0 cap)
  have be4 := be3.setCell (p := ⟨g, 0, none⟩) (Nat.le_refl _) (.slice (some ⟨h, 0, none⟩) 0 cap)
  clear X3 R3 be3
  go_upto_region 5 with (fail)
  generalize w3.setCell ⟨g, 0, none⟩ (.slice (some ⟨h, 0, none⟩) 0 cap) = w4 at *
  rw [show (#[Value.slice (some ⟨h, 0, none⟩) 1 cap, Value.int .i64 0].setIfInBounds 0 (.slice (some ⟨h, 0, none⟩) 0 cap)) = #[Value.slice (some ⟨h, 0, none⟩) 0 cap, Value.int .i64 0] from rfl] at B4
  have hd1 : g ≠ w.heap.size := Nat.ne_of_lt hg
  clear C F gl B3
  go_wp2_with (first | (refine wpList_load_row rfl 27 _ rfl _ rfl _ _ _ _ X4 Try.underlying27 rfl szI ?_) | (refine wpList_store_row rfl 27 _ _ rfl _ _ rfl rfl _ _ R4 szI rfl oneI ?_))
  refine bodyPost_ret (v := .tuple #[.agg item1, .bool true]) ?_ rfl ⟨rfl, ⟨h, cap, blk_setRow B4 hd1 _⟩, below_setRow be4 (Nat.le_of_lt hg) _⟩
  rw [results_cell_tmp rfl]
  have h := run_loadVar_row (w4.setRow w.heap.size item1) w.heap.size 27 27 item1 (0, 0) _ (setRow_heap _ _ _ _ _ _ R4) Try.underlying27 rfl szI
  simp [asAddr, h]
theorem EmptyAt.alloc {g : Nat} {w : World} (E : EmptyAt g w) (o : Obj) : EmptyAt g (w.alloc o) := by
  obtain ⟨h, cap, B⟩ := E
  exact ⟨h, cap, B.alloc o⟩
theorem len_empty (g : Nat) (w : World) (E : EmptyAt g w) : Calls Try.prog 20 #[.pointer (some ⟨g, 0, none⟩)] w fun e w' => e = .returned (.int .i64 0) ∧ w = w' := by
  obtain ⟨h, cap, B⟩ := E
  exact len_of g h 0 cap w B
theorem awake31_any (w : World) : Calls Try.prog 16 #[] w fun e w' => e = .returned (.bool true) ∧ Below w.heap.size w w' := by
  go_enter Try.func16, Try.ntmps16
  go_wp2_with fail
  refine (new_net _).mono ?_
  rintro e w1 ⟨rfl, hw1⟩
  have B1 : Blk w1 w.heap.size 119 #[.slice none 0 0, .int .i64 0] := by rw [hw1]; exact Blk.new _ _ _
  have bel1 : Below w.heap.size w w1 := by rw [hw1]; exact (Below.refl _ _).alloc (Nat.le_refl _) _
  clear hw1
  go_wp2_with fail
  refine (put_first w.heap.size _ B1).mono ?_
  rintro e w2 ⟨rfl, O, hb2⟩
  have bel2 := bel1.trans hb2
  go_wp2_with fail
  refine (take_first w.heap.size _ O).mono ?_
  rintro e w3 ⟨rfl, E, hb3⟩
  have bel3 := bel2.trans hb3
  go_wp2_with fail
  refine (len_empty w.heap.size _ (E.alloc _)).mono ?_
  rintro e w4 ⟨rfl, hw4⟩
  have bel4 : Below w.heap.size w w4 := by rw [← hw4]; exact bel3.alloc bel3.size _
  clear hw4
  go_wp2_with fail
  go_ret
  exact ⟨rfl, bel4⟩
theorem none_law (a b c d n : Int) (q : ByteArray) (x : Bool) (w : World) :
    Calls Try.prog 3 #[.agg (item a b c d q x), .int .i64 n] w fun e w' => e = .returned (.bool true) ∧ Below w.heap.size w w' := by
  go_enter Try.func3, Try.ntmps3
  have N0 := Blk.new w 27 (item a b c d q x)
  have bel0 := (Below.refl w.heap.size w).alloc (Nat.le_refl _) (.cells (item a b c d q x) 27)
  go_wp2_with fail
  refine (take_nil _ _).mono ?_
  rintro e w1 ⟨rfl, hb1⟩
  have N1 := N0.below hb1 N0.lt
  have bel1 := bel0.trans (hb1.mono bel0.size)
  clear N0 bel0 hb1
  go_wp2_with fail
  refine (awake31_any _).mono ?_
  rintro e w2 ⟨rfl, hb2⟩
  have N2 := (N1.alloc _).below hb2 (N1.alloc _).lt
  have bel2 := (bel1.alloc bel1.size _).trans (hb2.mono (bel1.alloc bel1.size _).size)
  clear N1 bel1 hb2
  have CX := fun i => N2.cell i
  go_wp2_with fail
  refine (put_nil _ _).mono ?_
  rintro e w3 ⟨rfl, hb3⟩
  have bel3 := bel2.trans (hb3.mono bel2.size)
  clear N2 bel2 hb3 CX
  go_wp2_with fail
  refine (double_nil _ _).mono ?_
  rintro e w4 ⟨rfl, rfl⟩
  go_wp2_with fail
  refine (bend_nil _ _ _).mono ?_
  rintro e w4 ⟨rfl, rfl⟩
  go_wp2_with fail
  refine (len_nil _).mono ?_
  rintro e w4 ⟨rfl, rfl⟩
  go_wp2_with fail
  refine (full_nil _).mono ?_
  rintro e w4 ⟨rfl, rfl⟩
  go_wp2_with fail
  refine (all_nil _).mono ?_
  rintro e w4 ⟨rfl, rfl⟩
  go_wp2_with fail
  go_ret
  exact ⟨rfl, bel3⟩
theorem none_open {H : Type} {enc : TypeId × Value → H} {W : World} {base : Nat} {v0 v1 : Value} {d0 d1 : DataW H} {p0 p1 : List MemPlace}
    (o0 : Value.okWide Try.prog W .any base 27 v0) (o1 : Value.okWide Try.prog W .any base 3 v1) (h0 : DataW.Trod enc Try.prog W 0 (fun _ => true) true 27 v0 d0 p0) (h1 : DataW.Trod enc Try.prog W 0 (fun _ => true) true 3 v1 d1 p1) :
    Calls Try.prog 3 #[v0, v1] W fun e w' => e = .returned (.bool true) ∧ Below W.heap.size W w' := by
  obtain ⟨n, rfl, _, _, _⟩ := open_int Try.underlying3 o1 h1
  obtain ⟨l, rfl, hF⟩ := open_struct 4 (sh := [.int .i64, .int .i64, .int .u32, .int .u32, .str, .bool]) Try.underlying27 (by kernel_rfl) (by kernel_rfl) o0 h0
  obtain ⟨a, l1, rfl, _, hF⟩ := hF.int
  obtain ⟨b, l2, rfl, _, hF⟩ := hF.int
  obtain ⟨c, l3, rfl, _, hF⟩ := hF.int
  obtain ⟨d, l4, rfl, _, hF⟩ := hF.int
  obtain ⟨q, l5, rfl, _, hF⟩ := hF.str
  obtain ⟨x, l6, rfl, hG⟩ := hF.bool
  obtain rfl := hG.nil
  exact none_law a b c d n q x W
end Go.Proofs.Ytlbociddakhblaa.net
