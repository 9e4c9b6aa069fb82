/- Layer 18: streams made. -/
import Derived.Test.YthddacgdmngfhaaDelA
import Derived.Deep.DeepMust
namespace Go.Proofs.Ythddacgdmngfhaa.del
open Go.Sort (grow)
open Go.ChangeShapes Go.WideShapes Go.ChangeAt Go.RowKit kit
set_option maxRecDepth 100000

def st (n : Int) (m : Nat) : Array Value := #[.int .u16 n, .map (some m)]
theorem infoS : (Try.prog.info? 202).map (fun i => (i.zero, i.size, i.bytes)) = some (some (.agg #[.int .u16 0, .map none]), 2, 16) := by kernel_rfl
set_option maxHeartbeats 1000000 in
theorem grow_two (g b0 : Nat) (r b : Value) (w : World) (hb : b0 ≤ g) (B : Blk w g 199 #[.slice none 0 0, r, b]) :
    Calls Try.prog 52 #[.pointer (some ⟨g, 0, none⟩), .int .i64 2] w fun e w' => e = .returned (.tuple #[]) ∧ (∃ h cap m k, Blk w' g 199 #[.slice (some ⟨h, 0, none⟩) 2 cap, r, b] ∧ Cel w' h 0 (st 0 m) ∧ Cel w' h 2 (st 0 k) ∧ MapB w' m #[] 0 ∧ MapB w' k #[] 0 ∧ 2 ≤ cap ∧ cap ≤ maxLen ∧ w.heap.size ≤ h ∧ w.heap.size ≤ m ∧ w.heap.size ≤ k) ∧ Below b0 w w' := by
  obtain ⟨i0, hi, hz0, hz1, hz2⟩ := info_parts infoS
  have hmk : ∀ w, (Instr.makeMap 200 none).run Try.prog w = .ok (.map (some w.heap.size)) (w.alloc (.map #[] 0)) := fun w => rfl
  have c0 : w.cell? ⟨g, 0, none⟩ = some (.slice none 0 0) := B.cell 0
  have hg := B.lt
  go_enter Try.func52, Try.ntmps52
  go_wp2
  refine wp_loop_rounds 3 ?_
  have own0 : w.ownsRow b0 202 2 (.slice none 0 0) 0 [] := World.ownsRow_nil _ _ _ _
  obtain ⟨l, hl⟩ : ∃ l, Value.slice none 0 0 = l := ⟨_, rfl⟩
  rw [hl] at own0 B c0
  have HL := Lib.hid hl
  clear hl
  have BB0 := (B.alloc (.map #[] 0)).alloc (.cells (st 0 w.heap.size) 202)
  have V0 := Blk.new (w.alloc (.map #[] 0)) 202 (st 0 w.heap.size)
  have hs0 : (w.alloc (.map #[] 0)).heap.size = w.heap.size + 1 := by simp
  rw [hs0] at V0
  have HN0 := Lib.hid (World.news_of_block V0)
  have HO0 := Lib.hid (own_all own0 (((Below.refl w.heap.size w).alloc (Nat.le_refl _) (.map #[] 0)).alloc (by simp) (.cells (st 0 w.heap.size) 202)))
  have HS0 := Lib.hid (show ((w.alloc (.map #[] 0)).alloc (.cells (st 0 w.heap.size) 202)).heap.size = w.heap.size + 1 + 1 by simp)
  have HB0 := Lib.hid (show b0 ≤ ((w.alloc (.map #[] 0)).alloc (.cells (st 0 w.heap.size) 202)).heap.size by simp; omega)
  clear V0 own0 hs0
  rw [rounds_succ]
  go_wp2_with (at_builtin; refine wpList_append_lies _ rfl _ _ 197 rfl b0 202 i0 (.agg #[.int .u16 0, .map none]) 2 16 Try.underlying197 hi hz0 hz1 hz2 rfl (by decide) l 0 [] rfl HO0.out ⟨w.heap.size + 1, 0, none⟩ 1 1 (st 0 w.heap.size).toList rfl rfl HN0.out (by intro u hu; simp [st] at hu; rcases hu with rfl | rfl <;> rfl) (by omega) (by unfold maxLen; omega) (by omega) HB0.out (w.heap.size + 1 + 1) HS0.out ?_; intro h0 cap0 x0 hown0 hgrow0 hat0 hlt0; have B80 : Blk x0 g 199 #[l, r, b] := (hgrow0.block g BB0.lt (by rw [← HL.out]; simp [Value.ownBlock])).trans BB0; have c80 : x0.cell? ⟨g, 0, none⟩ = some l := B80.cell 0; have f80 : x0.frozen? ⟨g, 0, none⟩ = false := B80.frozen 0)
  have hh0 : h0 = w.heap.size + 1 + 1 := hat0.resolve_left (by rw [← HL.out]; simp [Value.ownBlock])
  have hne0 : h0 ≠ g := by omega
  have MM0 : MapB x0 w.heap.size #[] 0 := ((MapB.new w).alloc (.cells (st 0 w.heap.size) 202)).block (hgrow0.block w.heap.size (by simp; omega) (by rw [← HL.out]; simp [Value.ownBlock]))
  have bel8 : Below b0 w x0 := (((Below.refl b0 w).alloc (by omega) (.map #[] 0)).alloc (by simp; omega) (.cells (st 0 w.heap.size) 202)).grown hgrow0 HB0.out (fun k hk => by rw [← HL.out] at hk; simp [Value.ownBlock] at hk)
  have M9 : MapB (x0.setCell ⟨g, 0, none⟩ (.slice (some ⟨h0, 0, none⟩) 1 cap0)) w.heap.size #[] 0 := MM0.far (by show w.heap.size ≠ g; omega) _
  have B9 : Blk (x0.setCell ⟨g, 0, none⟩ (.slice (some ⟨h0, 0, none⟩) 1 cap0)) g 199 #[.slice (some ⟨h0, 0, none⟩) 1 cap0, r, b] := B80.set_ 0 _
  have own9 : (x0.setCell ⟨g, 0, none⟩ (.slice (some ⟨h0, 0, none⟩) 1 cap0)).ownsRow b0 202 2 (.slice (some ⟨h0, 0, none⟩) 1 cap0) 1 (st 0 w.heap.size).toList := own_other hown0 (fun k hk => Below.heap_setCell _ _ _ _ (by simp [Value.ownBlock] at hk; show k ≠ g; omega))
  have bel9 : Below b0 w (x0.setCell ⟨g, 0, none⟩ (.slice (some ⟨h0, 0, none⟩) 1 cap0)) := bel8.setCell (p := ⟨g, 0, none⟩) hb _
  have hsz9 : w.heap.size + 1 + 1 < (x0.setCell ⟨g, 0, none⟩ (.slice (some ⟨h0, 0, none⟩) 1 cap0)).heap.size := by simp [World.setCell]; omega
  clear MM0 bel8 B80 c80 f80 hown0 hgrow0 hat0 BB0 HN0 HO0 HS0 HB0 hlt0 c0 B
  generalize x0.setCell ⟨g, 0, none⟩ (.slice (some ⟨h0, 0, none⟩) 1 cap0) = w9 at *
  obtain ⟨l9, hl9⟩ : ∃ l, Value.slice (some ⟨h0, 0, none⟩) 1 cap0 = l := ⟨_, rfl⟩
  rw [hl9] at own9 B9
  have HL9 := Lib.hid hl9
  clear hl9 HL
  have c9 : w9.cell? ⟨g, 0, none⟩ = some l9 := B9.cell 0
  have BB1 := (B9.alloc (.map #[] 0)).alloc (.cells (st 0 w9.heap.size) 202)
  have V1 := Blk.new (w9.alloc (.map #[] 0)) 202 (st 0 w9.heap.size)
  have hs0 : (w9.alloc (.map #[] 0)).heap.size = w9.heap.size + 1 := by simp
  rw [hs0] at V1
  have HN1 := Lib.hid (World.news_of_block V1)
  have HO1 := Lib.hid (own_all own9 (((Below.refl w9.heap.size w9).alloc (Nat.le_refl _) (.map #[] 0)).alloc (by simp) (.cells (st 0 w9.heap.size) 202)))
  have HS1 := Lib.hid (show ((w9.alloc (.map #[] 0)).alloc (.cells (st 0 w9.heap.size) 202)).heap.size = w9.heap.size + 1 + 1 by simp)
  have HB1 := Lib.hid (show b0 ≤ ((w9.alloc (.map #[] 0)).alloc (.cells (st 0 w9.heap.size) 202)).heap.size by simp; omega)
  clear V1 own9 hs0
  rw [rounds_succ]
  go_wp2_with (at_builtin; refine wpList_append_lies _ rfl _ _ 197 rfl b0 202 i0 (.agg #[.int .u16 0, .map none]) 2 16 Try.underlying197 hi hz0 hz1 hz2 rfl (by decide) l9 1 (st 0 w.heap.size).toList rfl HO1.out ⟨w9.heap.size + 1, 0, none⟩ 1 1 (st 0 w9.heap.size).toList rfl rfl HN1.out (by intro u hu; simp [st] at hu; rcases hu with rfl | rfl <;> rfl) (by omega) (by unfold maxLen; omega) (by omega) HB1.out (w9.heap.size + 1 + 1) HS1.out ?_; intro h1 cap1 x1 hown1 hgrow1 hat1 hlt1; have B81 : Blk x1 g 199 #[l9, r, b] := (hgrow1.block g BB1.lt (by rw [← HL9.out]; simp [Value.ownBlock]; omega)).trans BB1; have c81 : x1.cell? ⟨g, 0, none⟩ = some l9 := B81.cell 0; have f81 : x1.frozen? ⟨g, 0, none⟩ = false := B81.frozen 0)
  have hh1 : h1 = h0 ∨ h1 = w9.heap.size + 1 + 1 := hat1.imp_left (by rw [← HL9.out]; simp [Value.ownBlock]; omega)
  have hne1 : h1 ≠ g := by omega
  have hcap1 : 2 ≤ cap1 ∧ cap1 ≤ maxLen := by obtain ⟨_, _, _, q1, q2, _⟩ := own_blk hown1; exact ⟨q1, q2⟩
  have hlk : ∀ k, k ≠ h0 → some k ≠ l9.ownBlock := fun k hk => by rw [← HL9.out]; simp [Value.ownBlock]; omega
  have MM1 : MapB x1 w9.heap.size #[] 0 := ((MapB.new w9).alloc (.cells (st 0 w9.heap.size) 202)).block (hgrow1.block w9.heap.size (by simp; omega) (hlk _ (by omega)))
  have MM2 : MapB x1 w.heap.size #[] 0 := ((M9.alloc (.map #[] 0)).alloc (.cells (st 0 w9.heap.size) 202)).block (hgrow1.block w.heap.size (by simp; omega) (hlk _ (by omega)))
  have K := Cel.of_owns hown1
  have K0 : Cel x1 h1 0 (st 0 w.heap.size) := (K.sub 0 2).congr rfl
  have K1 : Cel x1 h1 2 (st 0 w9.heap.size) := (K.sub 2 4).congr rfl
  have bel8 : Below b0 w x1 := ((bel9.alloc (by omega) (.map #[] 0)).alloc (by simp; omega) (.cells (st 0 w9.heap.size) 202)).grown hgrow1 HB1.out (fun k hk => by rw [← HL9.out] at hk; simp [Value.ownBlock] at hk; omega)
  rw [rounds_succ]
  clear hown1 hgrow1 hat1 HN1 HO1 HS1 HB1 HL9 c81 f81
  go_wp2_with fail
  go_end0
  exact ⟨rfl, ⟨h1, cap1, w.heap.size, w9.heap.size, B81.set_ 0 _, K0.far hne1 _, K1.far hne1 _, MM2.far (by show w.heap.size ≠ g; omega) _, MM1.far (by show w9.heap.size ≠ g; omega) _, hcap1.1, hcap1.2, by omega, by omega, by omega⟩, bel8.setCell (p := ⟨g, 0, none⟩) hb _⟩
end Go.Proofs.Ythddacgdmngfhaa.del
