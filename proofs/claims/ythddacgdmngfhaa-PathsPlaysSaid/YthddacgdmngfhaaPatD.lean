/- Layer 15: a second path added. -/
import Derived.Test.YthddacgdmngfhaaPatC
import Derived.Test.YthddacgdmngfhaaKitC
namespace Go.Proofs.Ythddacgdmngfhaa.pat
open Go.Sort (grow)
open Go.ChangeShapes Go.WideShapes Go.ChangeAt Go.RowKit kit
set_option maxRecDepth 100000

theorem infoP : (Try.prog.info? 113).map (fun i => (i.zero, i.size, i.bytes)) = some (some (.agg pz), 15, 112) := by kernel_rfl
/-- Two paths, the second one behind the first one. -/
def TwoAt (b0 g : Nat) (a b : Array Value) (w : World) : Prop := ∃ h cap, Blk w g 214 #[.slice (some ⟨h, 0, none⟩) 2 cap, .int .i64 0] ∧ h ≠ g ∧ b0 ≤ h ∧ 2 ≤ cap ∧ cap ≤ maxLen ∧ Cel w h 0 a ∧ Cel w h 15 b
set_option maxHeartbeats 1000000 in
theorem add_second (g h b0 : Nat) (hb0 : b0 ≤ g) (hbh0 : b0 ≤ h) (hgh : g ≠ h) (w : World) (N : Blk w g 214 #[.slice (some ⟨h, 0, none⟩) 1 1, .int .i64 0]) (X : Blk w h 113 (pth 1 2 0)) : Calls Try.prog 68 #[.pointer (some ⟨g, 0, none⟩), .int .u32 1, .int .u32 3] w fun e w' => e = .returned (.int .i64 1) ∧ TwoAt b0 g (pth 1 2 0) (pth 1 3 0) w' ∧ Below b0 w w' := by
  have hg0 := N.lt
  go_enter Try.func68, Try.ntmps68
  go_wp2_with fail
  refine (find_other g h _ N X).mono ?_
  rintro e w1 ⟨rfl, hb1⟩
  have N1 := N.below hb1 N.lt
  have X1 := X.below hb1 X.lt
  have bel1 : Below b0 w w1 := hb1.mono (by omega)
  have hb1s := hb1.size
  clear hb1
  obtain ⟨i0, hi, hz0, hz1, hz2⟩ := info_parts infoP
  have hN := fun w => new_any 1 3 w
  simp only [pth] at hN
  have c0 : w1.cell? ⟨g, 0, none⟩ = some (.slice (some ⟨h, 0, none⟩) 1 1) := N1.cell 0
  have hbh : b0 ≤ h := hbh0
  have hs1 : w.heap.size ≤ w1.heap.size := hb1s
  go_wp2_with fail
  go_region_law
    ((first | (refine step_call (by rfl) 65 Try.f65 _ _ (by rfl) Try.func65 (by kernel_rfl) (by kernel_rfl) #[.int .u32 1, .int .u32 3] (by simp [Act.eval, Act.put]) (hN _) ?_; intro w2 hb2; have N2 := N1.drew.below hb2 N1.lt; have X2 := X1.drew.below hb2 X1.lt; have c2 : w2.cell? ⟨g, 0, none⟩ = some (.slice (some ⟨h, 0, none⟩) 1 1) := N2.cell 0; have c3 : ∀ o, (w2.alloc o).cell? ⟨g, 0, none⟩ = some (.slice (some ⟨h, 0, none⟩) 1 1) := fun o => (N2.alloc o).cell 0)
            | (refine step_append_lies _ (by rfl) _ _ _ (by rfl) b0 113 i0 (.agg pz) 15 112 Try.underlying115 hi hz0 hz1 hz2 rfl (by decide) (.slice (some ⟨h, 0, none⟩) 1 1) 1 (pth 1 2 0).toList (by rfl) ⟨rfl, .inr ⟨h, 1, pth 1 2 0, rfl, hbh, X2.alloc _, by omega, by unfold maxLen; omega, rfl, rfl⟩⟩ ⟨w2.heap.size, 0, none⟩ 1 1 (pth 1 3 0).toList (by rfl) rfl (World.news_of_block (heap_alloc_new _ _)) (by decide) (by omega) (by unfold maxLen; omega) (by omega) (by simp; have := N2.lt; omega) (w2.heap.size + 1) (by simp) ?_; intro k cap w8 hown8 hgrow hat hlt; have N8 : Blk w8 g 214 #[.slice (some ⟨h, 0, none⟩) 1 1, .int .i64 0] := (hgrow.block g (by simp; have := N2.lt; omega) (by simp [Value.ownBlock]; exact hgh)).trans (N2.alloc _); have c8 : w8.cell? ⟨g, 0, none⟩ = some (.slice (some ⟨h, 0, none⟩) 1 1) := N8.cell 0; have f8 := N8.frozen 0)))
  all_goals
    have hkg : k ≠ g := by
      have q1 := N2.lt
      rcases hat with q | q
      · simp [Value.ownBlock] at q; omega
      · omega
    have hcap : b0 ≤ k ∧ 2 ≤ cap ∧ cap ≤ maxLen := by
      rcases hown8.2 with ⟨q, _⟩ | ⟨g', cap', cur, q, q3, _, q1, q2, _⟩
      · simp at q
      · simp at q
        obtain ⟨rfl, rfl⟩ := q
        exact ⟨q3, by omega, q2⟩
    have K8 := Cel.of_owns hown8
    have A8 : Cel w8 k 0 (pth 1 2 0) := (K8.sub 0 15).congr rfl
    have D8 : Cel w8 k 15 (pth 1 3 0) := ((K8.sub 15 30).congr rfl)
    have bel2 : Below b0 w w2 := bel1.drew.trans (hb2.mono (by simp; omega))
    have bel8 : Below b0 w w8 := (bel2.alloc (by have := N2.lt; omega) _).grown hgrow (by simp; have := N2.lt; omega) (fun k hk => by simp [Value.ownBlock] at hk; omega)
    have hE : TwoAt b0 g (pth 1 2 0) (pth 1 3 0) (w8.setCell ⟨g, 0, none⟩ (.slice (some ⟨k, 0, none⟩) 2 cap)) := ⟨k, cap, N8.set_ 0 _, hkg, hcap.1, hcap.2.1, hcap.2.2, A8.far hkg _, D8.far hkg _⟩
    have belE := bel8.setCell (p := ⟨g, 0, none⟩) hb0 (.slice (some ⟨k, 0, none⟩) 2 cap)
    have NE := N8.set_ 0 (.slice (some ⟨k, 0, none⟩) 2 cap)
    generalize w8.setCell ⟨g, 0, none⟩ (.slice (some ⟨k, 0, none⟩) 2 cap) = w9 at *
    have c9 : w9.cell? ⟨g, 0, none⟩ = some (.slice (some ⟨k, 0, none⟩) 2 cap) := NE.cell 0
    clear c0 c2 c3 c8 f8 hN hat
    go_wp2_with fail
    go_ret
    exact ⟨rfl, hE, belE⟩
end Go.Proofs.Ythddacgdmngfhaa.pat
