/- Layer 31: packets under way as a list: how many, one put, one doubled, all. -/
import Derived.Test.YtdocphkpeonldaaNplA
namespace Go.Proofs.Ytdocphkpeonldaa.npl
open Go.Sort (grow)
open Go.ChangeShapes Go.WideShapes Go.ChangeAt Go.RowKit kit storm
set_option maxRecDepth 100000

/-- Packets under way: the net's block, its row, what it holds. -/
structure NS (b0 g : Nat) (l : Value) (L : List It) (w : World) : Prop where
  B : Blk w g 194 #[l, .int .i64 0]
  own : w.ownsRow b0 70 6 l L.length (cellsI L)
  ne : ∀ k, l.ownBlock = some k → k ≠ g
  hg : b0 ≤ g
/-- What else lies there stays. -/
structure Frm (g : Nat) (l : Value) (w w' : World) : Prop where
  size : w.heap.size ≤ w'.heap.size
  block : ∀ k, k < w.heap.size → k ≠ g → l.ownBlock ≠ some k → w'.heap[k]? = w.heap[k]?
theorem Frm.of_below {g : Nat} {l : Value} {w w' : World} (hb : Below w.heap.size w w') : Frm g l w w' := ⟨hb.size, fun k hk _ _ => hb.block k hk⟩
theorem Frm.trans {g : Nat} {l : Value} {a b c : World} (h : Frm g l a b) (k : Frm g l b c) : Frm g l a c := ⟨Nat.le_trans h.size k.size, fun i hi hg hl => (k.block i (Nat.lt_of_lt_of_le hi h.size) hg hl).trans (h.block i hi hg hl)⟩
theorem NS.below {b0 g B : Nat} {l : Value} {L : List It} {w w' : World} (n : NS b0 g l L w) (hb : Below B w w') (hB : B = w.heap.size) : NS b0 g l L w' := by
  subst hB
  exact ⟨n.B.below hb n.B.lt, own_all n.own hb, n.ne, n.hg⟩
theorem own_shape {w : World} {b0 n size : Nat} {t : TypeId} {v : Value} {xs : List Value} (own : w.ownsRow b0 t size v n xs) : ∃ oa cap, v = .slice oa n cap ∧ n ≤ cap ∧ cap ≤ maxLen ∧ (0 < n → ∃ h, oa = some ⟨h, 0, none⟩) ∧ (oa = none → v = .slice none 0 0 ∧ n = 0) := by
  rcases own.2 with ⟨rfl, rfl⟩ | ⟨h, cap, cur, rfl, _, _, hn, hm, _⟩
  · exact ⟨none, 0, rfl, Nat.le_refl _, Nat.zero_le _, fun h => absurd h (by omega), fun _ => ⟨rfl, rfl⟩⟩
  · exact ⟨some ⟨h, 0, none⟩, cap, rfl, hn, hm, fun _ => ⟨h, rfl⟩, fun q => by cases q⟩
theorem len_ns {b0 g : Nat} {l : Value} {L : List It} {w : World} (n : NS b0 g l L w) : Calls Try.prog 61 #[.pointer (some ⟨g, 0, none⟩)] w fun e w' => e = .returned (.int .i64 L.length) ∧ w' = w := by
  obtain ⟨oa, cap, hl, _⟩ := own_shape n.own
  have c0 : w.cell? ⟨g, 0, none⟩ = some l := n.B.cell 0
  rw [hl] at c0
  generalize L.length = m at *
  clear n hl
  go_enter Try.func61, Try.ntmps61
  go_wp2
  go_ret
  exact ⟨rfl, rfl⟩
theorem full_ns {b0 g : Nat} {l : Value} {L : List It} {w : World} (n : NS b0 g l L w) : Calls Try.prog 62 #[.pointer (some ⟨g, 0, none⟩)] w fun e w' => e = .returned (.int .i64 0) ∧ w' = w := by
  have c1 : w.cell? ⟨g, 1, none⟩ = some (.int .i64 0) := n.B.cell 1
  clear n
  go_enter Try.func62, Try.ntmps62
  go_wp2
  go_ret
  exact ⟨rfl, rfl⟩
theorem has_ns {b0 g : Nat} {l : Value} {L : List It} {w : World} (n : NS b0 g l L w) (x : Int) : Calls Try.prog 113 #[.pointer (some ⟨g, 0, none⟩), .int .i64 x] w fun e w' => e = .returned (.bool (decide (0 ≤ x ∧ x < L.length))) ∧ w' = w := by
  have hL := len_ns n
  generalize L.length = m at *
  by_cases h : 0 ≤ x
  · have h0 : decide (0 ≤ x) = true := decide_eq_true h
    have h1 : decide (x < 0) = false := decide_eq_false (by omega)
    go_enter Try.func113, Try.ntmps113
    go_wp2_with fail
    refine hL.mono ?_
    rintro e w1 ⟨rfl, rfl⟩
    go_wp2_with fail
    go_ret
    exact ⟨by simp [h], rfl⟩
  · have h0 : decide (0 ≤ x) = false := decide_eq_false h
    have h1 : decide (x < 0) = true := decide_eq_true (by omega)
    go_enter Try.func113, Try.ntmps113
    go_wp2_with fail
    go_ret
    exact ⟨by simp [h], rfl⟩
set_option maxHeartbeats 4000000 in
theorem put_ns {b0 g : Nat} {l : Value} {L : List It} {w : World} (n : NS b0 g l L w) (hL : L.length < 300) (x : It) : Calls Try.prog 59 #[.pointer (some ⟨g, 0, none⟩), .agg (ir x)] w fun e w' => e = .returned (.bool true) ∧ (∃ l', NS b0 g l' (L ++ [x]) w' ∧ ∀ k, l'.ownBlock = some k → l.ownBlock = some k ∨ w.heap.size ≤ k) ∧ Frm g l w w' ∧ Below b0 w w' := by
  obtain ⟨i0, hi, hz0, hz1, hz2⟩ := info_parts infoI
  obtain ⟨B, own, ne, hg⟩ := n
  have hg0 := B.lt
  obtain ⟨oa, cap0, hl, _⟩ := own_shape own
  obtain ⟨xl, xn, xf, xt, xs, xb⟩ := x
  have B1 := B.alloc (.cells (ir ⟨xl, xn, xf, xt, xs, xb⟩) 70)
  have E1 := Blk.new w 70 (ir ⟨xl, xn, xf, xt, xs, xb⟩)
  have own1 := own_all own ((Below.refl w.heap.size w).alloc (Nat.le_refl _) (.cells (ir ⟨xl, xn, xf, xt, xs, xb⟩) 70))
  have bw1 := (Below.refl w.heap.size w).alloc (Nat.le_refl _) (.cells (ir ⟨xl, xn, xf, xt, xs, xb⟩) 70)
  have hgl := own_lt own
  go_enter Try.func59, Try.ntmps59
  go_upto_region 1 with (fail)
  generalize w.alloc (.cells (ir ⟨xl, xn, xf, xt, xs, xb⟩) 70) = w1 at *
  unfold ir at E1
  dsimp only at E1
  have hs1 := bw1.size
  have C := fun i => B1.cell i
  have F := fun i => B1.frozen i
  have CE := fun i => E1.cell i
  have hg1 := B1.lt
  have hx1 := E1.lt
  rw [hl] at C
  obtain ⟨m, hm⟩ : ∃ m, L.length = m := ⟨_, rfl⟩
  have hmI : ¬ (300 : Int) ≤ (m : Int) := by omega
  have hmN : ¬ 300 ≤ m := by omega
  have hmD : decide ((m : Int) ≥ 300) = false := decide_eq_false hmI
  have ownA := own_all own1 ((Below.refl w1.heap.size w1).alloc (Nat.le_refl _) (.cells #[.int .i64 xl, .int .i64 xn, .int .u32 xf, .int .u32 xt, .string xs, .bool xb] 70))
  have HOA := Lib.hid ownA
  have HLL := Lib.hid hl
  have HNE := Lib.hid (And.intro ne hgl)
  rw [hm] at hl C HLL HOA
  clear own own1 ne hgl B ownA hl
  go_upto_region 6 with (fail)
  go_region_law ((refine step_append_lies _ (by rfl) _ _ _ (by rfl) b0 70 i0 (.agg (ir it0)) 6 48 Try.underlying56 hi hz0 hz1 hz2 (by rfl) (by decide) (.slice oa m cap0) m (cellsI L) (by rfl) (by rw [← HLL.out]; exact HOA.out) ⟨w1.heap.size, 0, none⟩ 1 1 (Array.toList #[.int .i64 xl, .int .i64 xn, .int .u32 xf, .int .u32 xt, .string xs, .bool xb]) (by rfl) (by rfl) (World.news_of_block (heap_alloc_new _ _)) (by intro u hu; simp only [List.mem_cons, List.not_mem_nil, or_false] at hu; rcases hu with rfl | rfl | rfl | rfl | rfl | rfl <;> rfl) (by omega) (by unfold maxLen; omega) (by omega) (by simp; omega) (w1.heap.size + 1) (by simp) ?_; intro h cap w8 hown8 hgrow hat hlt; have B8 : Blk w8 g 194 #[l, .int .i64 0] := (hgrow.block g (by simp; omega) (by rw [← HLL.out]; exact fun e => HNE.out.1 g e.symm rfl)).trans (Blk.alloc B1 (.cells #[.int .i64 xl, .int .i64 xn, .int .u32 xf, .int .u32 xt, .string xs, .bool xb] 70)); have C8 := fun i => B8.cell i; have F8 := fun i => B8.frozen i))
  all_goals
    rw [← HLL.out] at hat hgrow
    have hne8 : h ≠ g := by
      rcases hat with e | e
      · exact HNE.out.1 h e
      · omega
    have own9 : (w8.setCell ⟨g, 0, none⟩ (.slice (some ⟨h, 0, none⟩) (m + 1) cap)).ownsRow b0 70 6 (.slice (some ⟨h, 0, none⟩) (m + 1) cap) (m + 1) (cellsI (L ++ [⟨xl, xn, xf, xt, xs, xb⟩])) := by
      rw [cellsI_snoc]
      exact own_other hown8 (fun k hk => Below.heap_setCell _ _ _ _ (by simp [Value.ownBlock] at hk; show k ≠ g; omega))
    have fr9 : Frm g l w (w8.setCell ⟨g, 0, none⟩ (.slice (some ⟨h, 0, none⟩) (m + 1) cap)) := by
      refine ⟨?_, fun k hk hkg hkl => ?_⟩
      · have := hgrow.size
        simp [World.setCell] at this ⊢
        omega
      · rw [Below.heap_setCell w8 ⟨g, 0, none⟩ _ k hkg]
        exact (hgrow.block k (by simp; omega) (fun e => hkl e.symm)).trans ((((Below.refl w1.heap.size w1).alloc (Nat.le_refl _) (.cells #[.int .i64 xl, .int .i64 xn, .int .u32 xf, .int .u32 xt, .string xs, .bool xb] 70)).block k (by omega)).trans (bw1.block k hk))
    have bel9 : Below b0 w (w8.setCell ⟨g, 0, none⟩ (.slice (some ⟨h, 0, none⟩) (m + 1) cap)) := ((((bw1.mono (by omega)).alloc (by omega) (.cells #[.int .i64 xl, .int .i64 xn, .int .u32 xf, .int .u32 xt, .string xs, .bool xb] 70)).drew).grown hgrow (by simp; omega) (fun k hk => own_ge HOA.out k hk)).setCell (p := ⟨g, 0, none⟩) hg _
    have HX := Lib.hid (And.intro own9 (And.intro fr9 bel9))
    have B9 : Blk (w8.setCell ⟨g, 0, none⟩ (.slice (some ⟨h, 0, none⟩) (m + 1) cap)) g 194 #[.slice (some ⟨h, 0, none⟩) (m + 1) cap, .int .i64 0] := B8.set_ 0 _
    clear hown8 own9 fr9 bel9
    go_wp2_with fail
    go_ret
    exact ⟨rfl, ⟨_, ⟨B9, (by rw [List.length_append, hm]; exact HX.out.1), fun k hk => by simp [Value.ownBlock] at hk; omega, hg⟩, fun k hk => by
      simp [Value.ownBlock] at hk
      subst hk
      rcases hat with e | e
      · exact .inl e
      · exact .inr (by omega)⟩, HX.out.2.1, HX.out.2.2⟩
end Go.Proofs.Ytdocphkpeonldaa.npl
