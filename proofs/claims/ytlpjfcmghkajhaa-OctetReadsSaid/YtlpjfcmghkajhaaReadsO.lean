/- Whatever is read of whatever bytes: for every string and every row. -/
import Derived.Test.YtlpjfcmghkajhaaReads
namespace Go.Proofs.Ytlpjfcmghkajhaa.oct
open Go.ChangeShapes Go.WideShapes Go.ChangeAt Go.RowKit kit

set_option maxRecDepth 100000 in
set_option maxHeartbeats 4000000 in
theorem reads_nil (s : ByteArray) (w : World) :
    Calls Try.prog 8 #[.string s, .slice none 0 0] w fun e w' => e = .returned (.bool true) ∧ Below w.heap.size w w' := by
  go_enter Try.func8, Try.ntmps8
  go_wp2_with (first | (go_at_call 27; refine (new_any _ _).mono ?_; rintro e w1 ⟨rfl, rfl⟩))
  have hT : (s.extract 0 (min (s.size : Int) 200).toNat).size ≤ 200 := by simp; omega
  generalize s.extract 0 (min (s.size : Int) 200).toNat = T at hT ⊢
  have R : RD ((w.alloc (.cells #[.string T, .int .i64 0] 65)).alloc (.cells #[.string T, .int .i64 0] 45)) w.heap.size T 0 := (RD.fresh w T 0).alloc _
  have Q : Blk ((w.alloc (.cells #[.string T, .int .i64 0] 65)).alloc (.cells #[.string T, .int .i64 0] 45)) (w.heap.size + 1) 45 #[.string T, .int .i64 0] := blk_new2 w _ _ _
  have bel : Below w.heap.size w ((w.alloc (.cells #[.string T, .int .i64 0] 65)).alloc (.cells #[.string T, .int .i64 0] 45)) := ((Below.refl _ _).alloc (Nat.le_refl _) _).alloc (by simp) _
  generalize (w.alloc (.cells #[.string T, .int .i64 0] 65)).alloc (.cells #[.string T, .int .i64 0] 45) = w2 at *
  refine wp_loop_rounds 1 ?_
  rw [rounds_succ]
  go_upto_region 31 with fail
  go_region_with (first | (go_at_call 18; refine (awake3_any _).mono ?_; rintro z w5 ⟨rfl, hb⟩; (first | have R5 := Blk.below R hb R.lt | have R5 := Blk.below R.drew hb R.lt); (first | have Q5 := Blk.below Q hb Q.lt | have Q5 := Blk.below Q.drew hb Q.lt); have CQ5 := fun i => Q5.cell i; (first | have bel5 := bel.trans (hb.mono bel.size) | have bel5 := bel.drew.trans (hb.mono bel.size))) | (go_at_call 40; (first | refine (end_any _ T 0 _ R6).mono ?_ | refine (end_any _ T 0 _ R5).mono ?_ | refine (end_any _ T 0 _ R5.drew).mono ?_); rintro z w' ⟨rfl, rfl⟩) | (go_at_call 41; refine (rend_any T 0 _).mono ?_; rintro z w6 ⟨rfl, hb6⟩; have bel6 := bel5.trans (hb6.mono bel5.size); have R6 := Blk.below R5 hb6 R5.lt))
  all_goals
    go_wp2_with fail
    go_ret
    exact ⟨rfl, (by first | exact bel6 | exact bel6.drew)⟩

set_option maxRecDepth 100000 in
theorem reads_open {H : Type} {enc : TypeId × Value → H} {W : World} {base : Nat} {v0 v1 : Value} {d1 : DataW H} {p1 : List MemPlace}
    (o0 : Value.okWide Try.prog W .any base 9 v0) (o1 : Value.okWide Try.prog W .any base 41 v1) (h1 : DataW.Trod enc Try.prog W 0 (fun _ => true) true 41 v1 d1 p1) :
    Calls Try.prog 8 #[v0, v1] W fun e w' => e = .returned (.bool true) ∧ Below W.heap.size W w' := by
  obtain ⟨s, rfl⟩ := okWide_string Try.underlying9 o0
  rcases open_row 3 (sh := [.int .i64, .int .i64]) Try.underlying41 (by kernel_rfl) (by kernel_rfl) (by decide) o1 h1 with rfl | ⟨a, len, cap, C, rfl, hlc, hcm, hab, hC⟩
  · exact reads_nil s W
  · have hx : ∀ i, ∃ x : Int × Int, i < len → (W.cell? (a.add (i * 2)) = some (.int .i64 x.1) ∧ W.cell? (a.add (i * 2 + 1)) = some (.int .i64 x.2)) ∧ (-9223372036854775808 ≤ x.2 ∧ x.2 ≤ 9223372036854775807) := by
      intro i
      by_cases hi : i < len
      · obtain ⟨hF, hc⟩ := hC i hi
        obtain ⟨x, t, e, hw, hF'⟩ := hF.int
        obtain ⟨y, t', e', hw', hF''⟩ := hF'.int
        refine ⟨(x, y), fun _ => ⟨⟨?_, ?_⟩, bounds_i64 hw'⟩⟩
        · have := hc 0 (.int .i64 x) (by rw [e]; rfl)
          simpa using this
        · have := hc 1 (.int .i64 y) (by rw [e, e']; rfl)
          simpa using this
      · exact ⟨(0, 0), fun h => absurd h hi⟩
    have hs := fun i => Classical.choose_spec (hx i)
    exact reads_law s a len cap (fun i => (Classical.choose (hx i)).1) (fun i => (Classical.choose (hx i)).2) W hlc hcm hab (fun i hi => ((hs i) hi).1) (fun i hi => ((hs i) hi).2)
end Go.Proofs.Ytlpjfcmghkajhaa.oct
