/- Layer 21: the law of no flight. -/
import Derived.Test.YtdjdgccomefoaaaFliI
namespace Go.Proofs.Ytdjdgccomefoaaa.fli
open Go.Sort (grow)
open Go.ChangeShapes Go.WideShapes Go.ChangeAt Go.RowKit kit
set_option maxRecDepth 100000

theorem chZ : ch 0 0 ⟨#[]⟩ = #[.int .i64 0, .int .i64 0, .int .u32 0, .int .i64 0, .int .i64 0, .int .u32 0, .string ⟨#[]⟩, .int .u32 0, .int .u32 0, .int .i64 0, .int .i64 0, .slice none 0 0, .slice none 0 0, .slice none 0 0, .slice none 0 0] := rfl
set_option maxHeartbeats 4000000 in
theorem none_of (n : Int) (cs : Array Value) (hs : cs.size = 15) (w : World) :
    Calls Try.prog 4 #[.int .i64 n, .agg cs] w fun e w' => e = .returned (.bool true) ∧ Below w.heap.size w w' := by
  have sz : (Try.prog.info? 36).map (·.size) = some cs.size := by rw [hs]; kernel_rfl
  have hm := i64_mask n 2 (by omega)
  obtain ⟨p, hp⟩ : ∃ p : Nat, n % (2 ^ 2 : Nat) = (p : Int) := ⟨(n % (2 ^ 2 : Nat)).toNat, by omega⟩
  have hp3 : p ≤ 3 := by omega
  rw [hp] at hm
  simp only [show ((2 ^ 2 - 1 : Nat) : Int) = 3 from rfl] at hm
  clear hp
  have M1 := Blk.new w 36 cs
  have bel1 := (Below.refl w.heap.size w).alloc (Nat.le_refl _) (.cells cs 36)
  go_enter Try.func4, Try.ntmps4
  go_upto_region 2 with (fail)
  generalize w.alloc (.cells cs 36) = w1 at *
  have hx1 := M1.lt
  generalize hx : w.heap.size = x at *
  go_wp2_with fail
  refine (moved_nil _ _).mono ?_
  rintro e w2 ⟨rfl, hw2⟩
  have M2 := M1.alloc (.cells #[.int .i64 n] 3)
  have bel2 := bel1.alloc (by omega) (.cells #[.int .i64 n] 3)
  rw [← hw2] at M2 bel2
  clear M1 bel1 hw2 hx1
  have hx2 := M2.lt
  go_wp2_with fail
  refine (sack_nil p hp3 _ _ _).mono ?_
  rintro e w3 ⟨⟨g1, g2, g3, rfl⟩, hb3⟩
  have M3 := M2.below hb3 M2.lt
  have bel3 := bel2.trans (hb3.mono (by omega))
  have hx3 := M3.lt
  clear M2 bel2 hx2 hb3
  go_upto_region 4 with (fail)
  have A4 := Blk.new w3 42 #[.bool false, .slice (some ⟨g1, 0, none⟩) p p, .slice (some ⟨g2, 0, none⟩) p p, .slice (some ⟨g3, 0, none⟩) p p]
  have M4 := M3.alloc (.cells #[.bool false, .slice (some ⟨g1, 0, none⟩) p p, .slice (some ⟨g2, 0, none⟩) p p, .slice (some ⟨g3, 0, none⟩) p p] 42)
  have bel4 := bel3.alloc (by omega) (.cells #[.bool false, .slice (some ⟨g1, 0, none⟩) p p, .slice (some ⟨g2, 0, none⟩) p p, .slice (some ⟨g3, 0, none⟩) p p] 42)
  clear M3 bel3
  generalize w3.alloc (.cells #[.bool false, .slice (some ⟨g1, 0, none⟩) p p, .slice (some ⟨g2, 0, none⟩) p p, .slice (some ⟨g3, 0, none⟩) p p] 42) = w4 at *
  have ha4 := A4.lt
  generalize w3.heap.size = a at *
  go_wp2_with fail
  refine (peek_nil _).mono ?_
  rintro e w5 ⟨rfl, rfl⟩
  go_wp2_with fail
  refine (again2_nil _ _ _).mono ?_
  rintro e w6 ⟨rfl, hb6⟩
  rw [chZ]
  have M6 := M4.below hb6 M4.lt
  have A6 := A4.below hb6 A4.lt
  have bel6 := bel4.trans (hb6.mono (by omega))
  have ha6 := A6.lt
  have hx6 := M6.lt
  clear M4 A4 bel4 hb6 ha4 hx3
  go_upto_region 6 with (fail)
  have M7 := M6.alloc (.cells #[.int .i64 0, .int .i64 0, .int .u32 0, .int .i64 0, .int .i64 0, .int .u32 0, .string ⟨#[]⟩, .int .u32 0, .int .u32 0, .int .i64 0, .int .i64 0, .slice none 0 0, .slice none 0 0, .slice none 0 0, .slice none 0 0] 36)
  have A7 := A6.alloc (.cells #[.int .i64 0, .int .i64 0, .int .u32 0, .int .i64 0, .int .i64 0, .int .u32 0, .string ⟨#[]⟩, .int .u32 0, .int .u32 0, .int .i64 0, .int .i64 0, .slice none 0 0, .slice none 0 0, .slice none 0 0, .slice none 0 0] 36)
  have bel7 := bel6.alloc (by omega) (.cells #[.int .i64 0, .int .i64 0, .int .u32 0, .int .i64 0, .int .i64 0, .int .u32 0, .string ⟨#[]⟩, .int .u32 0, .int .u32 0, .int .i64 0, .int .i64 0, .slice none 0 0, .slice none 0 0, .slice none 0 0, .slice none 0 0] 36)
  clear M6 A6 bel6 hx6 ha6
  generalize w6.alloc (.cells #[.int .i64 0, .int .i64 0, .int .u32 0, .int .i64 0, .int .i64 0, .int .u32 0, .string ⟨#[]⟩, .int .u32 0, .int .u32 0, .int .i64 0, .int .i64 0, .slice none 0 0, .slice none 0 0, .slice none 0 0, .slice none 0 0] 36) = w7 at *
  generalize w6.heap.size = y at *
  have hx7 := M7.lt
  go_wp2_with fail
  refine (oldest_nil _ _).mono ?_
  rintro e w8 ⟨rfl, hb8⟩
  have M8 := M7.below hb8 M7.lt
  have A8 := A7.below hb8 A7.lt
  have bel8 := bel7.trans (hb8.mono (by omega))
  have hx8 := M8.lt
  clear M7 A7 bel7 hb8 hx7
  go_wp2_with fail
  refine (awake21 _).mono ?_
  rintro e w9 ⟨rfl, hb9⟩
  have M9 := M8.below hb9 M8.lt
  have A9 := A8.below hb9 A8.lt
  have bel9 := bel8.trans (hb9.mono (by omega))
  have hx9 := M9.lt
  clear M8 A8 bel8 hb9 hx8
  go_wp2_with fail
  refine (cum_nil _).mono ?_
  rintro e v1 ⟨rfl, rfl⟩
  go_wp2_with fail
  refine (len_nil _).mono ?_
  rintro e v2 ⟨rfl, rfl⟩
  go_wp2_with fail
  refine (all_nil _).mono ?_
  rintro e v3 ⟨rfl, rfl⟩
  go_wp2_with fail
  refine (bytes_nil _).mono ?_
  rintro e v4 ⟨rfl, rfl⟩
  go_wp2_with fail
  refine (on_nil _ _).mono ?_
  rintro e w10 ⟨rfl, hb10⟩
  have M10 := M9.below hb10 M9.lt
  have A10 := A9.below hb10 A9.lt
  have bel10 := bel9.trans (hb10.mono (by omega))
  have hx10 := M10.lt
  clear M9 A9 bel9 hb10 hx9
  go_wp2_with fail
  refine (held_nil _).mono ?_
  rintro e v5 ⟨rfl, rfl⟩
  go_wp2_with fail
  refine (next_nil _).mono ?_
  rintro e v6 ⟨rfl, rfl⟩
  go_wp2_with (refine wpList_load_at_g (by rfl) 36 _ rfl x 0 rfl cs _ (Cel.of_blk M10) Try.underlying36 rfl sz ?_)
  refine (add_nil _ _ _ _).mono ?_
  rintro e w11 ⟨rfl, hb11⟩
  have A11 := A10.below hb11 A10.lt
  have bel11 := bel10.trans (hb11.mono (by omega))
  clear M10 A10 bel10 hb11
  have hfd : ∀ w, (Instr.field 36 (.agg #[.int .i64 0, .int .i64 0, .int .u32 0, .int .i64 0, .int .i64 0, .int .u32 0, .string ⟨#[]⟩, .int .u32 0, .int .u32 0, .int .i64 0, .int .i64 0, .slice none 0 0, .slice none 0 0, .slice none 0 0, .slice none 0 0]) 6).run Try.prog w = .ok (.string ⟨#[]⟩) w := fun w => by kernel_rfl
  have a0 : w11.cell? ⟨a, 0, none⟩ = some (.bool false) := A11.cell 0
  have a1 : w11.cell? ⟨a, 1, none⟩ = some (.slice (some ⟨g1, 0, none⟩) p p) := A11.cell 1
  rw [chZ]
  go_wp2_with fail
  refine (late_nil _ _).mono ?_
  rintro e v7 ⟨rfl, rfl⟩
  go_wp2_with fail
  go_ret
  exact ⟨rfl, by rw [hx]; exact bel11⟩
theorem none_open {H : Type} {enc : TypeId × Value → H} {W : World} {base : Nat} {v0 v1 : Value} {d0 d1 : DataW H} {p0 p1 : List MemPlace}
    (o0 : Value.okWide Try.prog W .any base 3 v0) (o1 : Value.okWide Try.prog W .any base 36 v1) (h0 : DataW.Trod enc Try.prog W 0 (fun _ => true) true 3 v0 d0 p0) (h1 : DataW.Trod enc Try.prog W 0 (fun _ => true) true 36 v1 d1 p1) :
    Calls Try.prog 4 #[v0, v1] W fun e w' => e = .returned (.bool true) ∧ Below W.heap.size W w' := by
  obtain ⟨n, rfl, _, _, _⟩ := open_int Try.underlying3 o0 h0
  obtain ⟨l, rfl, hF⟩ := open_struct 4 (sh := [.int .i64, .int .i64, .int .u32, .int .i64, .int .i64, .int .u32, .str, .int .u32, .int .u32, .int .i64, .int .i64, .other 31, .other 32, .other 33, .other 34]) Try.underlying36 (by kernel_rfl) (by kernel_rfl) o1 h1
  have hl := FlatOK.length _ _ _ _ _ _ hF
  exact none_of n l.toArray (by simpa using hl) W
end Go.Proofs.Ytdjdgccomefoaaa.fli
