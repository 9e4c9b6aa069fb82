/- Layer 40: nobody sends, nobody takes; the statement walked. -/
import Derived.Test.YtdjdgccomefoaaaFilF
namespace Go.Proofs.Ytdjdgccomefoaaa.fil
open Go.Sort (grow)
open Go.ChangeShapes Go.WideShapes Go.ChangeAt Go.RowKit kit oct byt
set_option maxRecDepth 100000

theorem abc_ok : okR abc = true := by
  obtain ⟨_, b, c, d, e⟩ := parse 7 3 0 ⟨#[97, 98, 99]⟩ (by omega) (by omega) (by omega)
  have hb : n2 abc = 3 := b
  have hc : n3 abc = 0 := c
  have hd : l3 abc = ⟨#[97, 98, 99]⟩ := d
  have he : E3 abc = 0 := e
  unfold okR
  rw [hb, hc, hd, he]
  decide
theorem abc_pc : pcR abc = pc 7 3 0 ⟨#[97, 98, 99]⟩ := by
  obtain ⟨a, b, c, d, _⟩ := parse 7 3 0 ⟨#[97, 98, 99]⟩ (by omega) (by omega) (by omega)
  have ha : n1 abc = 7 := a
  have hb : n2 abc = 3 := b
  have hc : n3 abc = 0 := c
  have hd : l3 abc = ⟨#[97, 98, 99]⟩ := d
  unfold pcR
  rw [if_pos abc_ok, ha, hb, hc, hd]
  rfl
theorem abc_size : abc.size ≤ maxLen := by
  unfold abc maxLen
  simp [p4_size]
  decide
theorem take_abc {b0 g m : Nat} (w : World) (q : Rv b0 g m #[] 0 w) : Calls Try.prog 35 #[.pointer (some ⟨g, 0, none⟩), .string abc] w fun e w' => e = .returned (.tuple #[.agg #[.int .u32 7, .string ⟨#[97, 98, 99]⟩], .bool true, .int .i64 0]) ∧ Below b0 w w' := by
  have h := take_good 7 3 0 ⟨#[97, 98, 99]⟩ abc w q abc_size abc_ok abc_pc (.inl (by omega)) (by omega) (by decide)
  have hs : (⟨#[97, 98, 99]⟩ : ByteArray).size = 3 := rfl
  have hw : whl 3 0 ⟨#[97, 98, 99]⟩ = ⟨#[97, 98, 99]⟩ := whl_all ⟨#[97, 98, 99]⟩
  rw [hs, if_pos rfl, if_pos rfl, hw] at h
  exact h
theorem awake40_any (w : World) : Calls Try.prog 36 #[] w fun e w' => e = .returned (.bool true) ∧ Below w.heap.size w w' := by
  go_enter Try.func36, Try.ntmps36
  go_wp2_with fail
  refine (new_rv _).mono ?_
  rintro e w1 ⟨rfl, q1, bel1⟩
  go_wp2_with fail
  refine (piece_abc _).mono ?_
  rintro e w2 ⟨rfl, hb2⟩
  have q2 := q1.below hb2 (Nat.le_refl _)
  have bel2 := bel1.trans (hb2.mono bel1.size)
  clear q1 bel1 hb2
  go_wp2_with fail
  refine (take_abc _ q2).mono ?_
  rintro e w3 ⟨rfl, hb3⟩
  have bel3 := bel2.trans hb3
  clear q2 bel2 hb3
  have O3 := Blk.new w3 58 #[.int .u32 7, .string ⟨#[97, 98, 99]⟩]
  have bel4 := bel3.alloc bel3.size (.cells #[.int .u32 7, .string ⟨#[97, 98, 99]⟩] 58)
  go_upto_region 3 with (fail)
  generalize w3.alloc (.cells #[.int .u32 7, .string ⟨#[97, 98, 99]⟩] 58) = w4 at *
  have o0 : w4.cell? ⟨w3.heap.size, 0, none⟩ = some (.int .u32 7) := O3.cell 0
  have o1 : w4.cell? ⟨w3.heap.size, 1, none⟩ = some (.string ⟨#[97, 98, 99]⟩) := O3.cell 1
  go_wp2_with fail
  go_ret
  exact ⟨rfl, bel4⟩
set_option maxHeartbeats 1000000 in
theorem none_law (i : Int) (d s : ByteArray) (w : World) (hl : s.size ≤ maxLen) : Calls Try.prog 5 #[.agg #[.int .u32 i, .string d], .string s] w fun e w' => e = .returned (.bool true) ∧ Below w.heap.size w w' := by
  have htk := fun W => take_bad none s W hl (.inl rfl)
  clear hl
  have X1 := Blk.new w 58 #[.int .u32 i, .string d]
  have bel1 := (Below.refl w.heap.size w).alloc (Nat.le_refl _) (.cells #[.int .u32 i, .string d] 58)
  go_enter Try.func5, Try.ntmps5
  go_upto_region 3 with (fail)
  generalize w.alloc (.cells #[.int .u32 i, .string d] 58) = w1 at *
  go_wp2_with fail
  refine (sender_done _).mono ?_
  rintro e w2 ⟨rfl, rfl⟩
  go_wp2_with fail
  refine (sender_peek _).mono ?_
  rintro e w2 ⟨rfl, rfl⟩
  go_wp2_with fail
  refine (htk _).mono ?_
  rintro e w2 ⟨rfl, hb2⟩
  have X2 := X1.below hb2 X1.lt
  have bel2 := bel1.trans (hb2.mono bel1.size)
  clear X1 bel1 hb2 htk
  go_upto_region 6 with (fail)
  have X3 := X2.alloc (.cells #[.int .u32 0, .string ⟨#[]⟩] 58)
  have bel3 := bel2.alloc bel2.size (.cells #[.int .u32 0, .string ⟨#[]⟩] 58)
  clear X2 bel2
  generalize w2.alloc (.cells #[.int .u32 0, .string ⟨#[]⟩] 58) = w3 at *
  go_wp2_with fail
  refine (awake40_any _).mono ?_
  rintro e w4 ⟨rfl, hb4⟩
  have X4 := X3.below hb4 X3.lt
  have bel4 := bel3.trans (hb4.mono bel3.size)
  clear X3 bel3 hb4
  have x0 : w4.cell? ⟨w.heap.size, 0, none⟩ = some (.int .u32 i) := X4.cell 0
  have x1 : w4.cell? ⟨w.heap.size, 1, none⟩ = some (.string d) := X4.cell 1
  go_wp2_with fail
  refine (sender_put _ _ _).mono ?_
  rintro e w5 ⟨rfl, hb5⟩
  have bel5 := bel4.trans (hb5.mono bel4.size)
  clear X4 bel4 hb5 x0 x1
  go_wp2_with fail
  refine (sender_len _).mono ?_
  rintro e w6 ⟨rfl, rfl⟩
  go_wp2_with fail
  refine (len_nil _).mono ?_
  rintro e w6 ⟨rfl, rfl⟩
  go_wp2_with fail
  go_ret
  exact ⟨rfl, bel5⟩
theorem none_open {H : Type} {enc : TypeId × Value → H} {W : World} {base : Nat} {v0 v1 : Value} {d0 d1 : DataW H} {p0 p1 : List MemPlace}
    (o0 : Value.okWide Try.prog W .any base 58 v0) (o1 : Value.okWide Try.prog W .any base 9 v1) (h0 : DataW.Trod enc Try.prog W 0 (fun _ => true) true 58 v0 d0 p0) (h1 : DataW.Trod enc Try.prog W 0 (fun _ => true) true 9 v1 d1 p1) :
    Calls Try.prog 5 #[v0, v1] W fun e w' => e = .returned (.bool true) ∧ Below W.heap.size W w' := by
  obtain ⟨l, rfl, hF⟩ := open_struct 4 (sh := [.int .u32, .str]) Try.underlying58 (by kernel_rfl) (by kernel_rfl) o0 h0
  obtain ⟨i, l1, rfl, _, hF⟩ := hF.int
  obtain ⟨d, l2, rfl, _, hF⟩ := hF.str
  obtain rfl := hF.nil
  obtain ⟨s, rfl, _, _, hs⟩ := ChangeMaps.open_string Try.underlying9 o1 h1
  exact none_law i d s W hs
end Go.Proofs.Ytdjdgccomefoaaa.fil
