/- Layer 40: nobody sends, nobody takes; the statement walked. -/
import Derived.Test.YthddacgdmngfhaaFilF
namespace Go.Proofs.Ythddacgdmngfhaa.fil
open Go.Sort (grow)
open Go.ChangeShapes Go.WideShapes Go.ChangeAt Go.RowKit kit oct byt
set_option maxRecDepth 100000

theorem abc_ok : okR abc = true := by
  obtain ⟨_, b, c, d, e⟩ := parse 7 3 0 ⟨#[97, 98, 99]⟩ (by omega) (by omega) (by omega)
  have hb : n2 abc = 3 := b
  have hc : n3 abc = 0 := c
  have hd : l3 abc = ⟨#[97, 98, 99]⟩ := d
  have he : E3 abc = 0 := e
  unfold okR
  rw [hb, hc, hd, he]
  decide
theorem abc_pc : pcR abc = pc 7 3 0 ⟨#[97, 98, 99]⟩ := by
  obtain ⟨a, b, c, d, _⟩ := parse 7 3 0 ⟨#[97, 98, 99]⟩ (by omega) (by omega) (by omega)
  have ha : n1 abc = 7 := a
  have hb : n2 abc = 3 := b
  have hc : n3 abc = 0 := c
  have hd : l3 abc = ⟨#[97, 98, 99]⟩ := d
  unfold pcR
  rw [if_pos abc_ok, ha, hb, hc, hd]
  rfl
theorem abc_size : abc.size ≤ maxLen := by
  unfold abc maxLen
  simp [p4_size]
  decide
theorem take_abc {b0 g m : Nat} (w : World) (q : Rv b0 g m #[] 0 w) : Calls Try.prog 34 #[.pointer (some ⟨g, 0, none⟩), .string abc] w fun e w' => e = .returned (.tuple #[.agg #[.int .u32 7, .string ⟨#[97, 98, 99]⟩], .bool true, .int .i64 0]) ∧ Below b0 w w' := by
  have h := take_good 7 3 0 ⟨#[97, 98, 99]⟩ abc w q abc_size abc_ok abc_pc (.inl (by omega)) (by omega) (by decide)
  have hs : (⟨#[97, 98, 99]⟩ : ByteArray).size = 3 := rfl
  have hw : whl 3 0 ⟨#[97, 98, 99]⟩ = ⟨#[97, 98, 99]⟩ := whl_all ⟨#[97, 98, 99]⟩
  rw [hs, if_pos rfl, if_pos rfl, hw] at h
  exact h
theorem awake40_any (w : World) : Calls Try.prog 32 #[] w fun e w' => e = .returned (.bool true) ∧ Below w.heap.size w w' := by
  go_enter Try.func32, Try.ntmps32
  go_wp2_with fail
  refine (new_rv _).mono ?_
  rintro e w1 ⟨rfl, q1, bel1⟩
  go_wp2_with fail
  refine (piece_abc _).mono ?_
  rintro e w2 ⟨rfl, hb2⟩
  have q2 := q1.below hb2 (Nat.le_refl _)
  have bel2 := bel1.trans (hb2.mono bel1.size)
  clear q1 bel1 hb2
  go_wp2_with fail
  refine (take_abc _ q2).mono ?_
  rintro e w3 ⟨rfl, hb3⟩
  have bel3 := bel2.trans hb3
  clear q2 bel2 hb3
  have O3 := Blk.new w3 57 #[.int .u32 7, .string ⟨#[97, 98, 99]⟩]
  have bel4 := bel3.alloc bel3.size (.cells #[.int .u32 7, .string ⟨#[97, 98, 99]⟩] 57)
  go_upto_region 3 with (fail)
  generalize w3.alloc (.cells #[.int .u32 7, .string ⟨#[97, 98, 99]⟩] 57) = w4 at *
  have o0 : w4.cell? ⟨w3.heap.size, 0, none⟩ = some (.int .u32 7) := O3.cell 0
  have o1 : w4.cell? ⟨w3.heap.size, 1, none⟩ = some (.string ⟨#[97, 98, 99]⟩) := O3.cell 1
  go_wp2_with fail
  go_ret
  exact ⟨rfl, bel4⟩
end Go.Proofs.Ythddacgdmngfhaa.fil
