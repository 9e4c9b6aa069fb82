/- Layer 6: the tests of a chunk that has nothing but its type (a cookie's ack). -/
import Derived.Test.YtlpklnjnfeodaaaChk
import Derived.Test.YtlpklnjnfeodaaaPre
import Derived.BigQuiet
namespace Go.Proofs.Ytlpklnjnfeodaaa.chk
open Go.ChangeShapes Go.WideShapes Go.ChangeAt Go.RowKit kit
set_option maxRecDepth 100000

abbrev ckCells : Array Value := #[.int .i64 11, .int .i64 0, .int .u32 0, .int .i64 0, .int .i64 0, .int .u32 0, .string ⟨#[]⟩, .int .u32 0, .int .u32 0, .int .i64 0, .int .i64 0, .slice none 0 0, .slice none 0 0, .slice none 0 0, .slice none 0 0]
abbrev ck : Value := .agg ckCells

theorem begins_ck (w : World) : Calls Try.prog 108 #[.int .i64 11] w fun e w' => e = .returned (.bool false) ∧ Below w.heap.size w w' := by
  go_enter Try.func108, Try.ntmps108
  go_wp2
  go_ret
  exact ⟨rfl, Below.refl _ _⟩
theorem flagsMay_ck (w : World) : Calls Try.prog 103 #[.int .i64 11, .int .i64 0] w fun e w' => e = .returned (.bool true) ∧ Below w.heap.size w w' := by
  have hK := fun w => known_any 11 w
  rw [show knB 11 = true from rfl] at hK
  go_enter Try.func103, Try.ntmps103
  go_wp2_with (go_at_call 47; refine (hK _).mono ?_; rintro e w1 ⟨rfl, hb1⟩)
  go_ret
  exact ⟨rfl, hb1⟩
theorem rising_nil (w : World) : Calls Try.prog 107 #[.slice none 0 0] w fun e w' => e = .returned (.bool true) ∧ Below w.heap.size w w' := by
  go_enter Try.func107, Try.ntmps107
  go_wp2
  refine wp_loop_rounds 1 ?_
  rw [rounds_succ]
  go_wp2
  go_ret
  exact ⟨rfl, Below.refl _ _⟩
theorem idxP_nil (v : Value) (w : World) : Calls Try.prog 122 #[.slice none 0 0, v] w fun e w' => e = .returned (.int .i64 (-1)) ∧ Below w.heap.size w w' := by
  go_enter Try.func122, Try.ntmps122
  go_wp2
  refine wp_loop_rounds 1 ?_
  rw [rounds_succ]
  go_wp2
  go_ret
  exact ⟨rfl, Below.refl _ _⟩
theorem idxC_nil (v : Value) (w : World) : Calls Try.prog 123 #[.slice none 0 0, v] w fun e w' => e = .returned (.int .i64 (-1)) ∧ Below w.heap.size w w' := by
  go_enter Try.func123, Try.ntmps123
  go_wp2
  refine wp_loop_rounds 1 ?_
  rw [rounds_succ]
  go_wp2
  go_ret
  exact ⟨rfl, Below.refl _ _⟩
theorem hasP_nil (v : Value) (w : World) : Calls Try.prog 116 #[.slice none 0 0, v] w fun e w' => e = .returned (.bool false) ∧ Below w.heap.size w w' := by
  go_enter Try.func116, Try.ntmps116
  go_wp2_with fail
  refine (idxP_nil _ _).mono ?_
  rintro e w1 ⟨rfl, hb1⟩
  go_wp2
  go_ret
  exact ⟨rfl, hb1⟩
theorem hasC_nil (v : Value) (w : World) : Calls Try.prog 118 #[.slice none 0 0, v] w fun e w' => e = .returned (.bool false) ∧ Below w.heap.size w w' := by
  go_enter Try.func118, Try.ntmps118
  go_wp2_with fail
  refine (idxC_nil _ _).mono ?_
  rintro e w1 ⟨rfl, hb1⟩
  go_wp2
  go_ret
  exact ⟨rfl, hb1⟩
theorem paramsMay_nil (w : World) : Calls Try.prog 105 #[.slice none 0 0] w fun e w' => e = .returned (.bool true) ∧ Below w.heap.size w w' := by
  go_enter Try.func105, Try.ntmps105
  go_wp2_with fail
  refine (hasP_nil _ _).mono ?_
  rintro e w1 ⟨rfl, hb1⟩
  go_wp2
  go_ret
  exact ⟨rfl, hb1⟩
theorem causesMay_nil (w : World) : Calls Try.prog 106 #[.slice none 0 0] w fun e w' => e = .returned (.bool true) ∧ Below w.heap.size w w' := by
  go_enter Try.func106, Try.ntmps106
  go_wp2_with fail
  refine (hasC_nil _ _).mono ?_
  rintro e w1 ⟨rfl, hb1⟩
  go_wp2
  go_ret
  exact ⟨rfl, hb1⟩
theorem cl16 (w : World) : Calls Try.prog 115 #[.int .i64 0] w fun e w' => e = .returned (.bool false) ∧ Below w.heap.size w w' := by
  go_enter Try.func115, Try.ntmps115
  go_wp2
  go_ret
  exact ⟨rfl, Below.refl _ _⟩
theorem body_ck (w : World) : Calls Try.prog 86 #[ck] w fun e w' => e = .returned (.string ⟨#[]⟩) ∧ Below w.heap.size w w' := by
  go_enter Try.func86, Try.ntmps86
  go_wp2
  go_ret
  exact ⟨rfl, (Below.refl _ _).alloc (Nat.le_refl _) _⟩
theorem few_ck (w : World) : Calls Try.prog 96 #[ck] w fun e w' => e = .returned (.bool true) ∧ Below w.heap.size w w' := by
  go_enter Try.func96, Try.ntmps96
  go_wp2
  go_ret
  exact ⟨rfl, (Below.refl _ _).alloc (Nat.le_refl _) _⟩
theorem bare_ck (w : World) : Calls Try.prog 109 #[ck] w fun e w' => e = .returned (.bool true) ∧ Below w.heap.size w w' := by
  go_enter Try.func109, Try.ntmps109
  go_wp2
  go_ret
  exact ⟨rfl, (Below.refl _ _).alloc (Nat.le_refl _) _⟩
theorem cl16' (w : World) : Calls Try.prog 115 (#[.int .i64 0] ++ #[]) w fun e w' => e = .returned (.bool false) ∧ Below w.heap.size w w' := cl16 w
theorem idx16 (g c : Nat) (w : World) (hg : g < w.heap.size) (hc : 4 ≤ c) (hc' : c ≤ 1000) (h0 : w.cell? ⟨g, 0, none⟩ = some (.int .i64 0)) (h1 : w.cell? ⟨g, 1, none⟩ = some (.int .i64 0)) (h2 : w.cell? ⟨g, 2, none⟩ = some (.int .i64 0)) (h3 : w.cell? ⟨g, 3, none⟩ = some (.int .i64 0)) :
    Calls Try.prog 121 #[.slice (some ⟨g, 0, none⟩) 4 c, .func (.func 115) #[] #[]] w fun e w' => e = .returned (.int .i64 (-1)) ∧ Below w.heap.size w w' := by
  have hcl := cl16'
  have bel0 := Below.refl w.heap.size w
  go_enter Try.func121, Try.ntmps121
  go_wp2
  refine wp_loop_rounds 5 ?_
  rw [rounds_succ]
  go_wp2_with fail
  refine (hcl _).mono ?_
  rintro e w1 ⟨rfl, hb1⟩
  have bel1 := bel0.trans (hb1.mono bel0.size)
  have a1 := (bel1.cell (p := ⟨g, 1, none⟩) hg).trans h1
  have b1 := (bel1.cell (p := ⟨g, 2, none⟩) hg).trans h2
  have c1 := (bel1.cell (p := ⟨g, 3, none⟩) hg).trans h3
  go_wp2_with fail
  rw [rounds_succ]
  go_wp2_with fail
  refine (hcl _).mono ?_
  rintro e w2 ⟨rfl, hb2⟩
  have bel2 := bel1.trans (hb2.mono bel1.size)
  have a2 := (bel2.cell (p := ⟨g, 1, none⟩) hg).trans h1
  have b2 := (bel2.cell (p := ⟨g, 2, none⟩) hg).trans h2
  have c2 := (bel2.cell (p := ⟨g, 3, none⟩) hg).trans h3
  go_wp2_with fail
  rw [rounds_succ]
  go_wp2_with fail
  refine (hcl _).mono ?_
  rintro e w3 ⟨rfl, hb3⟩
  have bel3 := bel2.trans (hb3.mono bel2.size)
  have a3 := (bel3.cell (p := ⟨g, 1, none⟩) hg).trans h1
  have b3 := (bel3.cell (p := ⟨g, 2, none⟩) hg).trans h2
  have c3 := (bel3.cell (p := ⟨g, 3, none⟩) hg).trans h3
  go_wp2_with fail
  rw [rounds_succ]
  go_wp2_with fail
  refine (hcl _).mono ?_
  rintro e w4 ⟨rfl, hb4⟩
  have bel4 := bel3.trans (hb4.mono bel3.size)
  have a4 := (bel4.cell (p := ⟨g, 1, none⟩) hg).trans h1
  have b4 := (bel4.cell (p := ⟨g, 2, none⟩) hg).trans h2
  have c4 := (bel4.cell (p := ⟨g, 3, none⟩) hg).trans h3
  go_wp2_with fail
  rw [rounds_succ]
  go_wp2_with fail
  go_ret
  exact ⟨rfl, bel4⟩
theorem has16 (g c : Nat) (w : World) (hg : g < w.heap.size) (hc : 4 ≤ c) (hc' : c ≤ 1000) (h0 : w.cell? ⟨g, 0, none⟩ = some (.int .i64 0)) (h1 : w.cell? ⟨g, 1, none⟩ = some (.int .i64 0)) (h2 : w.cell? ⟨g, 2, none⟩ = some (.int .i64 0)) (h3 : w.cell? ⟨g, 3, none⟩ = some (.int .i64 0)) :
    Calls Try.prog 114 #[.slice (some ⟨g, 0, none⟩) 4 c, .func (.func 115) #[] #[]] w fun e w' => e = .returned (.bool false) ∧ Below w.heap.size w w' := by
  have hI := idx16 g c w hg hc hc' h0 h1 h2 h3
  go_enter Try.func114, Try.ntmps114
  go_wp2_with fail
  refine hI.mono ?_
  rintro e w1 ⟨rfl, hb1⟩
  go_wp2
  go_ret
  exact ⟨rfl, hb1⟩
theorem within_4 (g c : Nat) (w : World) (hg : g < w.heap.size) (hc : 4 ≤ c) (hc' : c ≤ 1000) (h0 : w.cell? ⟨g, 0, none⟩ = some (.int .i64 0)) (h1 : w.cell? ⟨g, 1, none⟩ = some (.int .i64 0)) (h2 : w.cell? ⟨g, 2, none⟩ = some (.int .i64 0)) (h3 : w.cell? ⟨g, 3, none⟩ = some (.int .i64 0)) :
    Calls Try.prog 104 #[.slice (some ⟨g, 0, none⟩) 4 c] w fun e w' => e = .returned (.bool true) ∧ Below w.heap.size w w' := by
  have hI := has16 g c w hg hc hc' h0 h1 h2 h3
  go_enter Try.func104, Try.ntmps104
  go_wp2_with fail
  refine hI.mono ?_
  rintro e w1 ⟨rfl, hb1⟩
  go_wp2
  go_ret
  exact ⟨rfl, hb1⟩
end Go.Proofs.Ytlpklnjnfeodaaa.chk
