/- Layer 18: a message put at its place in a stream. -/
import Derived.Test.YthddacgdmngfhaaDvA
namespace Go.Proofs.Ythddacgdmngfhaa.del
open Go.Sort (grow)
open Go.ChangeShapes Go.WideShapes Go.ChangeAt Go.RowKit kit
set_option maxRecDepth 100000

theorem wrap_plc (x : Mg) : IntKind.u16.wrap x.ss = (plc x : Int) := by rw [plc_cast]; rfl
set_option maxHeartbeats 2000000 in
theorem dput_new (h o m c n : Nat) (x : Mg) (hn : n < 65536) (hfar : far16 (plc x) n ≤ 32768) (es : Array MapEntry) (hf : Instr.findNow (.int .u16) (.int .u16 (plc x : Nat)) es.toList 0 = some none) (w : World) (C : Cel w h o (st (n : Nat) m)) (M : MapB w m es c) :
    Calls Try.prog 103 #[.pointer (some ⟨h, o, none⟩), .agg (mgc x)] w fun e w' => e = .returned (.bool true) ∧ MapB w' m (es.push ⟨.int .u16 (plc x : Nat), .agg (mgc x), c⟩) (c + 1) ∧ Only m w w' ∧ ∀ b0, b0 ≤ m → Below b0 w w' := by
  have hw16 := wrap_plc x
  have hp := plc_lt x
  have hless := less16_gen (plc x) n hp hn
  rw [decide_eq_false (by omega)] at hless
  obtain ⟨s, ss, lo, pr, d⟩ := x
  obtain ⟨p, hpe⟩ : ∃ p, plc ⟨s, ss, lo, pr, d⟩ = p := ⟨_, rfl⟩
  rw [hpe] at hf hw16 hless ⊢
  clear hpe hp hfar
  have X1 := Blk.new w 30 (ms s ss lo pr d)
  have C1 := C.alloc (.cells (ms s ss lo pr d) 30)
  have M1 := M.alloc (.cells (ms s ss lo pr d) 30)
  have O1 : Only m w (w.alloc (.cells (ms s ss lo pr d) 30)) := (Only.refl m w).alloc _
  have bel1 : Below w.heap.size w (w.alloc (.cells (ms s ss lo pr d) 30)) := (Below.refl _ _).alloc (Nat.le_refl _) _
  have hml := M.lt
  have hhl := C.lt
  have hw16' : IntKind.u16.wrap ss = (p : Int) := hw16
  clear hw16
  go_enter Try.func103, Try.ntmps103
  go_upto_region 1 with (fail)
  clear M C
  have hmsE : w.alloc (.cells (mgc ⟨s, ss, lo, pr, d⟩) 30) = w.alloc (.cells (ms s ss lo pr d) 30) := rfl
  try rw [hmsE]
  generalize w.alloc (.cells (ms s ss lo pr d) 30) = w1 at *
  have x0 : w1.cell? ⟨w.heap.size, 0, none⟩ = some (.int .i64 s) := X1.cell 0
  have x1 : w1.cell? ⟨w.heap.size, 1, none⟩ = some (.int .i64 ss) := X1.cell 1
  have c0 : w1.cell? ⟨h, o, none⟩ = some (.int .u16 n) := C1.cell 0 (u := .int .u16 n) rfl
  have c1 : w1.cell? ⟨h, o + 1, none⟩ = some (.map (some m)) := C1.cell 1 (u := .map (some m)) rfl
  have lk1 : (Instr.lookup 200 (.map (some m)) (.int .u16 p) true).run Try.prog w1 = .ok (.tuple #[.agg #[.int .i64 0, .int .i64 0, .bool false, .int .u32 0, .string ⟨#[]⟩], .bool false]) w1 := lk_none uM uK M1 (zeroM _) hf
  go_upto_region 3 with (fail)
  have X2 := X1.alloc (.cells #[.int .i64 0, .int .i64 0, .bool false, .int .u32 0, .string ⟨#[]⟩] 30)
  have C2 := C1.alloc (.cells #[.int .i64 0, .int .i64 0, .bool false, .int .u32 0, .string ⟨#[]⟩] 30)
  have M2 := M1.alloc (.cells #[.int .i64 0, .int .i64 0, .bool false, .int .u32 0, .string ⟨#[]⟩] 30)
  have O2 := O1.alloc (.cells #[.int .i64 0, .int .i64 0, .bool false, .int .u32 0, .string ⟨#[]⟩] 30)
  have bel2 := bel1.alloc bel1.size (.cells #[.int .i64 0, .int .i64 0, .bool false, .int .u32 0, .string ⟨#[]⟩] 30)
  clear X1 C1 M1 O1 bel1 x0 x1 c0 c1 lk1
  generalize w1.alloc (.cells #[.int .i64 0, .int .i64 0, .bool false, .int .u32 0, .string ⟨#[]⟩] 30) = w2 at *
  have c0 : w2.cell? ⟨h, o, none⟩ = some (.int .u16 n) := C2.cell 0 (u := .int .u16 n) rfl
  go_wp2_with fail
  refine (hless _).mono ?_
  rintro e w2 ⟨rfl, rfl⟩
  go_upto_region 5 with (fail)
  have c1 : w2.cell? ⟨h, o + 1, none⟩ = some (.map (some m)) := C2.cell 1 (u := .map (some m)) rfl
  have x0 : w2.cell? ⟨w.heap.size, 0, none⟩ = some (.int .i64 s) := X2.cell 0
  have x1 : w2.cell? ⟨w.heap.size, 1, none⟩ = some (.int .i64 ss) := X2.cell 1
  have x2 : w2.cell? ⟨w.heap.size, 2, none⟩ = some (.bool lo) := X2.cell 2
  have x3 : w2.cell? ⟨w.heap.size, 3, none⟩ = some (.int .u32 pr) := X2.cell 3
  have x4 : w2.cell? ⟨w.heap.size, 4, none⟩ = some (.string d) := X2.cell 4
  have u1 : (Instr.mapUpdate 200 (.map (some m)) (.int .u16 p) (.agg #[.int .i64 s, .int .i64 ss, .bool lo, .int .u32 pr, .string d])).run Try.prog w2 = .ok () (Go.ChangeMaps.setBlock w2 m (.map (es.push ⟨.int .u16 p, .agg (ms s ss lo pr d), c⟩) (c + 1))) := up_new uM uK M2 _ hf
  have u2 : (Instr.mapUpdate 200 (.map (some m)) (.int .u16 p) (.agg #[.int .i64 s, .int .i64 ss, .bool lo, .int .u32 pr, .string d])).run Try.prog w2.drew = .ok () (Go.ChangeMaps.setBlock w2.drew m (.map (es.push ⟨.int .u16 p, .agg (ms s ss lo pr d), c⟩) (c + 1))) := up_new uM uK M2.drew _ hf
  go_region
  all_goals
    go_wp2_with fail
    go_ret
    refine ⟨rfl, M2.set_ _ _, ⟨by rw [show (Go.ChangeMaps.setBlock _ _ _).heap.size = _ from MapB.size _ _ _]; exact O2.size, fun y hk hkm => (M2.other _ _ hkm).trans (O2.block y hk hkm)⟩, fun b0 hb0 => ?_⟩
    exact M2.drew.bel (bel2.drew.mono (by omega)) hb0 _ _
set_option maxHeartbeats 2000000 in
theorem dput_behind (h o m c n : Nat) (x : Mg) (hn : n < 65536) (hfar : 32768 < far16 (plc x) n) (es : Array MapEntry) (hf : Instr.findNow (.int .u16) (.int .u16 (plc x : Nat)) es.toList 0 = some none) (w : World) (C : Cel w h o (st (n : Nat) m)) (M : MapB w m es c) :
    Calls Try.prog 103 #[.pointer (some ⟨h, o, none⟩), .agg (mgc x)] w fun e w' => e = .returned (.bool false) ∧ Below w.heap.size w w' := by
  have hw16 := wrap_plc x
  have hp := plc_lt x
  have hless := less16_gen (plc x) n hp hn
  rw [decide_eq_true hfar] at hless
  obtain ⟨s, ss, lo, pr, d⟩ := x
  obtain ⟨p, hpe⟩ : ∃ p, plc ⟨s, ss, lo, pr, d⟩ = p := ⟨_, rfl⟩
  rw [hpe] at hf hw16 hless
  clear hpe hp hfar
  have X1 := Blk.new w 30 (ms s ss lo pr d)
  have C1 := C.alloc (.cells (ms s ss lo pr d) 30)
  have M1 := M.alloc (.cells (ms s ss lo pr d) 30)
  have bel1 : Below w.heap.size w (w.alloc (.cells (ms s ss lo pr d) 30)) := (Below.refl _ _).alloc (Nat.le_refl _) _
  have hhl := C.lt
  have hw16' : IntKind.u16.wrap ss = (p : Int) := hw16
  clear hw16
  go_enter Try.func103, Try.ntmps103
  go_upto_region 1 with (fail)
  clear M C
  have hmsE : w.alloc (.cells (mgc ⟨s, ss, lo, pr, d⟩) 30) = w.alloc (.cells (ms s ss lo pr d) 30) := rfl
  try rw [hmsE]
  generalize w.alloc (.cells (ms s ss lo pr d) 30) = w1 at *
  have x0 : w1.cell? ⟨w.heap.size, 0, none⟩ = some (.int .i64 s) := X1.cell 0
  have x1 : w1.cell? ⟨w.heap.size, 1, none⟩ = some (.int .i64 ss) := X1.cell 1
  have c0 : w1.cell? ⟨h, o, none⟩ = some (.int .u16 n) := C1.cell 0 (u := .int .u16 n) rfl
  have c1 : w1.cell? ⟨h, o + 1, none⟩ = some (.map (some m)) := C1.cell 1 (u := .map (some m)) rfl
  have lk1 : (Instr.lookup 200 (.map (some m)) (.int .u16 p) true).run Try.prog w1 = .ok (.tuple #[.agg #[.int .i64 0, .int .i64 0, .bool false, .int .u32 0, .string ⟨#[]⟩], .bool false]) w1 := lk_none uM uK M1 (zeroM _) hf
  go_upto_region 3 with (fail)
  have C2 := C1.alloc (.cells #[.int .i64 0, .int .i64 0, .bool false, .int .u32 0, .string ⟨#[]⟩] 30)
  have bel2 := bel1.alloc bel1.size (.cells #[.int .i64 0, .int .i64 0, .bool false, .int .u32 0, .string ⟨#[]⟩] 30)
  clear X1 C1 M1 bel1 x0 x1 c0 c1 lk1
  generalize w1.alloc (.cells #[.int .i64 0, .int .i64 0, .bool false, .int .u32 0, .string ⟨#[]⟩] 30) = w2 at *
  have c0 : w2.cell? ⟨h, o, none⟩ = some (.int .u16 n) := C2.cell 0 (u := .int .u16 n) rfl
  go_wp2_with fail
  refine (hless _).mono ?_
  rintro e w2 ⟨rfl, rfl⟩
  go_wp2_with fail
  go_ret
  exact ⟨rfl, bel2⟩
set_option maxHeartbeats 2000000 in
theorem dput_waits (h o m c n i : Nat) (x y : Mg) (es : Array MapEntry) (hf : Instr.findNow (.int .u16) (.int .u16 (plc x : Nat)) es.toList 0 = some (some (i, .agg (mgc y)))) (w : World) (C : Cel w h o (st (n : Nat) m)) (M : MapB w m es c) :
    Calls Try.prog 103 #[.pointer (some ⟨h, o, none⟩), .agg (mgc x)] w fun e w' => e = .returned (.bool false) ∧ Below w.heap.size w w' := by
  have hw16 := wrap_plc x
  obtain ⟨s, ss, lo, pr, d⟩ := x
  obtain ⟨s', ss', lo', pr', d'⟩ := y
  obtain ⟨p, hpe⟩ : ∃ p, plc ⟨s, ss, lo, pr, d⟩ = p := ⟨_, rfl⟩
  rw [hpe] at hf hw16
  clear hpe
  have X1 := Blk.new w 30 (ms s ss lo pr d)
  have C1 := C.alloc (.cells (ms s ss lo pr d) 30)
  have M1 := M.alloc (.cells (ms s ss lo pr d) 30)
  have bel1 : Below w.heap.size w (w.alloc (.cells (ms s ss lo pr d) 30)) := (Below.refl _ _).alloc (Nat.le_refl _) _
  have hhl := C.lt
  have hw16' : IntKind.u16.wrap ss = (p : Int) := hw16
  clear hw16
  go_enter Try.func103, Try.ntmps103
  go_upto_region 1 with (fail)
  clear M C
  have hmsE : w.alloc (.cells (mgc ⟨s, ss, lo, pr, d⟩) 30) = w.alloc (.cells (ms s ss lo pr d) 30) := rfl
  try rw [hmsE]
  generalize w.alloc (.cells (ms s ss lo pr d) 30) = w1 at *
  have x0 : w1.cell? ⟨w.heap.size, 0, none⟩ = some (.int .i64 s) := X1.cell 0
  have x1 : w1.cell? ⟨w.heap.size, 1, none⟩ = some (.int .i64 ss) := X1.cell 1
  have c0 : w1.cell? ⟨h, o, none⟩ = some (.int .u16 n) := C1.cell 0 (u := .int .u16 n) rfl
  have c1 : w1.cell? ⟨h, o + 1, none⟩ = some (.map (some m)) := C1.cell 1 (u := .map (some m)) rfl
  have lk1 : (Instr.lookup 200 (.map (some m)) (.int .u16 p) true).run Try.prog w1 = .ok (.tuple #[.agg #[.int .i64 s', .int .i64 ss', .bool lo', .int .u32 pr', .string d'], .bool true]) w1 := lk_some uM uK M1 hf
  go_upto_region 3 with (fail)
  have bel2 := bel1.alloc bel1.size (.cells #[.int .i64 s', .int .i64 ss', .bool lo', .int .u32 pr', .string d'] 30)
  clear X1 C1 M1 bel1 x0 x1 c0 c1 lk1
  generalize w1.alloc (.cells #[.int .i64 s', .int .i64 ss', .bool lo', .int .u32 pr', .string d'] 30) = w2 at *
  go_wp2_with fail
  go_ret
  exact ⟨rfl, bel2⟩
end Go.Proofs.Ythddacgdmngfhaa.del
