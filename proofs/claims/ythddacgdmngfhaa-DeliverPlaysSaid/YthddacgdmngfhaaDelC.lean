/- Layer 18: a message put; what can be read. -/
import Derived.Test.YthddacgdmngfhaaDelB
namespace Go.Proofs.Ythddacgdmngfhaa.del
open Go.Sort (grow)
open Go.ChangeShapes Go.WideShapes Go.ChangeAt Go.RowKit kit
set_option maxRecDepth 100000

/-- Streams of which the first one has a next place and messages that wait. -/
structure Q (b0 g h m : Nat) (n : Int) (es : Array MapEntry) (c : Nat) (rl : Value) (b : Int) (w : World) : Prop where
  B : ∃ cap, Blk w g 199 #[.slice (some ⟨h, 0, none⟩) 2 cap, rl, .int .i64 b] ∧ 2 ≤ cap ∧ cap ≤ maxLen
  C : Cel w h 0 (st n m)
  M : MapB w m es c
  hg : b0 ≤ g
  hh : b0 ≤ h
  hm : b0 ≤ m
  ne1 : h ≠ g
  ne2 : m ≠ g
  ne3 : m ≠ h
theorem Q.below {b0 g h m c k : Nat} {n b : Int} {es : Array MapEntry} {rl : Value} {w w' : World} (q : Q b0 g h m n es c rl b w) (hb : Below k w w') (hk : w.heap.size ≤ k) : Q b0 g h m n es c rl b w' := by
  obtain ⟨⟨cap, B, h1, h2⟩, C, M, a1, a2, a3, a4, a5, a6⟩ := q
  exact ⟨⟨cap, B.below hb (by have := B.lt; omega), h1, h2⟩, C.below hb (by have := C.lt; omega), M.below hb (by have := M.lt; omega), a1, a2, a3, a4, a5, a6⟩
theorem new_two (w : World) : Calls Try.prog 49 #[.int .i64 2] w fun e w' => e = .returned (.pointer (some ⟨w.heap.size, 0, none⟩)) ∧ (∃ h m, Q w.heap.size w.heap.size h m 0 #[] 0 (.slice none 0 0) 0 w') ∧ Below w.heap.size w w' := by
  have B := Blk.new w 199 #[.slice none 0 0, .slice none 0 0, .int .i64 0]
  have bel := (Below.refl w.heap.size w).alloc (Nat.le_refl _) (.cells #[.slice none 0 0, .slice none 0 0, .int .i64 0] 199)
  have hs : (w.alloc (.cells #[.slice none 0 0, .slice none 0 0, .int .i64 0] 199)).heap.size = w.heap.size + 1 := by simp
  go_enter Try.func49, Try.ntmps49
  go_wp2_with fail
  generalize w.alloc (.cells #[.slice none 0 0, .slice none 0 0, .int .i64 0] 199) = w1 at *
  refine (grow_two w.heap.size w.heap.size _ _ w1 (Nat.le_refl _) B).mono ?_
  rintro e w2 ⟨rfl, ⟨h, cap, m, k, B2, C0, C1, M0, M1, hc0, hc1, hh, hm, hk⟩, bel2⟩
  go_wp2_with fail
  go_ret
  have hmh : m ≠ h := by
    intro e
    subst e
    obtain ⟨_, hc⟩ := C0
    have h1 : w2.heap[m]? = some (.map #[] 0) := M0
    have h2 := (hc 0 _ rfl).1
    unfold World.cell? at h2
    rw [h1] at h2
    cases h2
  exact ⟨rfl, ⟨h, m, ⟨cap, B2, hc0, hc1⟩, C0, M0, Nat.le_refl _, by omega, by omega, by omega, by omega, hmh⟩, bel.trans bel2⟩
theorem many_two (g : Nat) (a : Addr) (cap : Nat) (w : World) (c0 : w.cell? ⟨g, 0, none⟩ = some (.slice (some a) 2 cap)) : Calls Try.prog 57 #[.pointer (some ⟨g, 0, none⟩)] w fun e w' => e = .returned (.int .i64 2) ∧ w' = w := by
  go_enter Try.func57, Try.ntmps57
  go_wp2
  go_ret
  exact ⟨rfl, rfl⟩
theorem ready_of (g : Nat) (s : Option Addr) (n cap : Nat) (w : World) (c1 : w.cell? ⟨g, 1, none⟩ = some (.slice s n cap)) : Calls Try.prog 55 #[.pointer (some ⟨g, 0, none⟩)] w fun e w' => e = .returned (.int .i64 n) ∧ w' = w := by
  go_enter Try.func55, Try.ntmps55
  go_wp2
  go_ret
  exact ⟨rfl, rfl⟩
theorem less16_no (p : Int) (hp : p = 0 ∨ p = 1) (w : World) : Calls Try.prog 156 #[.int .u16 p, .int .u16 0] w fun e w' => e = .returned (.bool false) ∧ w' = w := by
  rcases hp with rfl | rfl
  all_goals
    go_enter Try.func156, Try.ntmps156
    go_wp2
    go_ret
    exact ⟨rfl, rfl⟩
theorem uM : Try.prog.underlying 200 = some (.map 163 30) := by kernel_rfl
theorem uK : Try.prog.underlying 163 = some (.int .u16) := by kernel_rfl
theorem zeroM (w : World) : (zeroValue 30).run Try.prog w = .ok (.agg (ms 0 0 false 0 ⟨#[]⟩)) w := by kernel_rfl
set_option maxHeartbeats 2000000 in
theorem follow_none (g h m c : Nat) (n : Int) (es : Array MapEntry) (hf : Instr.findNow (.int .u16) (.int .u16 n) es.toList 0 = some none) (w : World) (C : Cel w h 0 (st n m)) (M : MapB w m es c) :
    Calls Try.prog 104 #[.pointer (some ⟨g, 0, none⟩), .pointer (some ⟨h, 0, none⟩)] w fun e w' => e = .returned (.tuple #[]) ∧ Below w.heap.size w w' := by
  have c0 : w.cell? ⟨h, 0, none⟩ = some (.int .u16 n) := C.cell0 0 (u := .int .u16 n) rfl
  have c1 : w.cell? ⟨h, 1, none⟩ = some (.map (some m)) := C.cell0 1 (u := .map (some m)) rfl
  have hl := C.lt
  have lk1 : (Instr.lookup 200 (.map (some m)) (.int .u16 n) true).run Try.prog w = .ok (.tuple #[.agg #[.int .i64 0, .int .i64 0, .bool false, .int .u32 0, .string ⟨#[]⟩], .bool false]) w := lk_none uM uK M (zeroM _) hf
  have lk2 : ∀ o, (Instr.lookup 200 (.map (some m)) (.int .u16 n) true).run Try.prog (w.alloc o) = .ok (.tuple #[.agg #[.int .i64 0, .int .i64 0, .bool false, .int .u32 0, .string ⟨#[]⟩], .bool false]) (w.alloc o) := fun o => lk_none uM uK (M.alloc o) (zeroM _) hf
  have lk3 : ∀ o, (Instr.lookup 200 (.map (some m)) (.int .u16 n) true).run Try.prog (w.alloc o).drew = .ok (.tuple #[.agg #[.int .i64 0, .int .i64 0, .bool false, .int .u32 0, .string ⟨#[]⟩], .bool false]) (w.alloc o).drew := fun o => lk_none uM uK (M.alloc o).drew (zeroM _) hf
  have lk4 : (Instr.lookup 200 (.map (some m)) (.int .u16 n) true).run Try.prog w.drew = .ok (.tuple #[.agg #[.int .i64 0, .int .i64 0, .bool false, .int .u32 0, .string ⟨#[]⟩], .bool false]) w.drew := lk_none uM uK M.drew (zeroM _) hf
  go_enter Try.func104, Try.ntmps104
  go_wp2_with fail
  refine wp_loop_rounds 1 ?_
  rw [rounds_succ]
  go_wp2_with fail
  go_region
  all_goals
    go_wp2_with fail
    refine bodyPost_ret (v := .tuple #[]) (by simp [results]) rfl ⟨rfl, ?_⟩
    repeat (first | exact Below.refl _ _ | refine Below.drew ?_ | refine Below.alloc ?_ (by simp) _ | refine Below.setCell ?_ (by simp) _)
set_option maxHeartbeats 2000000 in
theorem stput (h m c : Nat) (p : Int) (hp : p = 0 ∨ p = 1) (D : ByteArray) (es : Array MapEntry) (hf : Instr.findNow (.int .u16) (.int .u16 p) es.toList 0 = some none) (w : World) (C : Cel w h 0 (st 0 m)) (M : MapB w m es c) (hmh : m ≠ h) :
    Calls Try.prog 103 #[.pointer (some ⟨h, 0, none⟩), .agg (ms 0 p false 0 D)] w fun e w' => e = .returned (.bool true) ∧ MapB w' m (es.push ⟨.int .u16 p, .agg (ms 0 p false 0 D), c⟩) (c + 1) ∧ Only m w w' ∧ ∀ b0, b0 ≤ m → Below b0 w w' := by
  have X1 := Blk.new w 30 (ms 0 p false 0 D)
  have C1 := C.alloc (.cells (ms 0 p false 0 D) 30)
  have M1 := M.alloc (.cells (ms 0 p false 0 D) 30)
  have O1 : Only m w (w.alloc (.cells (ms 0 p false 0 D) 30)) := (Only.refl m w).alloc _
  have bel1 : Below w.heap.size w (w.alloc (.cells (ms 0 p false 0 D) 30)) := (Below.refl _ _).alloc (Nat.le_refl _) _
  have hml := M.lt
  have hhl := C.lt
  have hconv : (convert 3 163 (.int .i64 p)).run Try.prog = (convert 3 163 (.int .i64 p)).run Try.prog := rfl
  have hw16 : IntKind.u16.wrap p = p := by rcases hp with rfl | rfl <;> rfl
  go_enter Try.func103, Try.ntmps103
  go_upto_region 1 with (fail)
  generalize w.alloc (.cells (ms 0 p false 0 D) 30) = w1 at *
  clear M C hconv
  have x0 : w1.cell? ⟨w.heap.size, 0, none⟩ = some (.int .i64 0) := X1.cell 0
  have x1 : w1.cell? ⟨w.heap.size, 1, none⟩ = some (.int .i64 p) := X1.cell 1
  have c0 : w1.cell? ⟨h, 0, none⟩ = some (.int .u16 0) := C1.cell0 0 (u := .int .u16 0) rfl
  have c1 : w1.cell? ⟨h, 1, none⟩ = some (.map (some m)) := C1.cell0 1 (u := .map (some m)) rfl
  have lk1 : (Instr.lookup 200 (.map (some m)) (.int .u16 p) true).run Try.prog w1 = .ok (.tuple #[.agg #[.int .i64 0, .int .i64 0, .bool false, .int .u32 0, .string ⟨#[]⟩], .bool false]) w1 := lk_none uM uK M1 (zeroM _) hf
  go_upto_region 3 with (fail)
  have X2 := X1.alloc (.cells #[.int .i64 0, .int .i64 0, .bool false, .int .u32 0, .string ⟨#[]⟩] 30)
  have C2 := C1.alloc (.cells #[.int .i64 0, .int .i64 0, .bool false, .int .u32 0, .string ⟨#[]⟩] 30)
  have M2 := M1.alloc (.cells #[.int .i64 0, .int .i64 0, .bool false, .int .u32 0, .string ⟨#[]⟩] 30)
  have O2 := O1.alloc (.cells #[.int .i64 0, .int .i64 0, .bool false, .int .u32 0, .string ⟨#[]⟩] 30)
  have bel2 := bel1.alloc bel1.size (.cells #[.int .i64 0, .int .i64 0, .bool false, .int .u32 0, .string ⟨#[]⟩] 30)
  clear X1 C1 M1 O1 bel1 x0 x1 c0 c1 lk1
  generalize w1.alloc (.cells #[.int .i64 0, .int .i64 0, .bool false, .int .u32 0, .string ⟨#[]⟩] 30) = w2 at *
  have c0 : w2.cell? ⟨h, 0, none⟩ = some (.int .u16 0) := C2.cell0 0 (u := .int .u16 0) rfl
  go_wp2_with fail
  refine (less16_no p hp _).mono ?_
  rintro e w2 ⟨rfl, rfl⟩
  go_upto_region 5 with (fail)
  have c1 : w2.cell? ⟨h, 1, none⟩ = some (.map (some m)) := C2.cell0 1 (u := .map (some m)) rfl
  have x0 : w2.cell? ⟨w.heap.size, 0, none⟩ = some (.int .i64 0) := X2.cell 0
  have x1 : w2.cell? ⟨w.heap.size, 1, none⟩ = some (.int .i64 p) := X2.cell 1
  have x2 : w2.cell? ⟨w.heap.size, 2, none⟩ = some (.bool false) := X2.cell 2
  have x3 : w2.cell? ⟨w.heap.size, 3, none⟩ = some (.int .u32 0) := X2.cell 3
  have x4 : w2.cell? ⟨w.heap.size, 4, none⟩ = some (.string D) := X2.cell 4
  have u1 : (Instr.mapUpdate 200 (.map (some m)) (.int .u16 p) (.agg #[.int .i64 0, .int .i64 p, .bool false, .int .u32 0, .string D])).run Try.prog w2 = .ok () (Go.ChangeMaps.setBlock w2 m (.map (es.push ⟨.int .u16 p, .agg (ms 0 p false 0 D), c⟩) (c + 1))) := up_new uM uK M2 _ hf
  have u2 : (Instr.mapUpdate 200 (.map (some m)) (.int .u16 p) (.agg #[.int .i64 0, .int .i64 p, .bool false, .int .u32 0, .string D])).run Try.prog w2.drew = .ok () (Go.ChangeMaps.setBlock w2.drew m (.map (es.push ⟨.int .u16 p, .agg (ms 0 p false 0 D), c⟩) (c + 1))) := up_new uM uK M2.drew _ hf
  go_region
  all_goals
    go_wp2_with fail
    go_ret
    refine ⟨rfl, M2.set_ _ _, ⟨by rw [show (Go.ChangeMaps.setBlock _ _ _).heap.size = _ from MapB.size _ _ _]; exact O2.size, fun k hk hkm => (M2.other _ _ hkm).trans (O2.block k hk hkm)⟩, fun b0 hb0 => ?_⟩
    exact M2.drew.bel (bel2.drew.mono (by omega)) hb0 _ _
end Go.Proofs.Ythddacgdmngfhaa.del
