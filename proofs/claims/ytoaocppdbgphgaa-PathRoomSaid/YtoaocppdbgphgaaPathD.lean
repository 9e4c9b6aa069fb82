/- Layer 14: the statement on a path's room. -/
import Derived.Test.YtoaocppdbgphgaaPathC
import Derived.RegionTactic
import Derived.BigRegion
import Derived.Outline
namespace Go.Proofs.Ytoaocppdbgphgaa.path
open Go.ChangeShapes Go.WideShapes Go.ChangeAt Go.RowKit kit

set_option maxRecDepth 100000 in
set_option maxHeartbeats 2000000 in
theorem law_any (lo pe st er me va wa : Int) (kn : Bool) (cw ss pa fl ba be bs : Int) (w : World) :
    Calls Try.prog 5 #[.agg #[.int .u32 lo, .int .u32 pe, .int .i64 st, .int .i64 er, .int .i64 me, .int .i64 va, .int .i64 wa, .bool kn, .int .i64 cw, .int .i64 ss, .int .i64 pa, .int .i64 fl, .int .i64 ba, .int .u32 be, .int .i64 bs]] w fun e w' => e = .returned (.bool true) ∧ Below w.heap.size w w' := by
  obtain ⟨c, hc, c1, c2⟩ : ∃ c : Int, bits .and .i64 cw 65535 = c ∧ 0 ≤ c ∧ c ≤ 65535 := ⟨cw % 65536, i64_mask cw 16 (by omega), by omega, by omega⟩
  obtain ⟨f, hf, f1, f2⟩ : ∃ f : Int, bits .and .i64 fl 65535 = f ∧ 0 ≤ f ∧ f ≤ 65535 := ⟨fl % 65536, i64_mask fl 16 (by omega), by omega, by omega⟩
  have hr0 := fun w => room_any lo pe st er me va wa kn c ss pa f ba be bs w c1 c2 f1 f2
  go_enter Try.func5, Try.ntmps5
  go_wp2
  have B1 : Blk ((w.alloc (.cells #[.int .u32 lo, .int .u32 pe, .int .i64 st, .int .i64 er, .int .i64 me, .int .i64 va, .int .i64 wa, .bool kn, .int .i64 cw, .int .i64 ss, .int .i64 pa, .int .i64 fl, .int .i64 ba, .int .u32 be, .int .i64 bs] 35)).alloc (.cells #[.int .u32 lo, .int .u32 pe, .int .i64 st, .int .i64 er, .int .i64 me, .int .i64 va, .int .i64 wa, .bool kn, .int .i64 cw, .int .i64 ss, .int .i64 pa, .int .i64 fl, .int .i64 ba, .int .u32 be, .int .i64 bs] 35)) w.heap.size 35 #[.int .u32 lo, .int .u32 pe, .int .i64 st, .int .i64 er, .int .i64 me, .int .i64 va, .int .i64 wa, .bool kn, .int .i64 cw, .int .i64 ss, .int .i64 pa, .int .i64 fl, .int .i64 ba, .int .u32 be, .int .i64 bs] := (Blk.new w 35 _).alloc _
  have B2 : Blk ((w.alloc (.cells #[.int .u32 lo, .int .u32 pe, .int .i64 st, .int .i64 er, .int .i64 me, .int .i64 va, .int .i64 wa, .bool kn, .int .i64 cw, .int .i64 ss, .int .i64 pa, .int .i64 fl, .int .i64 ba, .int .u32 be, .int .i64 bs] 35)).alloc (.cells #[.int .u32 lo, .int .u32 pe, .int .i64 st, .int .i64 er, .int .i64 me, .int .i64 va, .int .i64 wa, .bool kn, .int .i64 cw, .int .i64 ss, .int .i64 pa, .int .i64 fl, .int .i64 ba, .int .u32 be, .int .i64 bs] 35)) (w.heap.size + 1) 35 #[.int .u32 lo, .int .u32 pe, .int .i64 st, .int .i64 er, .int .i64 me, .int .i64 va, .int .i64 wa, .bool kn, .int .i64 cw, .int .i64 ss, .int .i64 pa, .int .i64 fl, .int .i64 ba, .int .u32 be, .int .i64 bs] := by simpa using Blk.new (w.alloc (.cells #[.int .u32 lo, .int .u32 pe, .int .i64 st, .int .i64 er, .int .i64 me, .int .i64 va, .int .i64 wa, .bool kn, .int .i64 cw, .int .i64 ss, .int .i64 pa, .int .i64 fl, .int .i64 ba, .int .u32 be, .int .i64 bs] 35)) 35 #[.int .u32 lo, .int .u32 pe, .int .i64 st, .int .i64 er, .int .i64 me, .int .i64 va, .int .i64 wa, .bool kn, .int .i64 cw, .int .i64 ss, .int .i64 pa, .int .i64 fl, .int .i64 ba, .int .u32 be, .int .i64 bs]
  have bel : Below w.heap.size w ((w.alloc (.cells #[.int .u32 lo, .int .u32 pe, .int .i64 st, .int .i64 er, .int .i64 me, .int .i64 va, .int .i64 wa, .bool kn, .int .i64 cw, .int .i64 ss, .int .i64 pa, .int .i64 fl, .int .i64 ba, .int .u32 be, .int .i64 bs] 35)).alloc (.cells #[.int .u32 lo, .int .u32 pe, .int .i64 st, .int .i64 er, .int .i64 me, .int .i64 va, .int .i64 wa, .bool kn, .int .i64 cw, .int .i64 ss, .int .i64 pa, .int .i64 fl, .int .i64 ba, .int .u32 be, .int .i64 bs] 35)) := ((Below.refl _ _).alloc (Nat.le_refl _) _).alloc (by simp) _
  generalize (w.alloc (.cells #[.int .u32 lo, .int .u32 pe, .int .i64 st, .int .i64 er, .int .i64 me, .int .i64 va, .int .i64 wa, .bool kn, .int .i64 cw, .int .i64 ss, .int .i64 pa, .int .i64 fl, .int .i64 ba, .int .u32 be, .int .i64 bs] 35)).alloc (.cells #[.int .u32 lo, .int .u32 pe, .int .i64 st, .int .i64 er, .int .i64 me, .int .i64 va, .int .i64 wa, .bool kn, .int .i64 cw, .int .i64 ss, .int .i64 pa, .int .i64 fl, .int .i64 ba, .int .u32 be, .int .i64 bs] 35) = w2 at *
  have C1 := fun i => B1.cell i
  have C2 := fun i => B2.cell i
  have F2 := fun i => B2.frozen i
  have hz := B2.lt
  go_region
  all_goals
    clear hc hf C1 C2 F2
    have B3' := (B2.set_ 8 (.int .i64 c)).set_ 11 (.int .i64 f)
    have B3 : Blk ((w2.setCell ⟨w.heap.size + 1, 8, none⟩ (.int .i64 c)).setCell ⟨w.heap.size + 1, 11, none⟩ (.int .i64 f)) (w.heap.size + 1) 35 #[.int .u32 lo, .int .u32 pe, .int .i64 st, .int .i64 er, .int .i64 me, .int .i64 va, .int .i64 wa, .bool kn, .int .i64 c, .int .i64 ss, .int .i64 pa, .int .i64 f, .int .i64 ba, .int .u32 be, .int .i64 bs] := by simpa using B3'
    have bel3 := (bel.setCell (p := ⟨w.heap.size + 1, 8, none⟩) (by simp) (.int .i64 c)).setCell (p := ⟨w.heap.size + 1, 11, none⟩) (by simp) (.int .i64 f)
    clear B3' B2 B1 bel hz
    generalize (w2.setCell ⟨w.heap.size + 1, 8, none⟩ (.int .i64 c)).setCell ⟨w.heap.size + 1, 11, none⟩ (.int .i64 f) = w3 at *
    have C3 := fun i => B3.cell i
    rcases (by omega : (f = 0 ∧ c < 600) ∨ (f = 0 ∧ 600 ≤ c) ∨ (0 < f ∧ c < f) ∨ (0 < f ∧ f ≤ c)) with ⟨rfl, q⟩ | ⟨rfl, q⟩ | ⟨q1, q⟩ | ⟨q1, q⟩
    · have hr : ∀ w, Calls Try.prog 21 #[.agg #[.int .u32 lo, .int .u32 pe, .int .i64 st, .int .i64 er, .int .i64 me, .int .i64 va, .int .i64 wa, .bool kn, .int .i64 c, .int .i64 ss, .int .i64 pa, .int .i64 0, .int .i64 ba, .int .u32 be, .int .i64 bs]] w fun e w' => e = .returned (.int .i64 600) ∧ Below w.heap.size w w' := fun w => by have h := hr0 w; rw [if_pos rfl, show max c 600 = 600 by omega] at h; exact h
      clear hr0
      go_wp2_with (first | (go_at_call 20; refine (awake_any _).mono ?_; rintro e w5 ⟨rfl, hb5⟩; have B5 := B3.drew.below hb5 B3.lt; have C5 := fun i => B5.cell i; have bel5 := bel3.drew.trans (hb5.mono bel3.size)) | (go_at_call 21; refine (hr _).mono ?_; rintro e w6 ⟨rfl, hb6⟩; have bel6 := bel5.trans (hb6.mono bel5.size)))
      go_ret
      exact ⟨rfl, bel6⟩
    · have hr : ∀ w, Calls Try.prog 21 #[.agg #[.int .u32 lo, .int .u32 pe, .int .i64 st, .int .i64 er, .int .i64 me, .int .i64 va, .int .i64 wa, .bool kn, .int .i64 c, .int .i64 ss, .int .i64 pa, .int .i64 0, .int .i64 ba, .int .u32 be, .int .i64 bs]] w fun e w' => e = .returned (.int .i64 c) ∧ Below w.heap.size w w' := fun w => by have h := hr0 w; rw [if_pos rfl, show max c 600 = c by omega] at h; exact h
      clear hr0
      go_wp2_with (first | (go_at_call 20; refine (awake_any _).mono ?_; rintro e w5 ⟨rfl, hb5⟩; have B5 := B3.drew.below hb5 B3.lt; have C5 := fun i => B5.cell i; have bel5 := bel3.drew.trans (hb5.mono bel3.size)) | (go_at_call 21; refine (hr _).mono ?_; rintro e w6 ⟨rfl, hb6⟩; have bel6 := bel5.trans (hb6.mono bel5.size)))
      go_ret
      exact ⟨rfl, bel6⟩
    · have hr : ∀ w, Calls Try.prog 21 #[.agg #[.int .u32 lo, .int .u32 pe, .int .i64 st, .int .i64 er, .int .i64 me, .int .i64 va, .int .i64 wa, .bool kn, .int .i64 c, .int .i64 ss, .int .i64 pa, .int .i64 f, .int .i64 ba, .int .u32 be, .int .i64 bs]] w fun e w' => e = .returned (.int .i64 0) ∧ Below w.heap.size w w' := fun w => by have h := hr0 w; rw [if_neg (by omega), show max 0 (c - f) = 0 by omega] at h; exact h
      clear hr0
      go_wp2_with (first | (go_at_call 20; refine (awake_any _).mono ?_; rintro e w5 ⟨rfl, hb5⟩; have B5 := B3.drew.below hb5 B3.lt; have C5 := fun i => B5.cell i; have bel5 := bel3.drew.trans (hb5.mono bel3.size)) | (go_at_call 21; refine (hr _).mono ?_; rintro e w6 ⟨rfl, hb6⟩; have bel6 := bel5.trans (hb6.mono bel5.size)))
      go_ret
      exact ⟨rfl, bel6⟩
    · have hr : ∀ w, Calls Try.prog 21 #[.agg #[.int .u32 lo, .int .u32 pe, .int .i64 st, .int .i64 er, .int .i64 me, .int .i64 va, .int .i64 wa, .bool kn, .int .i64 c, .int .i64 ss, .int .i64 pa, .int .i64 f, .int .i64 ba, .int .u32 be, .int .i64 bs]] w fun e w' => e = .returned (.int .i64 (c - f)) ∧ Below w.heap.size w w' := fun w => by have h := hr0 w; rw [if_neg (by omega), show max 0 (c - f) = c - f by omega] at h; exact h
      clear hr0
      go_wp2_with (first | (go_at_call 20; refine (awake_any _).mono ?_; rintro e w5 ⟨rfl, hb5⟩; have B5 := B3.drew.below hb5 B3.lt; have C5 := fun i => B5.cell i; have bel5 := bel3.drew.trans (hb5.mono bel3.size)) | (go_at_call 21; refine (hr _).mono ?_; rintro e w6 ⟨rfl, hb6⟩; have bel6 := bel5.trans (hb6.mono bel5.size)))
      go_ret
      exact ⟨rfl, bel6⟩

set_option maxRecDepth 100000 in
theorem law_open {H : Type} {enc : TypeId × Value → H} {W : World} {base : Nat} {v0 : Value} {d0 : DataW H} {p0 : List MemPlace}
    (o0 : Value.okWide Try.prog W .any base 35 v0) (h0 : DataW.Trod enc Try.prog W 0 (fun _ => true) true 35 v0 d0 p0) :
    Calls Try.prog 5 #[v0] W fun e w' => e = .returned (.bool true) ∧ Below W.heap.size W w' := by
  obtain ⟨l, rfl, F0⟩ := open_struct 4 (sh := [.int .u32, .int .u32, .int .i64, .int .i64, .int .i64, .int .i64, .int .i64, .bool, .int .i64, .int .i64, .int .i64, .int .i64, .int .i64, .int .u32, .int .i64]) Try.underlying35 (by kernel_rfl) (by kernel_rfl) o0 h0
  obtain ⟨lo, l0, rfl, _, F1⟩ := F0.int
  obtain ⟨pe, l1, rfl, _, F2⟩ := F1.int
  obtain ⟨st, l2, rfl, _, F3⟩ := F2.int
  obtain ⟨er, l3, rfl, _, F4⟩ := F3.int
  obtain ⟨me, l4, rfl, _, F5⟩ := F4.int
  obtain ⟨va, l5, rfl, _, F6⟩ := F5.int
  obtain ⟨wa, l6, rfl, _, F7⟩ := F6.int
  obtain ⟨kn, l7, rfl, F8⟩ := F7.bool
  obtain ⟨cw, l8, rfl, _, F9⟩ := F8.int
  obtain ⟨ss, l9, rfl, _, F10⟩ := F9.int
  obtain ⟨pa, l10, rfl, _, F11⟩ := F10.int
  obtain ⟨fl, l11, rfl, _, F12⟩ := F11.int
  obtain ⟨ba, l12, rfl, _, F13⟩ := F12.int
  obtain ⟨be, l13, rfl, _, F14⟩ := F13.int
  obtain ⟨bs, l14, rfl, _, F15⟩ := F14.int
  obtain rfl := F15.nil
  exact law_any lo pe st er me va wa kn cw ss pa fl ba be bs W
end Go.Proofs.Ytoaocppdbgphgaa.path
