/- Layer 6: the bytes of a chunk that has nothing but its type; and which types are known. -/
import Derived.Test.YtlpklnjnfeodaaaChkB
namespace Go.Proofs.Ytlpklnjnfeodaaa.chk
open Go.ChangeShapes Go.WideShapes Go.ChangeAt Go.RowKit kit oct
set_option maxRecDepth 100000

theorem put_ck (w : World) : Calls Try.prog 69 #[ck] w fun e w' => e = .returned (.string ⟨#[11, 0, 0, 4]⟩) ∧ Below w.heap.size w w' := by
  have h1 := fun w => u8_any 11 w (by omega) (by omega)
  have h2 := fun w => u8_any 0 w (by omega) (by omega)
  have h3 := fun w => u16_any 4 w (by omega) (by omega)
  have h4 := fun w => filled_any ⟨#[11, 0, 0, 4]⟩ w (by decide)
  rw [show strOfNums (be 11 1) = ⟨#[11]⟩ by decide +kernel] at h1
  rw [show strOfNums (be 0 1) = ⟨#[0]⟩ by decide +kernel] at h2
  rw [show strOfNums (be 4 2) = ⟨#[0, 4]⟩ by decide +kernel] at h3
  rw [show filled ⟨#[11, 0, 0, 4]⟩ = ⟨#[11, 0, 0, 4]⟩ by decide +kernel] at h4
  go_enter Try.func69, Try.ntmps69
  go_wp2_with fail
  refine (cmay_ck _).mono ?_
  rintro e w1 ⟨rfl, hb1⟩
  have B1 : Blk w1 w.heap.size 103 ckCells := (Blk.new _ _ _).below hb1 (by simp)
  have bel1 : Below w.heap.size w w1 := ((Below.refl _ _).alloc (Nat.le_refl _) _).trans (hb1.mono (by simp))
  have C1 := fun i => B1.cell i
  go_wp2_with fail
  refine (body_ck _).mono ?_
  rintro e w2 ⟨rfl, hb2⟩
  have B2 := B1.below hb2 B1.lt
  have bel2 := bel1.trans (hb2.mono bel1.size)
  clear C1
  have C2 := fun i => B2.cell i
  have k0 := cell_regrown (B2.cell 0)
  have k1 := cell_regrown (B2.cell 1)
  clear C2
  go_upto_region 4 with fail
  refine wp_region_quiet_below (by kernel_rfl) (by kernel_rfl) ?_
  repeat (any_goals (first | go_big_quiet_step ((first | (go_at_call 87; first | (with_reducible exact Calls.regrown_of (h1 _)) | (with_reducible exact Calls.regrown_of (h2 _))) | (go_at_call 50; exact Calls.regrown_of (h3 _)) | (go_at_call 49; exact Calls.regrown_of (h4 _)))) | quiet_step ((first | (go_at_call 87; first | (with_reducible exact Calls.regrown_of (h1 _)) | (with_reducible exact Calls.regrown_of (h2 _))) | (go_at_call 50; exact Calls.regrown_of (h3 _)) | (go_at_call 49; exact Calls.regrown_of (h4 _))))))
  refine wpQuiet_nil ?_
  intro _ hw'
  obtain ⟨⟨dq, osq⟩, hw''⟩ := hw'
  subst hw''
  go_wp2
  go_ret
  exact ⟨rfl, bel2.trans ((below_regrown _ dq osq).mono bel2.size)⟩
theorem awake6_any (w : World) : Calls Try.prog 46 #[] w fun e w' => e = .returned (.bool true) ∧ Below w.heap.size w w' := by
  go_enter Try.func46, Try.ntmps46
  go_wp2_with fail
  refine (put_ck _).mono ?_
  rintro e w1 ⟨rfl, hb1⟩
  go_wp2_with fail
  go_ret
  exact ⟨rfl, hb1⟩
set_option maxHeartbeats 1000000 in
theorem knows_law (t : Int) (w : World) : Calls Try.prog 11 #[.int .i64 t] w fun e w' => e = .returned (.bool true) ∧ Below w.heap.size w w' := by
  have hm := i64_mask t 8 (by omega)
  obtain ⟨n, hn⟩ : ∃ n, t % (2 ^ 8 : Nat) = n := ⟨_, rfl⟩
  rw [hn] at hm
  simp only [show ((2 ^ 8 - 1 : Nat) : Int) = 255 from rfl] at hm
  have h1 := fun w => known_any n w
  have h2 := fun w => kind_any n w
  generalize knB n = b at *
  go_enter Try.func11, Try.ntmps11
  go_wp2_with fail
  refine (awake6_any _).mono ?_
  rintro e w1 ⟨rfl, hb1⟩
  go_wp2_with fail
  refine (h1 _).mono ?_
  rintro e w2 ⟨rfl, hb2⟩
  go_wp2_with fail
  refine (h2 _).mono ?_
  rintro e w3 ⟨⟨k, rfl, hk⟩, hb3⟩
  have bel2 := hb1.trans (hb2.mono hb1.size)
  go_wp2_with fail
  go_ret
  exact ⟨ret_true (by simp [hk]), bel2.trans (hb3.mono bel2.size)⟩
theorem knows_open {H : Type} {enc : TypeId × Value → H} {W : World} {base : Nat} {v0 : Value} {d0 : DataW H} {p0 : List MemPlace}
    (o0 : Value.okWide Try.prog W .any base 3 v0) (h0 : DataW.Trod enc Try.prog W 0 (fun _ => true) true 3 v0 d0 p0) :
    Calls Try.prog 11 #[v0] W fun e w' => e = .returned (.bool true) ∧ Below W.heap.size W w' := by
  obtain ⟨t, rfl, _, _, _⟩ := open_int Try.underlying3 o0 h0
  exact knows_law t W
end Go.Proofs.Ytlpklnjnfeodaaa.chk
