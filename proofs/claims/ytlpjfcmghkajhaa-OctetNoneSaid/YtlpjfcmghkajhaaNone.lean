/- No reader reads nothing; the first error stays. -/
import Derived.Test.YtlpjfcmghkajhaaReadB
import Derived.Test.YtlpjfcmghkajhaaPuts
namespace Go.Proofs.Ytlpjfcmghkajhaa.oct
open Go.ChangeShapes Go.WideShapes Go.ChangeAt Go.RowKit kit

theorem nErr (w : World) : Calls Try.prog 38 #[.pointer none] w fun x w' => x = .returned (.int .i64 2) ∧ w = w' := by
  go_enter Try.func38, Try.ntmps38
  go_wp2
  go_ret
  exact ⟨rfl, rfl⟩
theorem nLeft (w : World) : Calls Try.prog 39 #[.pointer none] w fun x w' => x = .returned (.int .i64 0) ∧ w = w' := by
  go_enter Try.func39, Try.ntmps39
  go_wp2
  go_ret
  exact ⟨rfl, rfl⟩
theorem nTake (n : Int) (w : World) : Calls Try.prog 34 #[.pointer none, .int .i64 n] w fun x w' => x = .returned (.string ByteArray.empty) ∧ w = w' := by
  go_enter Try.func34, Try.ntmps34
  go_wp2
  go_ret
  exact ⟨rfl, rfl⟩
theorem nFail (e : Int) (w : World) : Calls Try.prog 42 #[.pointer none, .int .i64 e] w fun x w' => x = .returned (.tuple #[]) ∧ w = w' := by
  go_enter Try.func42, Try.ntmps42
  go_wp2
  exact bodyPost_ret (v := .tuple #[]) (by simp [results, Try.results42, go_sem]) rfl ⟨rfl, rfl⟩
theorem nNumber (n : Int) (w : World) : Calls Try.prog 45 #[.pointer none, .int .i64 n] w fun x w' => x = .returned (.int .u64 0) ∧ w = w' := by
  go_enter Try.func45, Try.ntmps45
  go_wp2_with (go_at_call 34; refine (nTake _ _).mono ?_; rintro e w1 ⟨rfl, rfl⟩)
  refine wp_loop_rounds 1 ?_
  rw [rounds_succ]
  go_wp2
  go_ret
  exact ⟨rfl, rfl⟩
theorem nU8 (w : World) : Calls Try.prog 29 #[.pointer none] w fun x w' => x = .returned (.int .i64 0) ∧ w = w' := by
  go_enter Try.func29, Try.ntmps29
  go_wp2_with (go_at_call 45; refine (nNumber _ _).mono ?_; rintro e w1 ⟨rfl, rfl⟩)
  go_ret
  exact ⟨rfl, rfl⟩
theorem nU16 (w : World) : Calls Try.prog 30 #[.pointer none] w fun x w' => x = .returned (.int .i64 0) ∧ w = w' := by
  go_enter Try.func30, Try.ntmps30
  go_wp2_with (go_at_call 45; refine (nNumber _ _).mono ?_; rintro e w1 ⟨rfl, rfl⟩)
  go_ret
  exact ⟨rfl, rfl⟩
theorem nU32 (w : World) : Calls Try.prog 31 #[.pointer none] w fun x w' => x = .returned (.int .u32 0) ∧ w = w' := by
  go_enter Try.func31, Try.ntmps31
  go_wp2_with (go_at_call 45; refine (nNumber _ _).mono ?_; rintro e w1 ⟨rfl, rfl⟩)
  go_ret
  exact ⟨rfl, rfl⟩
theorem nU64 (w : World) : Calls Try.prog 32 #[.pointer none] w fun x w' => x = .returned (.int .u64 0) ∧ w = w' := by
  go_enter Try.func32, Try.ntmps32
  go_wp2_with (go_at_call 45; refine (nNumber _ _).mono ?_; rintro e w1 ⟨rfl, rfl⟩)
  go_ret
  exact ⟨rfl, rfl⟩
theorem nRest (w : World) : Calls Try.prog 35 #[.pointer none] w fun x w' => x = .returned (.string ByteArray.empty) ∧ w = w' := by
  go_enter Try.func35, Try.ntmps35
  go_wp2_with (first | (go_at_call 39; refine (nLeft _).mono ?_; rintro e w1 ⟨rfl, rfl⟩) | (go_at_call 34; refine (nTake _ _).mono ?_; rintro e w1 ⟨rfl, rfl⟩))
  go_ret
  exact ⟨rfl, rfl⟩
theorem nEnd (w : World) : Calls Try.prog 40 #[.pointer none] w fun x w' => x = .returned (.int .i64 2) ∧ w = w' := by
  go_enter Try.func40, Try.ntmps40
  go_wp2_with (first | (go_at_call 39; refine (nLeft _).mono ?_; rintro e w1 ⟨rfl, rfl⟩) | (go_at_call 38; refine (nErr _).mono ?_; rintro e w1 ⟨rfl, rfl⟩))
  go_ret
  exact ⟨rfl, rfl⟩
theorem nFill (n : Int) (w : World) (h0 : 0 ≤ n) (h1 : n ≤ 255) : Calls Try.prog 36 #[.pointer none, .int .i64 n] w fun x w' => x = .returned (.tuple #[]) ∧ Below w.heap.size w w' := by
  have hp := fun w => pad_any n w h0 (by omega)
  have hmin : min (-n % 4) 0 = 0 := by omega
  have hn := fun w => noughts_any 0 w (by omega)
  have hz : zeros 0 = ByteArray.empty := rfl
  rw [hz] at hn
  go_enter Try.func36, Try.ntmps36
  go_wp2_with (first | (go_at_call 26; refine (hp _).mono ?_; rintro e w1 ⟨rfl, rfl⟩) | (go_at_call 39; refine (nLeft _).mono ?_; rintro e w1 ⟨rfl, rfl⟩) | (go_at_call 34; refine (nTake _ _).mono ?_; rintro e w1 ⟨rfl, rfl⟩) | (go_at_call 44; refine (hn _).mono ?_; rintro e w2 ⟨rfl, hb⟩))
  go_end0
  exact ⟨rfl, hb⟩

theorem none_law (n : Int) (w : World) : Calls Try.prog 9 #[.int .i64 n] w fun e w' => e = .returned (.bool true) ∧ Below w.heap.size w w' := by
  have a1 : bits .and .i64 n 7 = n % 8 := i64_mask n 3 (by omega)
  have e1 : failL ⟨#[97]⟩ 0 4 = ByteArray.empty := rfl
  have e2 : failE 0 4 = 4 := rfl
  have e3 : failL ByteArray.empty 4 3 = ByteArray.empty := rfl
  have e4 : failE 4 3 = 4 := rfl
  have hf := fun w => nFill (n % 8) w (by omega) (by omega)
  have e5 : endE ByteArray.empty 4 = 4 := rfl
  have bel : Below w.heap.size w w := Below.refl _ _
  go_enter Try.func9, Try.ntmps9
  go_wp2_with (first | (go_at_call 36; refine (hf _).mono ?_; rintro e w1 ⟨rfl, hb⟩; replace bel := bel.trans (hb.mono bel.size); clear hb) | (go_at_call 27; refine (new_any _ _).mono ?_; rintro e w1 ⟨rfl, rfl⟩) | (go_at_call 42; with_reducible refine (nFail _ _).mono ?_; rintro e w1 ⟨rfl, rfl⟩))
  have hs := bel.size
  refine (fail_any w1.heap.size ⟨#[97]⟩ 0 4 _ (RD.fresh w1 _ _)).mono ?_
  rintro e w2 ⟨rfl, hr2, ht2⟩
  rw [e1, e2] at hr2
  go_wp2_with fail
  refine (fail_any w1.heap.size ByteArray.empty 4 3 _ hr2).mono ?_
  rintro e w3 ⟨rfl, hr3, ht3⟩
  rw [e3, e4] at hr3
  have bel3 : Below w.heap.size w w3 := bel.trans ((ht2.trans ht3).fresh.mono hs)
  clear ht2 ht3 hr2 e1 e2 e3 e4
  go_wp2_with (first | (go_at_call 18; refine (awake3_any _).mono ?_; rintro e w4 ⟨rfl, hb⟩; have hr4 := Blk.below hr3 hb hr3.lt; have bel4 := bel3.trans (hb.mono bel3.size)) | (go_at_call 38; with_reducible refine (nErr _).mono ?_; rintro e w' ⟨rfl, rfl⟩) | (go_at_call 39; with_reducible refine (nLeft _).mono ?_; rintro e w' ⟨rfl, rfl⟩) | (go_at_call 29; with_reducible refine (nU8 _).mono ?_; rintro e w' ⟨rfl, rfl⟩) | (go_at_call 30; with_reducible refine (nU16 _).mono ?_; rintro e w' ⟨rfl, rfl⟩) | (go_at_call 31; with_reducible refine (nU32 _).mono ?_; rintro e w' ⟨rfl, rfl⟩) | (go_at_call 32; with_reducible refine (nU64 _).mono ?_; rintro e w' ⟨rfl, rfl⟩) | (go_at_call 34; with_reducible refine (nTake _ _).mono ?_; rintro e w' ⟨rfl, rfl⟩) | (go_at_call 35; with_reducible refine (nRest _).mono ?_; rintro e w' ⟨rfl, rfl⟩) | (go_at_call 40; with_reducible refine (nEnd _).mono ?_; rintro e w' ⟨rfl, rfl⟩) | (go_at_call 40; refine (end_any _ _ _ _ hr4).mono ?_; rintro e w' ⟨rfl, rfl⟩) | (go_at_call 39; refine (left_any _ _ _ _ hr4).mono ?_; rintro e w' ⟨rfl, rfl⟩))
  go_ret
  exact ⟨rfl, bel4⟩

theorem none_open {H : Type} {enc : TypeId × Value → H} {W : World} {base : Nat} {v0 : Value} {d0 : DataW H} {p0 : List MemPlace}
    (o0 : Value.okWide Try.prog W .any base 3 v0) (h0 : DataW.Trod enc Try.prog W 0 (fun _ => true) true 3 v0 d0 p0) :
    Calls Try.prog 9 #[v0] W fun e w' => e = .returned (.bool true) ∧ Below W.heap.size W w' := by
  obtain ⟨n, rfl, _, _, wn⟩ := open_int Try.underlying3 o0 h0
  exact none_law n W
end Go.Proofs.Ytlpjfcmghkajhaa.oct
