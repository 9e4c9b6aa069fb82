/- Layer 5: causes that are made by themselves, and the first one of a number. -/
import Derived.Test.YtlpklnjnfeodaaaFind
import Derived.Test.YtlpklnjnfeodaaaRef3C
namespace Go.Proofs.Ytlpklnjnfeodaaa.par
open Go.ChangeShapes Go.WideShapes Go.ChangeAt Go.RowKit kit oct
set_option maxRecDepth 100000

theorem asParam_any (t : Int) (s : ByteArray) (w : World) : Calls Try.prog 61 #[.agg #[.int .i64 t, .string s]] w fun e w' => e = .returned (.agg #[.int .i64 t, .string s]) ∧ Below w.heap.size w w' := by
  go_enter Try.func61, Try.ntmps61
  go_wp2
  exact bodyPost_ret (v := .agg #[.int .i64 t, .string s]) (by simp [results, Try.results61, go_sem] <;> rfl) rfl ⟨rfl, by repeat (first | exact Below.refl _ _ | (refine Below.alloc ?_ (by simp; try omega) _) | (refine Below.setCell ?_ (by simp) _) | (refine Below.drew ?_))⟩
theorem cput_any (t : Int) (s : ByteArray) (w : World) : Calls Try.prog 30 #[.agg #[.int .i64 t, .string s]] w fun e w' => e = .returned (.string (putP t s)) ∧ Below w.heap.size w w' := by
  go_enter Try.func30, Try.ntmps30
  go_wp2_with fail
  refine (asParam_any t s _).mono ?_
  rintro e w1 ⟨rfl, hb1⟩
  go_wp2_with fail
  refine (put_any t s _).mono ?_
  rintro e w2 ⟨rfl, hb2⟩
  go_wp2_with fail
  go_ret
  have b1 : Below w.heap.size w w1 := ((Below.refl _ _).alloc (Nat.le_refl _) _).trans (hb1.mono (by simp))
  exact ⟨rfl, b1.trans (hb2.mono b1.size)⟩
theorem stream_any (n : Int) (w : World) (h0 : 0 ≤ n) (h1 : n ≤ 65535) : Calls Try.prog 39 #[.int .i64 n] w fun e w' => e = .returned (.agg #[.int .i64 1, .string (filled (p2 n))]) ∧ Below w.heap.size w w' := by
  have hf := fun w => filled_any (p2 n) w (by rw [p2_size]; omega)
  generalize filled (p2 n) = F at *
  go_enter Try.func39, Try.ntmps39
  go_wp2_with fail
  refine (u16_p n _ h0 (by omega)).mono ?_
  rintro e w1 ⟨rfl, hb1⟩
  go_wp2_with fail
  refine (hf _).mono ?_
  rintro e w2 ⟨rfl, hb2⟩
  have b1 : Below w.heap.size w w1 := ((Below.refl _ _).alloc (Nat.le_refl _) _).trans (hb1.mono (by simp))
  have B1 := (Blk.new _ _ _).below hb1 (by simp)
  have B2 := B1.below hb2 B1.lt
  have C2 := fun i => B2.cell i
  have F2 := fun i => B2.frozen i
  have hz2 := B2.lt
  go_wp2_with fail
  exact bodyPost_ret (v := .agg #[.int .i64 1, .string F]) (by simp [results, Try.results39, go_sem, C2, F2, hz2] <;> rfl) rfl ⟨rfl, ((b1.trans (hb2.mono b1.size)).setCell (by simp) _).setCell (by simp) _⟩
theorem noData_any (a : Int) (w : World) (h0 : 0 ≤ a) (h1 : a ≤ 4294967295) : Calls Try.prog 37 #[.int .u32 a] w fun e w' => e = .returned (.agg #[.int .i64 9, .string (p4 a)]) ∧ Below w.heap.size w w' := by
  go_enter Try.func37, Try.ntmps37
  go_wp2_with (go_at_call 23; refine (u32_p _ _ h0 h1).mono ?_; rintro e w1 ⟨rfl, hb⟩; have B1 := (Blk.new _ _ _).below hb (by simp); have C1 := fun i => B1.cell i; have F1 := fun i => B1.frozen i; have hz1 : w.heap.size < w1.heap.size := (by have := hb.size; simp at this; omega))
  exact bodyPost_ret (v := .agg #[.int .i64 9, .string (p4 a)]) (by simp [results, Try.results37, go_sem, C1, F1, hz1] <;> rfl) rfl ⟨rfl, ((((Below.refl w.heap.size w).alloc (Nat.le_refl _) _).trans (hb.mono (by simp))).setCell (by simp) _).setCell (by simp) _⟩
theorem stale_any (a : Int) (w : World) (h0 : 0 ≤ a) (h1 : a ≤ 4294967295) : Calls Try.prog 38 #[.int .u32 a] w fun e w' => e = .returned (.agg #[.int .i64 3, .string (p4 a)]) ∧ Below w.heap.size w w' := by
  go_enter Try.func38, Try.ntmps38
  go_wp2_with (go_at_call 23; refine (u32_p _ _ h0 h1).mono ?_; rintro e w1 ⟨rfl, hb⟩; have B1 := (Blk.new _ _ _).below hb (by simp); have C1 := fun i => B1.cell i; have F1 := fun i => B1.frozen i; have hz1 : w.heap.size < w1.heap.size := (by have := hb.size; simp at this; omega))
  exact bodyPost_ret (v := .agg #[.int .i64 3, .string (p4 a)]) (by simp [results, Try.results38, go_sem, C1, F1, hz1] <;> rfl) rfl ⟨rfl, ((((Below.refl w.heap.size w).alloc (Nat.le_refl _) _).trans (hb.mono (by simp))).setCell (by simp) _).setCell (by simp) _⟩
theorem awake5_any (w : World) : Calls Try.prog 33 #[] w fun e w' => e = .returned (.bool true) ∧ Below w.heap.size w w' := by
  have e1 : putP 1 (filled (p2 3)) = ⟨#[0, 1, 0, 8, 0, 3, 0, 0]⟩ := by decide +kernel
  have hS := fun w => stream_any 3 w (by omega) (by omega)
  have hP := fun w => cput_any 1 (filled (p2 3)) w
  rw [e1] at hP
  clear e1
  generalize filled (p2 3) = F at *
  go_enter Try.func33, Try.ntmps33
  go_wp2_with fail
  refine (hS _).mono ?_
  rintro e w1 ⟨rfl, hb1⟩
  go_wp2_with fail
  refine (hP _).mono ?_
  rintro e w2 ⟨rfl, hb2⟩
  go_wp2_with fail
  go_ret
  exact ⟨rfl, hb1.trans (hb2.mono hb1.size)⟩

set_option maxHeartbeats 1000000 in
theorem cfind_any (a : Addr) (n cap : Nat) (T : Nat → Int) (S : Nat → ByteArray) (t : Int) (j : Nat) (w : World) (hnc : n ≤ cap) (hcm : cap ≤ maxLen) (hr : Row2 w a n T S) (hj : IsFst T t n j) :
    Calls Try.prog 34 #[.slice (some a) n cap, .int .i64 t] w fun e w' => e = .returned (if j < n then .tuple #[.agg #[.int .i64 t, .string (S j)], .bool true] else .tuple #[.agg #[.int .i64 0, .string ByteArray.empty], .bool false]) ∧ Below w.heap.size w w' := by
  unfold maxLen at hcm
  obtain ⟨j1, j2, j3⟩ := hj
  have vy : j < n → (if j < n then Value.tuple #[.agg #[.int .i64 t, .string (S j)], .bool true] else Value.tuple #[.agg #[.int .i64 0, .string ByteArray.empty], .bool false]) = .tuple #[.agg #[.int .i64 t, .string (S j)], .bool true] := fun h => if_pos h
  have vn : ¬ j < n → (if j < n then Value.tuple #[.agg #[.int .i64 t, .string (S j)], .bool true] else Value.tuple #[.agg #[.int .i64 0, .string ByteArray.empty], .bool false]) = .tuple #[.agg #[.int .i64 0, .string ByteArray.empty], .bool false] := fun h => if_neg h
  generalize (if j < n then Value.tuple #[.agg #[.int .i64 t, .string (S j)], .bool true] else Value.tuple #[.agg #[.int .i64 0, .string ByteArray.empty], .bool false]) = V at *
  have VY := Lib.hid vy
  have VN := Lib.hid vn
  have J2 := Lib.hid j2
  have J3 := Lib.hid j3
  clear vy vn j2 j3
  go_enter Try.func34, Try.ntmps34
  go_wp2
  go_loopw [10] (fun si wr => ∃ i : Nat, i ≤ j ∧ si = .int .i64 i ∧ Blk wr w.heap.size 59 #[.int .i64 0, .string ByteArray.empty] ∧ Below w.heap.size w wr) (fun si _ => n - (intOf si).toNat)
  case atStart => exact ⟨0, by omega, rfl, Blk.new _ _ _, (Below.refl _ _).alloc (Nat.le_refl _) _⟩
  case round =>
    obtain ⟨i, hi, rfl, B, bel⟩ := hrel
    have hgs := B.lt
    by_cases hlt : i < n
    · have hrr := (hr.below bel hr.1).2 i hlt
      obtain ⟨c0, c1⟩ := hrr
      have hJ2 := J2.out i
      have hJ3 := J3.out
      have N1 := Blk.new wr 59 #[.int .i64 (T i), .string (S i)]
      by_cases hij : i < j
      · have hne : (T i == t) = false := by simpa using hJ2 hij
        have B1 := B.alloc (.cells #[.int .i64 (T i), .string (S i)] 59)
        clear hJ2 hJ3 hr
        generalize T i = Ti at *
        generalize S i = Si at *
        go_wp2_with fail
        go_roundw
        case rel => exact ⟨i + 1, by omega, by go_num, B1, bel.alloc bel.size _⟩
        case measure => simp [intOf]; omega
      · obtain rfl : i = j := by omega
        have hT := hJ3 hlt
        have hv := VY.out hlt
        rw [hT] at c0
        have HV := Lib.hid hv
        have C := fun i => B.cell i
        have F := fun i => B.frozen i
        clear hJ2 hJ3 hr hT hv
        generalize S i = Si at *
        go_wp2_with fail
        have B2 := (((B.alloc (.cells #[.int .i64 t, .string Si] 59)).set_ 0 (.int .i64 t)).set_ 1 (.string Si))
        have B3 : Blk (((wr.alloc (.cells #[.int .i64 t, .string Si] 59)).setCell ⟨w.heap.size, 0, none⟩ (.int .i64 t)).setCell ⟨w.heap.size, 1, none⟩ (.string Si)) w.heap.size 59 #[.int .i64 t, .string Si] := by simpa using B2
        have C3 := fun i => B3.cell i
        exact bodyPost_ret (v := .tuple #[.agg #[.int .i64 t, .string Si], .bool true]) (by simp [results, Try.results34, go_sem, C, F, hgs] <;> rfl) rfl ⟨congrArg Ending.returned HV.out.symm, ((bel.setCell (Nat.le_refl _) _).setCell (Nat.le_refl _) _).alloc (by simpa [World.setCell] using bel.size) _⟩
    · have hnj : ¬ j < n := by omega
      have HV := Lib.hid (VN.out hnj)
      have C := fun i => B.cell i
      have F := fun i => B.frozen i
      have hin : i = n := by omega
      subst hin
      clear hr
      go_wp2_with fail
      exact bodyPost_ret (v := .tuple #[.agg #[.int .i64 0, .string ByteArray.empty], .bool false]) (by simp [results, Try.results34, go_sem, C, F, hgs] <;> rfl) rfl ⟨congrArg Ending.returned HV.out.symm, (bel.setCell (by simp) _).setCell (by simp) _⟩
set_option maxHeartbeats 1000000 in
theorem cfind_nil (t : Int) (w : World) :
    Calls Try.prog 34 #[.slice none 0 0, .int .i64 t] w fun e w' => e = .returned (.tuple #[.agg #[.int .i64 0, .string ByteArray.empty], .bool false]) ∧ Below w.heap.size w w' := by
  go_enter Try.func34, Try.ntmps34
  go_wp2
  refine wp_loop_rounds 1 ?_
  rw [rounds_succ]
  go_wp2
  exact bodyPost_ret (v := .tuple #[.agg #[.int .i64 0, .string ByteArray.empty], .bool false]) (by simp [results, Try.results34, go_sem] <;> rfl) rfl ⟨rfl, by repeat (first | exact Below.refl _ _ | (refine Below.alloc ?_ (by simp; try omega) _) | (refine Below.setCell ?_ (by simp) _))⟩

theorem has_core (v : Value) (t : Int) (q : Int) (s : ByteArray) (is : Bool) (w : World) (h : ∀ w' : World, Below w.heap.size w w' → Calls Try.prog 34 #[v, .int .i64 t] w' fun e w'' => e = .returned (.tuple #[.agg #[.int .i64 q, .string s], .bool is]) ∧ Below w'.heap.size w' w'') :
    Calls Try.prog 35 #[v, .int .i64 t] w fun e w' => e = .returned (.bool is) ∧ Below w.heap.size w w' := by
  have hF := h w (Below.refl _ _)
  clear h
  go_enter Try.func35, Try.ntmps35
  go_wp2_with fail
  refine hF.mono ?_
  rintro e w1 ⟨rfl, hb1⟩
  go_wp2_with fail
  go_ret
  exact ⟨rfl, hb1.alloc hb1.size _⟩

theorem u32_mask16 (x : Nat) (hx : x ≤ 4294967295) : bits .and .u32 (x : Int) 65535 = (x : Int) % 65536 := by
  have h := u32_and_nat x 65535 (by omega) (by omega)
  have e : x &&& 65535 = x % 65536 := Nat.and_two_pow_sub_one_eq_mod x 16
  rw [e] at h
  rw [show (65535 : Int) = ((65535 : Nat) : Int) from rfl, h]
  omega

theorem low2 (n : Int) (h0 : 0 ≤ n) : filled (p2 (n % 65536)) = (p4 n).extract 2 4 ++ ⟨#[0, 0]⟩ := by
  have e2 : p2 (n % 65536) = strOfNums [n / 256 % 256, n % 256] := by
    unfold p2 be be be
    congr 1
    simp only [List.nil_append, List.cons_append, List.cons.injEq, and_true]
    omega
  have e4 : p4 n = strOfNums [n / 16777216 % 256, n / 65536 % 256, n / 256 % 256, n % 256] := by
    unfold p4 be be be be be
    congr 1
    simp only [List.nil_append, List.cons_append, List.cons.injEq, and_true]
    omega
  have z : zeros 2 = ⟨#[0, 0]⟩ := by decide +kernel
  unfold filled
  rw [p2_size]
  have : (-((2 : Nat) : Int) % 4).toNat = 2 := by decide
  rw [this, z, e2, e4]
  congr 1

set_option maxHeartbeats 2000000 in
theorem cfinds_law (a : Addr) (len cap : Nat) (T : Nat → Int) (S : Nat → ByteArray) (t : Int) (x : Nat) (w : World) (hx : x ≤ 4294967295) (hlc : len ≤ cap) (hcm : cap ≤ maxLen) (hr : Row2 w a len T S) :
    Calls Try.prog 9 #[.slice (some a) len cap, .int .i64 t, .int .u32 x] w fun e w' => e = .returned (.bool true) ∧ Below w.heap.size w w' := by
  obtain ⟨n, hn, hn1, hn2⟩ : ∃ n : Nat, min (len : Int) 20 = n ∧ n ≤ len ∧ n ≤ 20 := ⟨min len 20, by omega, by omega, by omega⟩
  have hcm' := hcm
  unfold maxLen at hcm'
  obtain ⟨j, hj⟩ := fst_ex T t n
  have hrn : Row2 w a n T S := ⟨fun h => hr.1 (by omega), fun i hi => hr.2 i (by omega)⟩
  have hF := fun (w : World) (hr : Row2 w a n T S) => cfind_any a n cap T S t j w (by omega) hcm hr hj
  have key : ∀ (is : Bool) (q : Int) (s : ByteArray) (z : Int), (∀ w, Row2 w a n T S → Calls Try.prog 34 #[.slice (some a) n cap, .int .i64 t] w fun e w' => e = .returned (.tuple #[.agg #[.int .i64 q, .string s], .bool is]) ∧ Below w.heap.size w w') →
      (∀ y, AtI T t 0 n y → y = z) → (is = true → ∃ k : Nat, z = k ∧ k < n ∧ T k = q ∧ S k = s) → (is = false → z = -1 ∧ q = 0 ∧ s = ByteArray.empty) →
      Calls Try.prog 9 #[.slice (some a) len cap, .int .i64 t, .int .u32 x] w fun e w' => e = .returned (.bool true) ∧ Below w.heap.size w w' := by
    intro is q s z hF hat hy hn0
    have HA := Lib.hid hat
    have HY := Lib.hid hy
    have HN := Lib.hid hn0
    have HR := Lib.hid hrn
    have HJ := Lib.hid hj
    have HFnd := Lib.hid hF
    clear hat hy hn0 hrn hr hj
    go_enter Try.func9, Try.ntmps9
    go_wp2_with fail
    refine (hF _ HR.out).mono ?_
    rintro e w1 ⟨rfl, hb1⟩
    have r1 : Row2 w1 a n T S := HR.out.below hb1 HR.out.1
    have R1 := Lib.hid r1
    have B1 := Blk.new w1 59 #[.int .i64 q, .string s]
    have bel1 := hb1.alloc hb1.size (.cells #[.int .i64 q, .string s] 59)
    have r2 : Row2 (w1.alloc (.cells #[.int .i64 q, .string s] 59)) a n T S := r1.below ((Below.refl _ _).alloc (Nat.le_refl _) _) r1.1
    clear hF r1 R1
    go_wp2_with fail
    generalize w1.alloc (.cells #[.int .i64 q, .string s] 59) = w2 at *
    have R2 := Lib.hid r2
    clear r2
    go_loop [10, 11] (fun sa si => ∃ (m : Nat) (y : Int), m ≤ n ∧ si = .int .i64 ((m : Int) - 1) ∧ sa = .int .i64 y ∧ AtI T t m n y) (fun _ si => (intOf si + 1).toNat)
    case atStart => exact ⟨n, -1, Nat.le_refl _, rfl, rfl, .inl ⟨rfl, fun q h1 h2 => by omega⟩⟩
    case round =>
      obtain ⟨m, y, hm, rfl, rfl, hA⟩ := hrel
      have HAt := Lib.hid hA
      clear hA
      by_cases hm0 : 0 < m
      · obtain ⟨p, rfl⟩ : ∃ p, m = p + 1 := ⟨m - 1, by omega⟩
        have e1 : ((p + 1 : Nat) : Int) - 1 = p := by omega
        rw [e1]
        clear e1
        have c0 := (R2.out.2 p (by omega)).1
        by_cases hT : T p = t
        · rw [hT] at c0
          have HT := Lib.hid hT
          clear hT
          go_wp2_with fail
          go_round
          case rel => exact ⟨p, p, by omega, rfl, rfl, AtI.hit (by omega) HT.out⟩
          case measure => simp [intOf]
        · have hne : (T p == t) = false := by simpa using hT
          have HT := Lib.hid hT
          clear hT
          generalize hTp : T p = Tp at *
          have HTp := Lib.hid hTp
          clear hTp
          go_wp2_with fail
          go_round
          case rel => exact ⟨p, y, by omega, rfl, rfl, AtI.miss HAt.out (by rw [HTp.out]; exact HT.out)⟩
          case measure => simp [intOf]
      · obtain rfl : m = 0 := by omega
        obtain rfl := HA.out _ HAt.out
        clear HAt
        have k0 := cell_regrown (B1.cell 0)
        have k1 := cell_regrown (B1.cell 1)
        have hHas : ∀ w', Below w2.heap.size w2 w' → Calls Try.prog 35 #[.slice (some a) n cap, .int .i64 t] w' fun e w'' => e = .returned (.bool is) ∧ Below w'.heap.size w' w'' := fun w' hb => has_core _ t q s is w' (fun w3 hb3 => HFnd.out w3 ((R2.out.below hb R2.out.1).below hb3 (R2.out.below hb R2.out.1).1))
        go_upto_region 9 with fail
        go_cut [64] (fun s64 wx => s64 = .bool false ∧ Below w.heap.size w wx)
        case first =>
          cases is with
          | true =>
              obtain ⟨k, rfl, hk, rfl, rfl⟩ := HY.out rfl
              obtain ⟨c0, c1⟩ := R2.out.2 k hk
              have k2 := cell_regrown c0
              have k3 := cell_regrown c1
              clear c0 c1 HA HY HN
              refine wp_region_quiet_below (by kernel_rfl) (by kernel_rfl) ?_
              repeat (any_goals (first | go_big_quiet_step ((first | (go_at_call 33; exact Calls.regrown_of (awake5_any _)) | (go_at_call 35; exact Calls.regrown_of (hHas _ (below_regrown _ _ _))))) | quiet_step ((first | (go_at_call 33; exact Calls.regrown_of (awake5_any _)) | (go_at_call 35; exact Calls.regrown_of (hHas _ (below_regrown _ _ _)))))))
              refine wpQuiet_nil ?_
              intro _ hw'
              obtain ⟨⟨dq, osq⟩, hw''⟩ := hw'
              subst hw''
              go_wp2
              go_meet
              exact ⟨rfl, bel1.trans ((below_regrown _ dq osq).mono bel1.size)⟩
          | false =>
              obtain ⟨rfl, rfl, rfl⟩ := HN.out rfl
              clear HA HY HN
              refine wp_region_quiet_below (by kernel_rfl) (by kernel_rfl) ?_
              repeat (any_goals (first | go_big_quiet_step ((first | (go_at_call 33; exact Calls.regrown_of (awake5_any _)) | (go_at_call 35; exact Calls.regrown_of (hHas _ (below_regrown _ _ _))))) | quiet_step ((first | (go_at_call 33; exact Calls.regrown_of (awake5_any _)) | (go_at_call 35; exact Calls.regrown_of (hHas _ (below_regrown _ _ _)))))))
              refine wpQuiet_nil ?_
              intro _ hw'
              obtain ⟨⟨dq, osq⟩, hw''⟩ := hw'
              subst hw''
              go_wp2
              go_meet
              exact ⟨rfl, bel1.trans ((below_regrown _ dq osq).mono bel1.size)⟩
        case rest =>
        obtain ⟨rfl, bel3⟩ := hcut
        have hPut : ∀ w, Calls Try.prog 36 #[.int .u64 x, .int .i64 4] w fun e w' => e = .returned (.string (p4 x)) ∧ Below w.heap.size w w' := fun w => put_at 4 x 4 w rfl (by omega) (by omega) (by omega)
        obtain ⟨y, hy, hy1⟩ : ∃ y : Nat, (x : Int) % 65536 = y ∧ y ≤ 65535 := ⟨x % 65536, by omega, by omega⟩
        have hm : bits .and .u32 (x : Int) 65535 = (y : Int) := (u32_mask16 x hx).trans hy
        have hS := fun w => stream_any y w (by omega) (by omega)
        rw [← hy, low2 x (by omega)] at hS
        rw [hy] at hS
        have hN := fun w => noData_any x w (by omega) (by omega)
        have hL := fun w => stale_any x w (by omega) (by omega)
        have hF4 : (p4 x).size = 4 := p4_size _
        generalize p4 (x : Int) = F at *
        clear hy HA HY HN HFnd hHas k0 k1 R2 HR HJ
        go_upto_region 12 with (go_at_call 36; refine (hPut _).mono ?_; rintro e w4 ⟨rfl, hb4⟩)
        have bel4 := bel3.trans (hb4.mono bel3.size)
        have hw : IntKind.i64.wrap (y : Int) = y := IntWalk.i64_in _ (by omega)
        have hX : (F.extract 2 4).size ≤ 2 := by simp; omega
        refine wp_region_quiet_below (by kernel_rfl) (by kernel_rfl) ?_
        repeat (any_goals (first | go_big_quiet_step ((first | (go_at_call 37; exact Calls.regrown_of (hN _)) | (go_at_call 38; exact Calls.regrown_of (hL _)) | (go_at_call 39; exact Calls.regrown_of (hS _)))) | quiet_step ((first | (go_at_call 37; exact Calls.regrown_of (hN _)) | (go_at_call 38; exact Calls.regrown_of (hL _)) | (go_at_call 39; exact Calls.regrown_of (hS _))))))
        refine wpQuiet_nil ?_
        intro _ hw'
        obtain ⟨⟨dq, osq⟩, hw''⟩ := hw'
        subst hw''
        go_wp2
        go_ret
        exact ⟨rfl, bel4.trans ((below_regrown _ dq osq).mono bel4.size)⟩
  by_cases hjn : j < n
  · refine key true t (S j) j (fun w hr => by have := hF w hr; rwa [if_pos hjn] at this) (fun y hy => by rw [hy.end_ hj, if_pos hjn]) (fun _ => ⟨j, rfl, hjn, hj.2.2 hjn, rfl⟩) (fun h => by cases h)
  · refine key false 0 ByteArray.empty (-1) (fun w hr => by have := hF w hr; rwa [if_neg hjn] at this) (fun y hy => by rw [hy.end_ hj, if_neg hjn]) (fun h => by cases h) (fun _ => ⟨rfl, rfl, rfl⟩)
end Go.Proofs.Ytlpklnjnfeodaaa.par
