/- Layer 4: the first one of a type is found. -/
import Derived.Test.YtlpklnjnfeodaaaTagL
import Derived.LoopTactic
namespace Go.Proofs.Ytlpklnjnfeodaaa.par
open Go.ChangeShapes Go.WideShapes Go.ChangeAt Go.RowKit kit oct
set_option maxRecDepth 100000

/-- The first place of a number among n, n if there is none. -/
def IsFst (T : Nat → Int) (t : Int) (n j : Nat) : Prop := j ≤ n ∧ (∀ i, i < j → T i ≠ t) ∧ (j < n → T j = t)
theorem fst_ex (T : Nat → Int) (t : Int) (n : Nat) : ∃ j, IsFst T t n j := by
  induction n with
  | zero => exact ⟨0, by omega, fun i h => by omega, fun h => by omega⟩
  | succ n ih =>
    obtain ⟨j, h1, h2, h3⟩ := ih
    by_cases hj : j < n
    · exact ⟨j, by omega, h2, fun _ => h3 hj⟩
    · obtain rfl : j = n := by omega
      by_cases hT : T j = t
      · exact ⟨j, by omega, h2, fun _ => hT⟩
      · refine ⟨j + 1, by omega, fun i hi => ?_, fun h => by omega⟩
        by_cases e : i = j
        · rw [e]; exact hT
        · exact h2 i (by omega)

/-- A row of structs of a number and a string. -/
def Row2 (w : World) (a : Addr) (n : Nat) (T : Nat → Int) (S : Nat → ByteArray) : Prop :=
  (0 < n → a.block < w.heap.size) ∧ ∀ i, i < n → w.cell? (a.add (i * 2)) = some (.int .i64 (T i)) ∧ w.cell? { block := (a.add (i * 2)).block, off := (a.add (i * 2)).off + 1 } = some (.string (S i))
theorem add_block (a : Addr) (k : Nat) : (a.add k).block = a.block := by unfold Addr.add; split <;> rfl
theorem Row2.below {w w' : World} {a : Addr} {n : Nat} {T : Nat → Int} {S : Nat → ByteArray} {B : Nat} (h : Row2 w a n T S) (hb : Below B w w') (hB : 0 < n → a.block < B) : Row2 w' a n T S := by
  refine ⟨fun h0 => Nat.lt_of_lt_of_le (h.1 h0) hb.size, fun i hi => ?_⟩
  obtain ⟨h1, h2⟩ := h.2 i hi
  have hlt := hB (by omega)
  exact ⟨(hb.cell (p := a.add (i * 2)) (by rw [add_block]; exact hlt)).trans h1, (hb.cell (p := { block := (a.add (i * 2)).block, off := (a.add (i * 2)).off + 1 }) (by show (a.add (i * 2)).block < B; rw [add_block]; exact hlt)).trans h2⟩

set_option maxHeartbeats 1000000 in
theorem find_any (a : Addr) (n cap : Nat) (T : Nat → Int) (S : Nat → ByteArray) (t : Int) (j : Nat) (w : World) (hnc : n ≤ cap) (hcm : cap ≤ maxLen) (hr : Row2 w a n T S) (hj : IsFst T t n j) :
    Calls Try.prog 18 #[.slice (some a) n cap, .int .i64 t] w fun e w' => e = .returned (if j < n then .tuple #[.agg #[.int .i64 t, .string (S j)], .bool true] else .tuple #[.agg #[.int .i64 0, .string ByteArray.empty], .bool false]) ∧ Below w.heap.size w w' := by
  unfold maxLen at hcm
  obtain ⟨j1, j2, j3⟩ := hj
  have vy : j < n → (if j < n then Value.tuple #[.agg #[.int .i64 t, .string (S j)], .bool true] else Value.tuple #[.agg #[.int .i64 0, .string ByteArray.empty], .bool false]) = .tuple #[.agg #[.int .i64 t, .string (S j)], .bool true] := fun h => if_pos h
  have vn : ¬ j < n → (if j < n then Value.tuple #[.agg #[.int .i64 t, .string (S j)], .bool true] else Value.tuple #[.agg #[.int .i64 0, .string ByteArray.empty], .bool false]) = .tuple #[.agg #[.int .i64 0, .string ByteArray.empty], .bool false] := fun h => if_neg h
  generalize (if j < n then Value.tuple #[.agg #[.int .i64 t, .string (S j)], .bool true] else Value.tuple #[.agg #[.int .i64 0, .string ByteArray.empty], .bool false]) = V at *
  have VY := Lib.hid vy
  have VN := Lib.hid vn
  have J2 := Lib.hid j2
  have J3 := Lib.hid j3
  clear vy vn j2 j3
  go_enter Try.func18, Try.ntmps18
  go_wp2
  go_loopw [10] (fun si wr => ∃ i : Nat, i ≤ j ∧ si = .int .i64 i ∧ Blk wr w.heap.size 23 #[.int .i64 0, .string ByteArray.empty] ∧ Below w.heap.size w wr) (fun si _ => n - (intOf si).toNat)
  case atStart => exact ⟨0, by omega, rfl, Blk.new _ _ _, (Below.refl _ _).alloc (Nat.le_refl _) _⟩
  case round =>
    obtain ⟨i, hi, rfl, B, bel⟩ := hrel
    have hgs := B.lt
    by_cases hlt : i < n
    · have hrr := (hr.below bel hr.1).2 i hlt
      obtain ⟨c0, c1⟩ := hrr
      have hJ2 := J2.out i
      have hJ3 := J3.out
      have N1 := Blk.new wr 23 #[.int .i64 (T i), .string (S i)]
      by_cases hij : i < j
      · have hne : (T i == t) = false := by simpa using hJ2 hij
        have B1 := B.alloc (.cells #[.int .i64 (T i), .string (S i)] 23)
        clear hJ2 hJ3 hr
        generalize T i = Ti at *
        generalize S i = Si at *
        go_wp2_with fail
        go_roundw
        case rel => exact ⟨i + 1, by omega, by go_num, B1, bel.alloc bel.size _⟩
        case measure => simp [intOf]; omega
      · obtain rfl : i = j := by omega
        have hT := hJ3 hlt
        have hv := VY.out hlt
        rw [hT] at c0
        have HV := Lib.hid hv
        have C := fun i => B.cell i
        have F := fun i => B.frozen i
        clear hJ2 hJ3 hr hT hv
        generalize S i = Si at *
        go_wp2_with fail
        have B2 := (((B.alloc (.cells #[.int .i64 t, .string Si] 23)).set_ 0 (.int .i64 t)).set_ 1 (.string Si))
        have B3 : Blk (((wr.alloc (.cells #[.int .i64 t, .string Si] 23)).setCell ⟨w.heap.size, 0, none⟩ (.int .i64 t)).setCell ⟨w.heap.size, 1, none⟩ (.string Si)) w.heap.size 23 #[.int .i64 t, .string Si] := by simpa using B2
        have C3 := fun i => B3.cell i
        exact bodyPost_ret (v := .tuple #[.agg #[.int .i64 t, .string Si], .bool true]) (by simp [results, Try.results18, go_sem, C, F, hgs] <;> rfl) rfl ⟨congrArg Ending.returned HV.out.symm, ((bel.setCell (Nat.le_refl _) _).setCell (Nat.le_refl _) _).alloc (by simpa [World.setCell] using bel.size) _⟩
    · have hnj : ¬ j < n := by omega
      have HV := Lib.hid (VN.out hnj)
      have C := fun i => B.cell i
      have F := fun i => B.frozen i
      have hin : i = n := by omega
      subst hin
      clear hr
      go_wp2_with fail
      exact bodyPost_ret (v := .tuple #[.agg #[.int .i64 0, .string ByteArray.empty], .bool false]) (by simp [results, Try.results18, go_sem, C, F, hgs] <;> rfl) rfl ⟨congrArg Ending.returned HV.out.symm, (bel.setCell (by simp) _).setCell (by simp) _⟩
/-- The place that is found from behind. -/
def AtI (T : Nat → Int) (t : Int) (m n : Nat) (x : Int) : Prop := (x = -1 ∧ ∀ q, m ≤ q → q < n → T q ≠ t) ∨ (∃ q : Nat, x = q ∧ m ≤ q ∧ q < n ∧ T q = t ∧ ∀ p, m ≤ p → p < q → T p ≠ t)
theorem AtI.end_ {T : Nat → Int} {t : Int} {n j : Nat} {x : Int} (h : AtI T t 0 n x) (hj : IsFst T t n j) : x = if j < n then (j : Int) else -1 := by
  obtain ⟨j1, j2, j3⟩ := hj
  rcases h with ⟨rfl, h⟩ | ⟨q, rfl, _, hq, hT, hp⟩
  · rw [if_neg]
    intro hjn
    exact h j (by omega) hjn (j3 hjn)
  · have h1 : ¬ q < j := fun k => j2 q k hT
    have h2 : ¬ j < q := fun k => hp j (by omega) k (j3 (by omega))
    obtain rfl : q = j := by omega
    rw [if_pos hq]
theorem AtI.hit {T : Nat → Int} {t : Int} {m n : Nat} (hm : m < n) (hT : T m = t) : AtI T t m n (m : Int) :=
  .inr ⟨m, rfl, Nat.le_refl _, hm, hT, fun p h1 h2 => by omega⟩
theorem AtI.miss {T : Nat → Int} {t : Int} {m n : Nat} {x : Int} (h : AtI T t (m + 1) n x) (hT : T m ≠ t) : AtI T t m n x := by
  rcases h with ⟨e, h⟩ | ⟨q, e, h1, hq, h2, hp⟩
  · refine .inl ⟨e, fun q a b => ?_⟩
    by_cases k : q = m
    · rw [k]; exact hT
    · exact h q (by omega) b
  · refine .inr ⟨q, e, by omega, hq, h2, fun p a b => ?_⟩
    by_cases k : p = m
    · rw [k]; exact hT
    · exact hp p (by omega) b

set_option maxHeartbeats 2000000 in
theorem finds_law (a : Addr) (len cap : Nat) (T : Nat → Int) (S : Nat → ByteArray) (t : Int) (w : World) (hlc : len ≤ cap) (hcm : cap ≤ maxLen) (hr : Row2 w a len T S) :
    Calls Try.prog 4 #[.slice (some a) len cap, .int .i64 t] w fun e w' => e = .returned (.bool true) ∧ Below w.heap.size w w' := by
  obtain ⟨n, hn, hn1, hn2⟩ : ∃ n : Nat, min (len : Int) 20 = n ∧ n ≤ len ∧ n ≤ 20 := ⟨min len 20, by omega, by omega, by omega⟩
  have hcm' := hcm
  unfold maxLen at hcm'
  obtain ⟨j, hj⟩ := fst_ex T t n
  have hrn : Row2 w a n T S := ⟨fun h => hr.1 (by omega), fun i hi => hr.2 i (by omega)⟩
  have hF := fun (w : World) (hr : Row2 w a n T S) => find_any a n cap T S t j w (by omega) hcm hr hj
  have key : ∀ (is : Bool) (q : Int) (s : ByteArray) (x : Int), (∀ w, Row2 w a n T S → Calls Try.prog 18 #[.slice (some a) n cap, .int .i64 t] w fun e w' => e = .returned (.tuple #[.agg #[.int .i64 q, .string s], .bool is]) ∧ Below w.heap.size w w') →
      (∀ y, AtI T t 0 n y → y = x) → (is = true → ∃ k : Nat, x = k ∧ k < n ∧ T k = q ∧ S k = s) → (is = false → x = -1 ∧ q = 0 ∧ s = ByteArray.empty) →
      Calls Try.prog 4 #[.slice (some a) len cap, .int .i64 t] w fun e w' => e = .returned (.bool true) ∧ Below w.heap.size w w' := by
    intro is q s x hF hat hy hn0
    have HA := Lib.hid hat
    have HY := Lib.hid hy
    have HN := Lib.hid hn0
    have HR := Lib.hid hrn
    have HJ := Lib.hid hj
    clear hat hy hn0 hrn hr hj
    go_enter Try.func4, Try.ntmps4
    go_wp2_with fail
    refine (hF _ HR.out).mono ?_
    rintro e w1 ⟨rfl, hb1⟩
    have r1 : Row2 w1 a n T S := HR.out.below hb1 HR.out.1
    have R1 := Lib.hid r1
    have B1 := Blk.new w1 23 #[.int .i64 q, .string s]
    have bel1 := hb1.alloc hb1.size (.cells #[.int .i64 q, .string s] 23)
    have r2 : Row2 (w1.alloc (.cells #[.int .i64 q, .string s] 23)) a n T S := r1.below ((Below.refl _ _).alloc (Nat.le_refl _) _) r1.1
    clear hF r1 R1
    go_wp2_with fail
    generalize w1.alloc (.cells #[.int .i64 q, .string s] 23) = w2 at *
    have R2 := Lib.hid r2
    clear r2
    go_loop [8, 9] (fun sa si => ∃ (m : Nat) (y : Int), m ≤ n ∧ si = .int .i64 ((m : Int) - 1) ∧ sa = .int .i64 y ∧ AtI T t m n y) (fun _ si => (intOf si + 1).toNat)
    case atStart => exact ⟨n, -1, Nat.le_refl _, rfl, rfl, .inl ⟨rfl, fun q h1 h2 => by omega⟩⟩
    case round =>
      obtain ⟨m, y, hm, rfl, rfl, hA⟩ := hrel
      have HAt := Lib.hid hA
      clear hA
      by_cases hm0 : 0 < m
      · obtain ⟨p, rfl⟩ : ∃ p, m = p + 1 := ⟨m - 1, by omega⟩
        have e1 : ((p + 1 : Nat) : Int) - 1 = p := by omega
        rw [e1]
        clear e1
        have c0 := (R2.out.2 p (by omega)).1
        by_cases hT : T p = t
        · rw [hT] at c0
          have HT := Lib.hid hT
          clear hT
          go_wp2_with fail
          go_round
          case rel => exact ⟨p, p, by omega, rfl, rfl, AtI.hit (by omega) HT.out⟩
          case measure => simp [intOf]
        · have hne : (T p == t) = false := by simpa using hT
          have HT := Lib.hid hT
          clear hT
          generalize hTp : T p = Tp at *
          have HTp := Lib.hid hTp
          clear hTp
          go_wp2_with fail
          go_round
          case rel => exact ⟨p, y, by omega, rfl, rfl, AtI.miss HAt.out (by rw [HTp.out]; exact HT.out)⟩
          case measure => simp [intOf]
      · obtain rfl : m = 0 := by omega
        obtain rfl := HA.out _ HAt.out
        clear HAt
        have k0 := cell_regrown (B1.cell 0)
        have k1 := cell_regrown (B1.cell 1)
        cases is with
        | true =>
          obtain ⟨k, rfl, hk, rfl, rfl⟩ := HY.out rfl
          obtain ⟨c0, c1⟩ := R2.out.2 k hk
          have k2 := cell_regrown c0
          have k3 := cell_regrown c1
          clear c0 c1 HA HY HN
          go_upto_region 9 with fail
          refine wp_region_quiet_below (by kernel_rfl) (by kernel_rfl) ?_
          repeat (any_goals (first | go_big_quiet_step ((go_at_call 15; exact Calls.regrown_of (awake_any _))) | quiet_step ((go_at_call 15; exact Calls.regrown_of (awake_any _)))))
          refine wpQuiet_nil ?_
          intro _ hw'
          obtain ⟨⟨dq, osq⟩, hw''⟩ := hw'
          subst hw''
          go_wp2
          go_ret
          exact ⟨rfl, bel1.trans ((below_regrown _ dq osq).mono bel1.size)⟩
        | false =>
          obtain ⟨rfl, rfl, rfl⟩ := HN.out rfl
          clear HA HY HN
          go_upto_region 9 with fail
          refine wp_region_quiet_below (by kernel_rfl) (by kernel_rfl) ?_
          repeat (any_goals (first | go_big_quiet_step ((go_at_call 15; exact Calls.regrown_of (awake_any _))) | quiet_step ((go_at_call 15; exact Calls.regrown_of (awake_any _)))))
          refine wpQuiet_nil ?_
          intro _ hw'
          obtain ⟨⟨dq, osq⟩, hw''⟩ := hw'
          subst hw''
          go_wp2
          go_ret
          exact ⟨rfl, bel1.trans ((below_regrown _ dq osq).mono bel1.size)⟩
  by_cases hjn : j < n
  · refine key true t (S j) j (fun w hr => by have := hF w hr; rwa [if_pos hjn] at this) (fun y hy => by rw [hy.end_ hj, if_pos hjn]) (fun _ => ⟨j, rfl, hjn, hj.2.2 hjn, rfl⟩) (fun h => by cases h)
  · refine key false 0 ByteArray.empty (-1) (fun w hr => by have := hF w hr; rwa [if_neg hjn] at this) (fun y hy => by rw [hy.end_ hj, if_neg hjn]) (fun h => by cases h) (fun _ => ⟨rfl, rfl, rfl⟩)
set_option maxHeartbeats 1000000 in
theorem find_nil (t : Int) (w : World) :
    Calls Try.prog 18 #[.slice none 0 0, .int .i64 t] w fun e w' => e = .returned (.tuple #[.agg #[.int .i64 0, .string ByteArray.empty], .bool false]) ∧ Below w.heap.size w w' := by
  go_enter Try.func18, Try.ntmps18
  go_wp2
  refine wp_loop_rounds 1 ?_
  rw [rounds_succ]
  go_wp2
  exact bodyPost_ret (v := .tuple #[.agg #[.int .i64 0, .string ByteArray.empty], .bool false]) (by simp [results, Try.results18, go_sem] <;> rfl) rfl ⟨rfl, by repeat (first | exact Below.refl _ _ | (refine Below.alloc ?_ (by simp; try omega) _) | (refine Below.setCell ?_ (by simp) _))⟩
set_option maxHeartbeats 1000000 in
theorem finds_nil (t : Int) (w : World) :
    Calls Try.prog 4 #[.slice none 0 0, .int .i64 t] w fun e w' => e = .returned (.bool true) ∧ Below w.heap.size w w' := by
  go_enter Try.func4, Try.ntmps4
  go_wp2_with fail
  refine (find_nil t _).mono ?_
  rintro e w1 ⟨rfl, hb1⟩
  have B1 := Blk.new w1 23 #[.int .i64 0, .string ByteArray.empty]
  have bel1 := hb1.alloc hb1.size (.cells #[.int .i64 0, .string ByteArray.empty] 23)
  go_wp2_with fail
  generalize w1.alloc (.cells #[.int .i64 0, .string ByteArray.empty] 23) = w2 at *
  have k0 := cell_regrown (B1.cell 0)
  have k1 := cell_regrown (B1.cell 1)
  refine wp_loop_rounds 1 ?_
  rw [rounds_succ]
  go_upto_region 9 with fail
  refine wp_region_quiet_below (by kernel_rfl) (by kernel_rfl) ?_
  repeat (any_goals (first | go_big_quiet_step ((go_at_call 15; exact Calls.regrown_of (awake_any _))) | quiet_step ((go_at_call 15; exact Calls.regrown_of (awake_any _)))))
  refine wpQuiet_nil ?_
  intro _ hw'
  obtain ⟨⟨dq, osq⟩, hw''⟩ := hw'
  subst hw''
  go_wp2
  go_ret
  exact ⟨rfl, bel1.trans ((below_regrown _ dq osq).mono bel1.size)⟩
end Go.Proofs.Ytlpklnjnfeodaaa.par
