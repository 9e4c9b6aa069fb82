/- The document's own reader: numbers, what fills up, the end. -/
import Derived.Test.YtlpjfcmghkajhaaRef3C
import Derived.Test.YtlpjfcmghkajhaaReadB
namespace Go.Proofs.Ytlpjfcmghkajhaa.oct
open Go.ChangeShapes Go.WideShapes Go.ChangeAt Go.RowKit kit

theorem tkR_le (S : ByteArray) (e : Int) (k : Nat) : (tkR S e k).size ≤ k := by
  unfold tkR; split
  · simp
  · split
    · simp; omega
    · simp
theorem numV_step (T : ByteArray) (i : Nat) (hb : i < T.size) : numV (T.data.toList.take (i + 1)) = numV (T.data.toList.take i) * 256 + T[i].toNat := by
  have e2 : T.data.toList.take (i + 1) = T.data.toList.take i ++ [T[i]] := by
    rw [List.take_succ_eq_append_getElem (by have := len_data T; omega)]
    simp [ByteArray.getElem_eq_getElem_data]
  rw [e2, numV_snoc]

set_option maxHeartbeats 800000 in
theorem rnum_any (S : ByteArray) (e : Int) (k : Nat) (w : World) (hk8 : k ≤ 8) (hl : S.size ≤ maxLen) :
    Calls Try.prog 28 #[.agg #[.string S, .int .i64 e], .int .i64 k] w fun y w' => y = .returned (.tuple #[.agg #[.string (tkS S e k), .int .i64 (tkE S e k)], .int .u64 (numV (tkR S e k).data.toList)]) ∧ Below w.heap.size w w' := by
  have hT := fun w => rtake_any S e (k : Int) w hl
  have hle := tkR_le S e k
  generalize tkR S e k = T at *
  generalize tkS S e k = S' at *
  generalize tkE S e k = e' at *
  have bel : Below w.heap.size w w := Below.refl _ _
  go_enter Try.func28, Try.ntmps28
  go_wp2_with (go_at_call 33; refine (hT _).mono ?_; rintro y w1 ⟨rfl, hb⟩)
  have bel1 : Below w.heap.size w w1 := (((Below.refl w.heap.size w).alloc (Nat.le_refl _) _).alloc (by simp) _).trans (hb.mono (by simp; omega))
  have B := Blk.new w1 45 #[.string S', .int .i64 e']
  have B2 := ((blk_new2 w (.cells #[.string S, .int .i64 e] 45) 45 #[.string ByteArray.empty, .int .i64 0]).below hb (by simp)).alloc (.cells #[.string S', .int .i64 e'] 45)
  have bel2 := bel1.alloc (by have := bel1.size; omega) (.cells #[.string S', .int .i64 e'] 45)
  have hsz : w.heap.size + 1 < (w1.alloc (.cells #[.string S', .int .i64 e'] 45)).heap.size := by have := hb.size; simp at this; simp; omega
  generalize w1.alloc (.cells #[.string S', .int .i64 e'] 45) = w2 at *
  have C := fun i => B.cell i
  have C2 := fun i => B2.cell i
  have F2 := fun i => B2.frozen i
  clear hb hT bel1
  go_loop [8, 9] (fun nv iv => ∃ i : Nat, i ≤ T.size ∧ iv = .int .i64 i ∧ nv = .int .u64 (numV (T.data.toList.take i))) (fun _ iv => T.size - (intOf iv).toNat)
  case atStart => exact ⟨0, Nat.zero_le _, rfl, rfl⟩
  case round =>
    obtain ⟨i, hi, rfl, rfl⟩ := hrel
    by_cases hlt : i < T.size
    · have hb0 := numV_lt i (T.data.toList.take i) (by have := len_data T; simp; omega)
      have hb1 := pow_le i (by omega)
      have hb2 : numV (T.data.toList.take i) < 72057594037927936 := by omega
      have hst := numV_step T i hlt
      have hu := (T[i]).toNat_lt
      clear hb0 hb1
      go_wp2
      go_round
      case rel => exact ⟨i + 1, by omega, by go_num, by rw [hst]; go_num⟩
      case measure => simp [intOf]; omega
    · have : i = T.size := by omega
      subst this
      have he : T.data.toList.take T.size = T.data.toList := by rw [← len_data T]; exact List.take_length
      rw [he]
      go_wp2
      exact bodyPost_ret (v := .tuple #[.agg #[.string S', .int .i64 e'], .int .u64 (numV T.data.toList)]) (by simp [results, Try.results28, go_sem, C2, F2, hsz] <;> rfl) rfl ⟨rfl, (bel2.setCell (by simp) _).setCell (by simp) _⟩

theorem rend_any (S : ByteArray) (e : Int) (w : World) :
    Calls Try.prog 41 #[.agg #[.string S, .int .i64 e]] w fun y w' => y = .returned (.int .i64 (endE S e)) ∧ Below w.heap.size w w' := by
  unfold endE
  by_cases c : e = 0
  · subst c
    by_cases d : 0 < S.size
    · rw [if_pos ⟨rfl, d⟩]
      go_enter Try.func41, Try.ntmps41
      go_wp2
      go_ret
      exact ⟨rfl, (Below.refl w.heap.size w).alloc (Nat.le_refl _) _⟩
    · rw [if_neg (by omega)]
      have d2 : S.size = 0 := by omega
      go_enter Try.func41, Try.ntmps41
      go_wp2
      go_ret
      exact ⟨rfl, (Below.refl w.heap.size w).alloc (Nat.le_refl _) _⟩
  · rw [if_neg (by omega)]
    have c2 : (e == 0) = false := by simpa using c
    go_enter Try.func41, Try.ntmps41
    go_wp2
    go_ret
    exact ⟨rfl, (Below.refl w.heap.size w).alloc (Nat.le_refl _) _⟩

/-- What the document's filling up leaves. -/
def rfV (S' : ByteArray) (e' : Int) (T : ByteArray) : Value := if T = zeros T.size then .agg #[.string S', .int .i64 e'] else .agg #[.string (rfS S' e'), .int .i64 (rfE e' 4)]

theorem zeros_get (k i : Nat) (h : i < (zeros k).size) : (zeros k)[i].toNat = 0 := by
  unfold zeros strOfNums at *
  simp [ByteArray.getElem_eq_getElem_data]

theorem zeros_of (T : ByteArray) (h : ∀ j, (hj : j < T.size) → T[j].toNat = 0) : T = zeros T.size := by
  apply ByteArray.ext
  apply Array.ext
  · show T.size = (zeros T.size).size
    rw [zeros_size]
  · intro i h1 h2
    have a := h i h1
    have b := zeros_get T.size i h2
    rw [ByteArray.getElem_eq_getElem_data] at a b
    exact UInt8.toNat_inj.1 (a.trans b.symm)

set_option maxHeartbeats 2000000 in
theorem rfill_any (S : ByteArray) (e n : Int) (w : World) (hl : S.size ≤ maxLen) (h0 : 0 ≤ n) (h1 : n ≤ 255) :
    Calls Try.prog 37 #[.agg #[.string S, .int .i64 e], .int .i64 n] w fun y w' => y = .returned (rfV (tkS S e (fk S n)) (tkE S e (fk S n)) (tkR S e (fk S n))) ∧ Below w.heap.size w w' := by
  obtain ⟨p, hp⟩ : ∃ p : Nat, (p : Int) = -n % 4 := ⟨(-n % 4).toNat, by omega⟩
  have a1 : n.tmod 4 = n % 4 := Int.tmod_eq_emod_of_nonneg h0
  have a2 : (4 - n % 4).tmod 4 = (p : Int) := by rw [Int.tmod_eq_emod_of_nonneg (by omega)]; omega
  have hk : fk S n = min p S.size := by unfold fk; rw [← hp]; simp
  have hT := fun w => rtake_any S e (fk S n : Int) w hl
  have hle := tkR_le S e (fk S n)
  have hk4 : fk S n ≤ 4 := by omega
  generalize tkR S e (fk S n) = T at *
  generalize tkS S e (fk S n) = S' at *
  generalize tkE S e (fk S n) = e' at *
  have hF := fun w => rfail_any S' e' 4 w
  rcases (by omega : S.size < p ∨ p ≤ S.size) with d | d
  all_goals
    first
      | (have hk' : fk S n = S.size := by omega)
      | (have hk' : fk S n = p := by omega)
    rw [hk'] at hT hle hk4
    clear hk hk' hp
    go_enter Try.func37, Try.ntmps37
    go_wp2_with (go_at_call 33; refine (hT _).mono ?_; rintro y w1 ⟨rfl, hb⟩)
    have bel1 : Below w.heap.size w w1 := (((Below.refl w.heap.size w).alloc (Nat.le_refl _) _).alloc (by simp) _).trans (hb.mono (by simp; omega))
    have B := Blk.new w1 45 #[.string S', .int .i64 e']
    have B2 := ((blk_new2 w (.cells #[.string S, .int .i64 e] 45) 45 #[.string ByteArray.empty, .int .i64 0]).below hb (by simp)).alloc (.cells #[.string S', .int .i64 e'] 45)
    have bel2 := bel1.alloc (by have := bel1.size; omega) (.cells #[.string S', .int .i64 e'] 45)
    have hsz : w.heap.size + 1 < (w1.alloc (.cells #[.string S', .int .i64 e'] 45)).heap.size := by have := hb.size; simp at this; simp; omega
    have hne : w.heap.size + 1 < w1.heap.size := by have := hb.size; simp at this; omega
    generalize w1.alloc (.cells #[.string S', .int .i64 e'] 45) = w2 at *
    have C := fun i => B.cell i
    have C2 := fun i => B2.cell i
    have F2 := fun i => B2.frozen i
    clear hb hT bel1
    go_loop [8] (fun iv => ∃ i : Nat, i ≤ T.size ∧ iv = .int .i64 i ∧ ∀ j, j < i → (hj : j < T.size) → T[j].toNat = 0) (fun iv => T.size - (intOf iv).toNat)
    case atStart => exact ⟨0, Nat.zero_le _, rfl, fun j hj => absurd hj (Nat.not_lt_zero _)⟩
    case round =>
      obtain ⟨i, hi, rfl, hz⟩ := hrel
      by_cases hlt : i < T.size
      · by_cases h8 : T[i].toNat = 0
        · have h8' : (T[i].toNat : Int) = 0 := by omega
          go_wp2
          go_round
          case rel => exact ⟨i + 1, by omega, by go_num, fun j hj hjT => by rcases (by omega : j < i ∨ j = i) with q | rfl; exact hz j q hjT; exact h8⟩
          case measure => simp [intOf]; omega
        · have hnz : ¬ T = zeros T.size := fun q => h8 (by have := zeros_get T.size i (by rw [zeros_size]; exact hlt); rw [← this]; congr 2)
          have ev : rfV S' e' T = .agg #[.string (rfS S' e'), .int .i64 (rfE e' 4)] := by unfold rfV; rw [if_neg hnz]
          have h8' : ¬ (T[i].toNat : Int) = 0 := by omega
          clear hnz hz hi
          go_wp2_with (go_at_call 46; refine (hF _).mono ?_; rintro y w3 ⟨rfl, hb3⟩; have B3 := B2.below hb3 (by omega); have C3 := fun i => B3.cell i; have F3 := fun i => B3.frozen i; have hz3 : w.heap.size + 1 < w3.heap.size := (by have := hb3.size; omega))
          exact bodyPost_ret (v := .agg #[.string (rfS S' e'), .int .i64 (rfE e' 4)]) (by simp [results, Try.results37, go_sem, C3, F3, hz3] <;> rfl) rfl ⟨(by first | rfl | exact congrArg Ending.returned ev.symm), ((bel2.trans (hb3.mono (by omega))).setCell (by simp <;> omega) _).setCell (by simp <;> omega) _⟩
      · have hil : i = T.size := by omega
        have hzz : T = zeros T.size := zeros_of T fun j hj => hz j (by omega) hj
        have ev : rfV S' e' T = .agg #[.string S', .int .i64 e'] := by unfold rfV; rw [if_pos hzz]
        clear hzz
        subst hil
        go_wp2
        exact bodyPost_ret (v := .agg #[.string S', .int .i64 e']) (by simp [results, Try.results37, go_sem, C2, F2, hsz] <;> rfl) rfl ⟨(by first | rfl | exact congrArg Ending.returned ev.symm), (bel2.setCell (by simp) _).setCell (by simp) _⟩
end Go.Proofs.Ytlpjfcmghkajhaa.oct
