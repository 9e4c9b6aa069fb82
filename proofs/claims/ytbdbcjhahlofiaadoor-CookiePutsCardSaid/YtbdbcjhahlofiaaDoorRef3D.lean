/- The document's own reader: numbers, what fills up, the end. -/
import Derived.Test.YtbdbcjhahlofiaaDoorRef3C
import Derived.Test.YtbdbcjhahlofiaaDoorReadB
namespace Go.Proofs.YtbdbcjhahlofiaaDoor.oct
open Go.ChangeShapes Go.WideShapes Go.ChangeAt Go.RowKit kit

theorem tkR_le (S : ByteArray) (e : Int) (k : Nat) : (tkR S e k).size ≤ k := by
  unfold tkR; split
  · simp
  · split
    · simp; omega
    · simp
theorem numV_step (T : ByteArray) (i : Nat) (hb : i < T.size) : numV (T.data.toList.take (i + 1)) = numV (T.data.toList.take i) * 256 + T[i].toNat := by
  have e2 : T.data.toList.take (i + 1) = T.data.toList.take i ++ [T[i]] := by
    rw [List.take_succ_eq_append_getElem (by have := len_data T; omega)]
    simp [ByteArray.getElem_eq_getElem_data]
  rw [e2, numV_snoc]

set_option maxHeartbeats 800000 in
theorem rnum_any (S : ByteArray) (e : Int) (k : Nat) (w : World) (hk8 : k ≤ 8) (hl : S.size ≤ maxLen) :
    Calls Tryd.prog 54 #[.agg #[.string S, .int .i64 e], .int .i64 k] w fun y w' => y = .returned (.tuple #[.agg #[.string (tkS S e k), .int .i64 (tkE S e k)], .int .u64 (numV (tkR S e k).data.toList)]) ∧ Below w.heap.size w w' := by
  have hT := fun w => rtake_any S e (k : Int) w hl
  have hle := tkR_le S e k
  generalize tkR S e k = T at *
  generalize tkS S e k = S' at *
  generalize tkE S e k = e' at *
  have bel : Below w.heap.size w w := Below.refl _ _
  go_enter Tryd.func54, Tryd.ntmps54
  go_wp2_with (go_at_call 69; refine (hT _).mono ?_; rintro y w1 ⟨rfl, hb⟩)
  have bel1 : Below w.heap.size w w1 := (((Below.refl w.heap.size w).alloc (Nat.le_refl _) _).alloc (by simp) _).trans (hb.mono (by simp; omega))
  have B := Blk.new w1 82 #[.string S', .int .i64 e']
  have B2 := ((blk_new2 w (.cells #[.string S, .int .i64 e] 82) 82 #[.string ByteArray.empty, .int .i64 0]).below hb (by simp)).alloc (.cells #[.string S', .int .i64 e'] 82)
  have bel2 := bel1.alloc (by have := bel1.size; omega) (.cells #[.string S', .int .i64 e'] 82)
  have hsz : w.heap.size + 1 < (w1.alloc (.cells #[.string S', .int .i64 e'] 82)).heap.size := by have := hb.size; simp at this; simp; omega
  generalize w1.alloc (.cells #[.string S', .int .i64 e'] 82) = w2 at *
  have C := fun i => B.cell i
  have C2 := fun i => B2.cell i
  have F2 := fun i => B2.frozen i
  clear hb hT bel1
  go_loop [8, 9] (fun nv iv => ∃ i : Nat, i ≤ T.size ∧ iv = .int .i64 i ∧ nv = .int .u64 (numV (T.data.toList.take i))) (fun _ iv => T.size - (intOf iv).toNat)
  case atStart => exact ⟨0, Nat.zero_le _, rfl, rfl⟩
  case round =>
    obtain ⟨i, hi, rfl, rfl⟩ := hrel
    by_cases hlt : i < T.size
    · have hb0 := numV_lt i (T.data.toList.take i) (by have := len_data T; simp; omega)
      have hb1 := pow_le i (by omega)
      have hb2 : numV (T.data.toList.take i) < 72057594037927936 := by omega
      have hst := numV_step T i hlt
      have hu := (T[i]).toNat_lt
      clear hb0 hb1
      go_wp2
      go_round
      case rel => exact ⟨i + 1, by omega, by go_num, by rw [hst]; go_num⟩
      case measure => simp [intOf]; omega
    · have : i = T.size := by omega
      subst this
      have he : T.data.toList.take T.size = T.data.toList := by rw [← len_data T]; exact List.take_length
      rw [he]
      go_wp2
      exact bodyPost_ret (v := .tuple #[.agg #[.string S', .int .i64 e'], .int .u64 (numV T.data.toList)]) (by simp [results, Tryd.results54, go_sem, C2, F2, hsz] <;> rfl) rfl ⟨rfl, (bel2.setCell (by simp) _).setCell (by simp) _⟩


/-- What the document's filling up leaves. -/
def rfV (S' : ByteArray) (e' : Int) (T : ByteArray) : Value := if T = zeros T.size then .agg #[.string S', .int .i64 e'] else .agg #[.string (rfS S' e'), .int .i64 (rfE e' 4)]

theorem zeros_get (k i : Nat) (h : i < (zeros k).size) : (zeros k)[i].toNat = 0 := by
  unfold zeros strOfNums at *
  simp [ByteArray.getElem_eq_getElem_data]

theorem zeros_of (T : ByteArray) (h : ∀ j, (hj : j < T.size) → T[j].toNat = 0) : T = zeros T.size := by
  apply ByteArray.ext
  apply Array.ext
  · show T.size = (zeros T.size).size
    rw [zeros_size]
  · intro i h1 h2
    have a := h i h1
    have b := zeros_get T.size i h2
    rw [ByteArray.getElem_eq_getElem_data] at a b
    exact UInt8.toNat_inj.1 (a.trans b.symm)

end Go.Proofs.YtbdbcjhahlofiaaDoor.oct
