/- Layer 40: a sender that holds whatever objects; is one of a number there? -/
import Derived.Test.YthddacgdmngfhaaTkD
import Derived.Test.YthddacgdmngfhaaLimD
import Derived.Test.YthddacgdmngfhaaKitQ
namespace Go.Proofs.Ythddacgdmngfhaa.fil
open Go.Sort (grow)
open Go.ChangeShapes Go.WideShapes Go.ChangeAt Go.RowKit kit oct byt
set_option maxRecDepth 100000

/-- An object that is sent: its number, its bytes, where its next piece begins. -/
structure Sg where
  i : Nat
  d : ByteArray
  a : Nat
def sgc (x : Sg) : Array Value := #[.int .u32 x.i, .string x.d, .int .i64 x.a]
def cellsG : List Sg → List Value
  | [] => []
  | x :: r => .int .u32 x.i :: .string x.d :: .int .i64 x.a :: cellsG r
theorem cellsG_len : ∀ L : List Sg, (cellsG L).length = L.length * 3
  | [] => rfl
  | x :: r => by simp only [cellsG, List.length_cons, cellsG_len r]; omega
theorem cellsG_append : ∀ L M : List Sg, cellsG (L ++ M) = cellsG L ++ cellsG M
  | [], _ => rfl
  | x :: r, M => by simp only [List.cons_append, cellsG, cellsG_append r M]
theorem cellsG_get {x : Sg} : ∀ {L : List Sg} {k : Nat}, L[k]? = some x → ∀ j, j < (sgc x).size → (sgc x)[j]? = (cellsG L)[k * 3 + j]?
  | [], _, h, _, _ => by simp at h
  | y :: r, 0, h, j, hj => by
    obtain rfl : y = x := by simpa using h
    have hj3 : j < 3 := hj
    match j, hj3 with
    | 0, _ => rfl
    | 1, _ => rfl
    | 2, _ => rfl
  | y :: r, k + 1, h, j, hj => by
    have ih := cellsG_get (L := r) (k := k) (by simpa using h) j hj
    rw [ih]
    simp only [cellsG]
    rw [show (k + 1) * 3 + j = k * 3 + j + 1 + 1 + 1 by omega, List.getElem?_cons_succ, List.getElem?_cons_succ, List.getElem?_cons_succ]
theorem cellsG_one (x : Sg) : cellsG [x] = (sgc x).toList := rfl
theorem cellsG_drop (x : Sg) (r : List Sg) : (cellsG (x :: r)).drop 3 = cellsG r := rfl
theorem sgc_one (x : Sg) : ∀ u ∈ (sgc x).toList, u.oneCell' = true := by
  intro u hu
  simp only [sgc, List.mem_cons, List.not_mem_nil, or_false] at hu
  rcases hu with rfl | rfl | rfl <;> rfl
theorem szG (x : Sg) : (Try.prog.info? 168).map (·.size) = some (sgc x).size := by show _ = some 3; kernel_rfl
/-- A sender in memory. -/
structure Qs (b0 sg : Nat) (v : Value) (L : List Sg) (w : World) : Prop where
  B : Blk w sg 166 #[v]
  q : Qo w b0 3 v L.length (cellsG L)
  ne : blkOf v ≠ some sg
  hg : b0 ≤ sg
section
variable {b0 sg : Nat} {v : Value} {L : List Sg} {w w' : World}
theorem Qs.below {k : Nat} (h : Qs b0 sg v L w) (hb : Below k w w') (hk : w.heap.size ≤ k) : Qs b0 sg v L w' :=
  ⟨h.B.below hb (Nat.lt_of_lt_of_le h.B.lt hk), h.q.below hb hk, h.ne, h.hg⟩
theorem Qs.frame (h : Qs b0 sg v L w) (hs : w.heap.size ≤ w'.heap.size) (hb : ∀ b, b = sg ∨ blkOf v = some b → w'.heap[b]? = w.heap[b]?) : Qs b0 sg v L w' :=
  ⟨(hb sg (.inl rfl)).trans h.B, h.q.block hs fun g hg => hb g (.inr hg), h.ne, h.hg⟩
end
theorem new_qs (w : World) : Calls Try.prog 25 #[] w fun e w' => e = .returned (.pointer (some ⟨w.heap.size, 0, none⟩)) ∧ Qs w.heap.size w.heap.size (.slice none 0 0) [] w' ∧ Below w.heap.size w w' := by
  have q : Qs w.heap.size w.heap.size (.slice none 0 0) [] (w.alloc (.cells #[.slice none 0 0] 166)) := ⟨Blk.new _ _ _, Qo.nil _ _ _, (fun h => by cases h), Nat.le_refl _⟩
  have bel := (Below.refl w.heap.size w).alloc (Nat.le_refl _) (.cells #[.slice none 0 0] 166)
  go_enter Try.func25, Try.ntmps25
  go_wp2_with fail
  go_ret
  exact ⟨rfl, q, bel⟩
theorem len_qs {b0 sg : Nat} {v : Value} {L : List Sg} {w : World} (h : Qs b0 sg v L w) : Calls Try.prog 30 #[.pointer (some ⟨sg, 0, none⟩)] w fun e w' => e = .returned (.int .i64 L.length) ∧ w' = w := by
  obtain ⟨oa, cap, rfl, _, _⟩ := h.q.shape
  have c0 : w.cell? ⟨sg, 0, none⟩ = some (.slice oa L.length cap) := h.B.cell 0
  go_enter Try.func30, Try.ntmps30
  go_wp2_with fail
  go_ret
  exact ⟨rfl, rfl⟩
set_option maxHeartbeats 1000000 in
theorem idx_any {b0 : Nat} {v : Value} {L : List Sg} (i ob : Nat) (D : ByteArray) (w : World) (q : Qo w b0 3 v L.length (cellsG L)) (hn : L.length ≤ 16) (B : Blk w ob 57 #[.int .u32 i, .string D]) :
    Calls Try.prog 144 #[v, .func (.func 88) #[] #[.pointer (some ⟨ob, 0, none⟩)]] w fun e w' => ∃ r : Int, e = .returned (.int .i64 r) ∧ (0 ≤ r ↔ ∃ x ∈ L, x.i = i) ∧ Below w.heap.size w w' := by
  have hsh : ∃ (h off : Nat) (oa : Option Addr) (cap : Nat), v = .slice oa L.length cap ∧ L.length ≤ cap ∧ cap ≤ maxLen ∧ (0 < L.length → oa = some ⟨h, off, none⟩ ∧ h < w.heap.size ∧ ∀ k x, L[k]? = some x → Cel w h (off + k * 3) (sgc x)) := by
    rcases Nat.eq_zero_or_pos L.length with h0 | h0
    · obtain ⟨oa, cap, e, h1, h2⟩ := q.shape
      exact ⟨0, 0, oa, cap, e, h1, h2, fun h => absurd h (by omega)⟩
    · obtain ⟨g, off, cap, e, h1, h2, h3, h4, h5, h6⟩ := q.show_ h0
      exact ⟨g, off, _, cap, e, h1, h2, fun _ => ⟨rfl, h4, fun k x hx => h6 k (sgc x) (List.getElem?_eq_some_iff.1 hx).1 (by show 3 ≤ 3; omega) (cellsG_get hx)⟩⟩
  obtain ⟨h, off, oa, cap, rfl, hc, hcm, hC⟩ := hsh
  obtain ⟨n, hLn⟩ : ∃ n, L.length = n := ⟨_, rfl⟩
  unfold maxLen at hcm
  have HH := Lib.hid hC
  rw [hLn] at hn hc ⊢
  have HL := Lib.hid hLn
  clear hC q hLn
  go_enter Try.func144, Try.ntmps144
  go_wp2_with fail
  go_loopw [8] (fun s8 wr => ∃ k : Nat, k ≤ n ∧ s8 = .int .i64 k ∧ (∀ j x, j < k → L[j]? = some x → x.i ≠ i) ∧ Below w.heap.size w wr) (fun s8 _ => n - (intOf s8).toNat)
  case atStart => exact ⟨0, by omega, rfl, fun j x h => absurd h (by omega), Below.refl _ _⟩
  case round =>
    obtain ⟨k, hk, rfl, hno, bel⟩ := hrel
    by_cases hlt : k < n
    · obtain ⟨ho, hh, hC⟩ := HH.out (by rw [HL.out]; omega)
      subst ho
      have hkL : k < L.length := by rw [HL.out]; exact hlt
      obtain ⟨x, hx⟩ : ∃ x, L[k]? = some x := ⟨_, List.getElem?_eq_getElem hkL⟩
      have K : Cel wr h (off + k * 3) (sgc x) := (hC k x hx).below bel hh
      have B2 := B.below bel B.lt
      have hcl := same_any x.i i x.a x.d D ob wr B2
      have HX := Lib.hid (And.intro hx hno)
      clear hx hno hC hkL
      go_wp2_with (refine wpList_load_at rfl 168 _ rfl h (off + k * 3) rfl (sgc x) _ K Try.underlying168 rfl (szG _) ?_)
      refine hcl.mono ?_
      rintro e w2 ⟨rfl, hb2⟩
      have bel2 := bel.trans (hb2.mono bel.size)
      clear hcl bel hb2 K B2
      by_cases hi : (x.i : Int) = (i : Int)
      · rw [decide_eq_true hi]
        go_wp2_with fail
        go_ret
        exact ⟨_, rfl, ⟨fun _ => ⟨x, List.mem_of_getElem? HX.out.1, by omega⟩, fun _ => by omega⟩, bel2⟩
      · rw [decide_eq_false hi]
        go_wp2_with fail
        go_roundw
        case rel =>
          refine ⟨k + 1, by omega, by go_num, fun j y hj hy => ?_, bel2⟩
          by_cases hjk : j < k
          · exact HX.out.2 j y hjk hy
          · obtain rfl : j = k := by omega
            have := hy.symm.trans HX.out.1
            obtain rfl : y = x := Option.some.inj this
            intro e
            exact hi (by omega)
        case measure => simp [intOf]; omega
    · obtain rfl : k = n := by omega
      go_wp2_with fail
      go_ret
      refine ⟨-1, rfl, ⟨fun h => absurd h (by omega), fun ⟨x, hx, he⟩ => ?_⟩, bel⟩
      obtain ⟨j, hj⟩ := List.mem_iff_getElem?.1 hx
      exact absurd he (hno j x (by rw [← HL.out]; exact (List.getElem?_eq_some_iff.1 hj).1) hj)
theorem ctn_any {b0 : Nat} {v : Value} {L : List Sg} (i ob : Nat) (D : ByteArray) (w : World) (q : Qo w b0 3 v L.length (cellsG L)) (hn : L.length ≤ 16) (B : Blk w ob 57 #[.int .u32 i, .string D]) (b : Bool) (hb : b = true ↔ ∃ x ∈ L, x.i = i) :
    Calls Try.prog 89 #[v, .func (.func 88) #[] #[.pointer (some ⟨ob, 0, none⟩)]] w fun e w' => e = .returned (.bool b) ∧ Below w.heap.size w w' := by
  have HI := Lib.hid (idx_any i ob D w q hn B)
  have HB := Lib.hid hb
  clear hb q B
  go_enter Try.func89, Try.ntmps89
  go_wp2_with fail
  refine HI.out.mono ?_
  rintro e w2 ⟨r, rfl, hr, hb2⟩
  have hd : decide (0 ≤ r) = b := by
    rw [Bool.eq_iff_iff, decide_eq_true_iff, hr, HB.out]
  clear hr
  go_wp2_with fail
  go_ret
  exact ⟨by first | (rw [hd]; done) | (rw [← hd]; done) | (rw [← hd]; rfl), hb2⟩
end Go.Proofs.Ythddacgdmngfhaa.fil
