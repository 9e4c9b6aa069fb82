/- Layer 9: whether a seal is that of bytes by a key; the statements walked. -/
import Derived.Test.YtbdbcjhahlofiaaDoorMacC
namespace Go.Proofs.YtbdbcjhahlofiaaDoor.mac
open Go.ChangeShapes Go.WideShapes Go.ChangeAt Go.RowKit kit byt dig
open oct

theorem or_zero (a b : UInt8) : a ||| b = 0 ↔ a = 0 ∧ b = 0 := by
  rw [← UInt8.toNat_inj, UInt8.toNat_or, ← UInt8.toNat_inj, ← UInt8.toNat_inj]
  exact Nat.or_eq_zero_iff
theorem xor_zero8 (a b : UInt8) : a ^^^ b = 0 ↔ a = b := by
  constructor
  · intro h
    have : a ^^^ (a ^^^ b) = a := by rw [h, UInt8.xor_zero]
    rw [← UInt8.xor_assoc, UInt8.xor_self, UInt8.zero_xor] at this
    exact this.symm
  · rintro rfl
    exact UInt8.xor_self
def difL (M S : List UInt8) : Nat → UInt8
  | 0 => 0
  | n + 1 => difL M S n ||| (M.getD n 0 ^^^ S.getD n 0)
theorem dif_zero (M S : List UInt8) (n : Nat) : difL M S n = 0 ↔ ∀ i, i < n → M.getD i 0 = S.getD i 0 := by
  induction n with
  | zero => simp [difL]
  | succ n ih =>
    rw [difL, or_zero, ih, xor_zero8]
    constructor
    · rintro ⟨h, h'⟩ i hi
      by_cases e : i = n
      · subst e; exact h'
      · exact h i (by omega)
    · intro h
      exact ⟨fun i hi => h i (by omega), h n (by omega)⟩
theorem dif_eq (M S : ByteArray) (n : Nat) (hM : M.size = n) (hS : S.size = n) : difL M.data.toList S.data.toList n = 0 ↔ S = M := by
  rw [dif_zero]
  constructor
  · intro h
    apply ByteArray.ext
    apply Array.toList_inj.1
    apply List.ext_getElem?
    intro i
    have hm : M.data.toList.length = n := by simpa using hM
    have hs : S.data.toList.length = n := by simpa using hS
    by_cases hi : i < n
    · have := h i hi
      rw [List.getD_eq_getElem?_getD, List.getD_eq_getElem?_getD, List.getElem?_eq_getElem (by omega), List.getElem?_eq_getElem (by omega)] at this
      rw [List.getElem?_eq_getElem (by omega), List.getElem?_eq_getElem (by omega)]
      simpa using this.symm
    · rw [List.getElem?_eq_none (by omega), List.getElem?_eq_none (by omega)]
  · rintro rfl i _
    rfl
theorem or8 (x b : UInt8) : bits .or .u8 (x.toNat : Int) (b.toNat : Int) = ((x ||| b).toNat : Int) := by
  rw [u8_or_nat _ _ x.toNat_lt b.toNat_lt, UInt8.toNat_or]

set_option maxRecDepth 100000 in
set_option maxHeartbeats 1000000 in
theorem is_any (key s q : ByteArray) (w : World) (S0 : Starts w) (A : Added w) (hk : key.size ≤ 1000000) (hs : s.size ≤ 900000) (hl : q.size ≤ maxLen) : Calls Tryd.prog 25 #[.string key, .string s, .string q] w fun e w' => e = .returned (.bool (decide (q = macS key s))) ∧ Below w.heap.size w w' := by
  have hO := mac_any key s w S0 A hk hs
  have hM := macS_size key s
  have HQ := Lib.hid (fun h => dif_eq (macS key s) q 20 hM h)
  generalize macS key s = M at *
  clear S0 A hk hs
  unfold maxLen at hl
  go_enter Tryd.func25, Tryd.ntmps25
  go_wp2_with fail
  refine hO.mono ?_
  rintro e w1 ⟨rfl, hb1⟩
  clear hO
  by_cases h20 : q.size = 20
  · have hd0 : ((q.size : Int) != 20) = false := by rw [bne_eq_false_iff_eq]; omega
    have HE := Lib.hid (HQ.out h20)
    have HM := Lib.hid hM
    have HL := Lib.hid h20
    clear HQ hl
    go_upto_region 4 with (fail)
    clear hd0
    go_wp2
    go_loopw [8, 20] (fun s8 s20 wr => ∃ n : Nat, n ≤ 20 ∧ s20 = .int .i64 n ∧ s8 = .int .u8 ((difL M.data.toList q.data.toList n).toNat : Int) ∧ Below w.heap.size w wr) (fun _ s20 _ => 20 - (intOf s20).toNat)
    case atStart => exact ⟨0, by omega, rfl, rfl, hb1⟩
    case round =>
      clear hb1
      obtain ⟨n, hn, rfl, rfl, bel⟩ := hrel
      by_cases hlt : n < 20
      · have hd : decide ((n : Int) < 20) = true := decide_eq_true (by omega)
        have h1 : n < M.size := by have := HM.out; omega
        have h2 : n < q.size := by have := HL.out; omega
        have hx : bits .xor .u8 (M[n].toNat : Int) (q[n].toNat : Int) = ((M[n] ^^^ q[n]).toNat : Int) := xor8 _ _
        have HD := Lib.hid (show difL M.data.toList q.data.toList (n + 1) = difL M.data.toList q.data.toList n ||| (M[n] ^^^ q[n]) by
          show _ ||| (_ ^^^ _) = _
          rw [List.getD_eq_getElem?_getD, List.getD_eq_getElem?_getD, List.getElem?_eq_getElem (by simpa using h1), List.getElem?_eq_getElem (by simpa using h2)]
          rfl)
        generalize difL M.data.toList q.data.toList n = x at *
        have ho := or8 x (M[n] ^^^ q[n])
        have hn1 : (n : Int) < M.size := by omega
        have hn2 : (n : Int) < q.size := by omega
        clear hM h20
        go_upto_region 8 with (fail)
        refine wp_region_still_tail 9 (by kernel_rfl) (by kernel_rfl) ?_
        simp only [List.take_succ_cons, List.take_zero, List.drop_succ_cons, List.drop_zero]
        repeat still_step
        refine wpStill_nil ?_
        change wpList _ _ _ _ _ wr.drew
        have bel5 := bel.drew
        generalize wr.drew = w5 at *
        clear bel
        go_wp2
        clear hd hx ho
        go_roundw
        case rel => exact ⟨n + 1, by omega, by go_num, by rw [HD.out, ← UInt8.toNat_xor, or8], bel5⟩
        case measure => simp [intOf]; omega
      · have hn' : n = 20 := by omega
        subst hn'
        go_wp2
        go_ret
        have e : (((difL M.data.toList q.data.toList 20).toNat : Int) == 0) = decide (q = M) := by
          have := HE.out
          by_cases h : q = M
          · rw [this.2 h, decide_eq_true h]; rfl
          · rw [decide_eq_false h, beq_eq_false_iff_ne]
            intro c
            apply h
            rw [← this, ← UInt8.toNat_inj]
            exact Int.ofNat.inj c
        exact ⟨congrArg (fun b => Ending.returned (.bool b)) e, bel⟩
  · have hd0 : ((q.size : Int) != 20) = true := by rw [bne_iff_ne]; omega
    have hne : decide (q = M) = false := decide_eq_false (by rintro rfl; exact h20 hM)
    go_wp2
    go_ret
    rw [hne]
    exact ⟨rfl, hb1⟩

def firsts (n : Nat) (s : ByteArray) : ByteArray := s.extract 0 (min s.size n)
theorem firsts_size (n : Nat) (s : ByteArray) : (firsts n s).size ≤ n := by unfold firsts; rw [ByteArray.size_extract]; omega
theorem firsts_int (n : Nat) (s : ByteArray) : s.extract 0 (min (s.size : Int) (n : Int)).toNat = firsts n s := by unfold firsts; congr 1; omega
theorem slice_first (n : Nat) (s : ByteArray) (w : World) : (Instr.slice 9 (.string s) none (some (.int .i64 (min (s.size : Int) (n : Int)))) none).run Tryd.prog w = .ok (.string (firsts n s)) w := by
  rw [← firsts_int]
  exact run_slice_string_h w _ s Tryd.underlying9 .i64 _ (by omega) (by omega)
end Go.Proofs.YtbdbcjhahlofiaaDoor.mac
