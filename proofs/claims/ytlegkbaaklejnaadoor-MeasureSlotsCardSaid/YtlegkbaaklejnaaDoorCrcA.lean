/- Layer 2's check, by contracts: the table made anew. -/
import Derived.Test.YtlegkbaaklejnaaDoorRows
import Derived.Test.YtlegkbaaklejnaaDoorKit
import Derived.Test.YtlegkbaaklejnaaDoorCrcM
import Derived.WalkLawsBesides
import Derived.LoopTactic
import Derived.Outline
import Derived.Laws.CopyOwn
import Derived.Lib.LaidTab
namespace Go.Proofs.YtlegkbaaklejnaaDoor.crc
open Go.ChangeShapes Go.WideShapes Go.ChangeAt Go.RowKit kit

def word (n : Nat) : Value := .int .u32 (n : Int)
def tcells (k : Nat) : Array Value := ((List.range 256).map fun n => word (if n < k then tab n else 0)).toArray
theorem tcells_size (k : Nat) : (tcells k).size = 256 := by simp [tcells]
theorem tcells_zero : Tryd.zeroCells44 = tcells 0 := by kernel_rfl
theorem tcells_one (k : Nat) : ((tcells k).all fun x => x.oneCell') = true := by
  simp [tcells, word, Value.oneCell']
theorem tcells_at {k i : Nat} (h : i < 256) : (tcells k)[i]? = some (word (if i < k then tab i else 0)) := by
  simp [tcells, h]
theorem tcells_set (k : Nat) (h : k < 256) : (tcells k).setIfInBounds k (word (tab k)) = tcells (k + 1) := by
  apply Array.ext_getElem?
  intro i
  by_cases hi : i < 256
  · rw [tcells_at hi]
    by_cases hk : k = i
    · subst hk
      rw [Array.getElem?_setIfInBounds_self_of_lt (by rw [tcells_size]; exact h), if_pos (by omega)]
    · rw [Array.getElem?_setIfInBounds_ne hk, tcells_at hi]
      congr 2
      by_cases h1 : i < k
      · rw [if_pos h1, if_pos (by omega)]
      · rw [if_neg h1, if_neg (by omega)]
  · rw [Array.getElem?_eq_none (by rw [Array.size_setIfInBounds, tcells_size]; omega), Array.getElem?_eq_none (by rw [tcells_size]; omega)]

/-- The sixteen words where the program laid them. -/
def Halves (w : World) : Prop := ∀ i, i < 16 → w.cell? ⟨1, i, none⟩ = some (word (hv.getD i 0))
theorem Halves.below {w w' : World} (h : Halves w) (hb : Below w.heap.size w w') : Halves w' := fun i hi => (hb.cell (block_lt_of_cell (h i hi))).trans (h i hi)
theorem hv_lt : ∀ i, hv.getD i 0 < 4294967296 := by
  intro i
  by_cases h : i < 16
  · have : ∀ i, i < 16 → hv.getD i 0 < 4294967296 := by decide
    exact this i h
  · have h1 : hv.length = 16 := rfl
    simp [List.getD_eq_getElem?_getD, List.getElem?_eq_none (by omega : hv.length ≤ i)]

set_option maxHeartbeats 1000000 in
set_option maxRecDepth 100000 in
theorem steps_any (w : World) (H : Halves w) : Calls Tryd.prog 29 #[] w fun e w' => e = .returned (.agg (tcells 256)) ∧ Below w.heap.size w w' := by
  have HZ := tcells_zero
  have HH := Lib.hid H
  clear H
  go_enter Tryd.func29, Tryd.ntmps29
  go_wp2
  clear HZ
  have B0 : Blk ((w.alloc (.cells (tcells 0) 44)).alloc (.cells (tcells 0) 44)) w.heap.size 44 (tcells 0) := (Blk.new _ _ _).alloc _
  have B1 := blk_new2 w (.cells (tcells 0) 44) 44 (tcells 0)
  have bel := ((Below.refl w.heap.size w).alloc (Nat.le_refl _) (.cells (tcells 0) 44)).alloc (by simp) (.cells (tcells 0) 44)
  generalize (w.alloc (.cells (tcells 0) 44)).alloc (.cells (tcells 0) 44) = w1 at *
  go_loopw [4] (fun s4 wr => ∃ k : Nat, k ≤ 256 ∧ s4 = .int .i64 k ∧ Blk wr w.heap.size 44 (tcells 0) ∧ Blk wr (w.heap.size + 1) 44 (tcells k) ∧ Below w.heap.size w wr) (fun s4 _ => 256 - (intOf s4).toNat)
  case atStart => exact ⟨0, by omega, rfl, B0, B1, bel⟩
  case round =>
    clear B0 B1 bel
    obtain ⟨k, hk, rfl, B0, B1, bel⟩ := hrel
    have H := HH.out.below bel
    by_cases hlt : k < 256
    · obtain ⟨j, hj⟩ : ∃ j, k % 16 = j := ⟨_, rfl⟩
      have hj16 : j < 16 := by omega
      obtain ⟨a, ha⟩ : ∃ a, hv.getD j 0 = a := ⟨_, rfl⟩
      have ha32 : a < 4294967296 := by rw [← ha]; exact hv_lt j
      obtain ⟨x, hx⟩ : ∃ x, k / 16 ^^^ a = x := ⟨_, rfl⟩
      have hx32 : x < 4294967296 := by rw [← hx]; exact xor_lt (by omega) ha32
      obtain ⟨i, hi⟩ : ∃ i, x % 16 = i := ⟨_, rfl⟩
      have hi16 : i < 16 := by omega
      obtain ⟨b, hb⟩ : ∃ b, hv.getD i 0 = b := ⟨_, rfl⟩
      have hb32 : b < 4294967296 := by rw [← hb]; exact hv_lt _
      have ht : a / 16 ^^^ b = tab k := by unfold tab; rw [hj, ha, hx, hi, hb]
      have h1 : bits .and .i64 (k : Int) 15 = (j : Int) := by rw [← hj]; exact i64_mask k 4 (by omega)
      have c1 := H j hj16
      rw [ha] at c1
      have c2 := H i hi16
      rw [hb] at c2
      have h2 : bits .xor .u32 ((k : Int) / 16) (a : Int) = (x : Int) := by rw [← hx]; exact u32_xor_nat (k / 16) a (by omega) ha32
      have h3 : bits .and .u32 (x : Int) 15 = (i : Int) := by rw [← hi, ← nat_mask4]; exact u32_and_nat x 15 hx32 (by decide)
      have h4 : bits .xor .u32 ((a : Int) / 16) (b : Int) = (tab k : Int) := by rw [← ht]; exact u32_xor_nat (a / 16) b (by omega) hb32
      unfold word at c1 c2
      clear hj ha hx hi hb ht H ha32 hx32 hb32
      have c3 := (B1.cell k).trans (tcells_at hlt)
      have f3 := B1.frozen k
      go_wp2
      clear c1 c2 c3 f3 h1 h2 h3 h4
      go_roundw
      case rel => exact ⟨k + 1, by omega, by go_num, B0.far (by simp) _, by rw [← tcells_set k hlt]; exact B1.set_ k _, bel.setCell (by simp) _⟩
      case measure => simp [intOf]; omega
    · have hk' : k = 256 := by omega
      subst hk'
      clear HH H hlt hk
      have sz : (Tryd.prog.info? 44).map (·.size) = some (tcells 256).size := by rw [tcells_size]; kernel_rfl
      go_wp2_with (first | (refine wpList_load_row rfl 44 _ rfl _ rfl _ _ _ _ B1 Tryd.underlying44 rfl sz ?_) | (refine wpList_store_row rfl 44 _ _ rfl _ _ rfl rfl _ _ B0 sz (by rw [tcells_size, tcells_size]) (tcells_one _) ?_))
      exact bodyPost_ret (v := .agg (tcells 256)) (results_cell_row rfl _ _ w.heap.size 44 (tcells 256) (0, 0) _ rfl (setRow_heap _ _ _ _ _ _ B0) Tryd.underlying44 rfl sz) rfl ⟨rfl, below_setRow bel (Nat.le_refl _) _⟩

theorem run_take (s : ByteArray) (k : Nat) (h : k < s.size) (c : Nat) : run (s.data.toList.take (k + 1)) c = tk (run (s.data.toList.take k) c) s[k] := by
  rw [List.take_succ_eq_append_getElem (by simpa using h), run_snoc]; rfl
/-- The check of bytes as the program reckons it. -/
def ofS (s : ByteArray) : Nat := of s.data.toList

set_option maxRecDepth 100000 in
theorem of_any (s : ByteArray) (w : World) (H : Halves w) (hs : s.size ≤ maxLen) : Calls Tryd.prog 13 #[.string s] w fun e w' => e = .returned (.int .u32 (ofS s : Nat)) ∧ Below w.heap.size w w' := by
  unfold maxLen at hs
  have HZ := tcells_zero
  have HS := steps_any w H
  clear H
  have sz : (Tryd.prog.info? 44).map (·.size) = some (tcells 256).size := by rw [tcells_size]; kernel_rfl
  go_enter Tryd.func13, Tryd.ntmps13
  go_wp2_with fail
  refine HS.mono ?_
  rintro e w1 ⟨rfl, bel1⟩
  clear HS
  have B1 := Blk.new w1 44 (tcells 0)
  have bel2 := bel1.alloc bel1.size (.cells (tcells 0) 44)
  go_wp2_with (refine wpList_store_row rfl 44 _ _ rfl _ _ rfl rfl _ _ B1 sz (by rw [tcells_size, tcells_size]) (tcells_one _) ?_)
  clear HZ
  have B2 : Blk ((w1.alloc (.cells (tcells 0) 44)).setRow w1.heap.size (tcells 256)) w1.heap.size 44 (tcells 256) := setRow_heap _ _ _ _ _ _ B1
  have bel3 := below_setRow (g := w1.heap.size) bel2 bel1.size (tcells 256)
  generalize (w1.alloc (.cells (tcells 0) 44)).setRow w1.heap.size (tcells 256) = w2 at *
  clear B1 bel1 bel2 sz
  go_loop [4, 9] (fun s4 s9 => ∃ k : Nat, k ≤ s.size ∧ s9 = .int .i64 k ∧ s4 = .int .u32 (run (s.data.toList.take k) ones : Nat)) (fun _ s9 => s.size - (intOf s9).toNat)
  case atStart => exact ⟨0, Nat.zero_le _, rfl, rfl⟩
  case round =>
    obtain ⟨k, hk, rfl, rfl⟩ := hrel
    by_cases hlt : k < s.size
    · have HR := Lib.hid (run_take s k hlt ones)
      obtain ⟨c, hc⟩ : ∃ c, run (s.data.toList.take k) ones = c := ⟨_, rfl⟩
      have hc32 : c < 4294967296 := by rw [← hc]; exact run_lt _ (by decide)
      have hb := (s[k]).toNat_lt
      obtain ⟨x, hx⟩ : ∃ x, c % 256 ^^^ (s[k]).toNat = x := ⟨_, rfl⟩
      have hx8 : x < 256 := by rw [← hx]; exact Nat.xor_lt_two_pow (n := 8) (by omega) hb
      have e2 := step_eq c _ hb
      rw [hx] at e2
      have ht32 : tab x < 4294967296 := by rw [← s8_lo x hx8]; exact s8_lt (by omega)
      have h1 : bits .xor .u8 ((c : Int) % 256) ((s[k]).toNat : Int) = (x : Int) := by rw [← hx]; exact u8_xor_nat (c % 256) _ (by omega) hb
      have h2 : bits .xor .u32 ((c : Int) / 256) (tab x : Int) = (tk c s[k] : Nat) := by unfold tk; rw [e2]; exact u32_xor_nat (c / 256) _ (by omega) ht32
      have c3 := (B2.cell x).trans (tcells_at hx8)
      rw [if_pos hx8] at c3
      unfold word at c3
      rw [hc] at HR ⊢
      clear hc hx e2 ht32 hc32 hb
      go_wp2
      clear h1 h2 c3
      go_round
      case rel => exact ⟨k + 1, by omega, by go_num, by rw [HR.out]⟩
      case measure => simp [intOf]; omega
    · have hk' : k = s.size := by omega
      have hf : bits .xor .u32 IntKind.u32.max (run (s.data.toList.take k) ones : Nat) = (ofS s : Nat) := by
        have e : s.data.toList.take k = s.data.toList := List.take_of_length_le (by simp; omega)
        rw [e]
        have := u32_xor_nat ones (run s.data.toList ones) (by decide) (run_lt _ (by decide))
        rw [xor_ones _ (run_lt _ (by decide))] at this
        rw [show IntKind.u32.max = ((ones : Nat) : Int) by decide]
        exact this
      clear hk'
      go_wp2
      go_ret
      exact ⟨rfl, bel3⟩

/-- Bits taken out. -/
def its : Nat → Nat → Nat
  | 0, c => c
  | j + 1, c => s1 (its j c)
theorem its_lt : ∀ (j : Nat) {c : Nat}, c < 4294967296 → its j c < 4294967296
  | 0, _, h => h
  | j + 1, _, h => s1_lt (its_lt j h)
theorem its_8 (c : Nat) : its 8 c = s8 c := rfl

set_option maxRecDepth 100000 in
theorem ref_any (s : ByteArray) (w : World) (hs : s.size ≤ maxLen) : Calls Tryd.prog 15 #[.string s] w fun e w' => e = .returned (.int .u32 (ofS s : Nat)) ∧ w = w' := by
  unfold maxLen at hs
  go_enter Tryd.func15, Tryd.ntmps15
  go_wp2
  go_loop [3, 4] (fun s3 s4 => ∃ k : Nat, k ≤ s.size ∧ s4 = .int .i64 k ∧ s3 = .int .u32 (run (s.data.toList.take k) ones : Nat)) (fun _ s4 => s.size - (intOf s4).toNat)
  case atStart => exact ⟨0, Nat.zero_le _, rfl, rfl⟩
  case round =>
    obtain ⟨k, hk, rfl, rfl⟩ := hrel
    by_cases hlt : k < s.size
    · have HR := Lib.hid (run_take s k hlt ones)
      obtain ⟨c, hc⟩ : ∃ c, run (s.data.toList.take k) ones = c := ⟨_, rfl⟩
      have hc32 : c < 4294967296 := by rw [← hc]; exact run_lt _ (by decide)
      have hb := (s[k]).toNat_lt
      obtain ⟨x, hx⟩ : ∃ x, c ^^^ (s[k]).toNat = x := ⟨_, rfl⟩
      have hx32 : x < 4294967296 := by rw [← hx]; exact xor_lt hc32 (by omega)
      have HX := Lib.hid hx32
      have h1 : bits .xor .u32 (c : Int) ((s[k]).toNat : Int) = (x : Int) := by rw [← hx]; exact u32_xor_nat _ _ hc32 (by omega)
      have HE := Lib.hid (show its 8 x = tk c s[k] by unfold tk; rw [hx, its_8])
      rw [hc] at HR ⊢
      clear hc hx hc32 hx32
      go_wp2
      clear h1
      go_loop [3, 5] (fun s3 s5 => ∃ j : Nat, j ≤ 8 ∧ s5 = .int .i64 j ∧ s3 = .int .u32 (its j x : Nat)) (fun _ s5 => 8 - (intOf s5).toNat)
      case atStart => exact ⟨0, Nat.zero_le _, rfl, rfl⟩
      case round =>
        obtain ⟨j, hj, rfl, rfl⟩ := hrel
        by_cases hj8 : j < 8
        · obtain ⟨d, hd⟩ : ∃ d, its j x = d := ⟨_, rfl⟩
          have hd32 : d < 4294967296 := by rw [← hd]; exact its_lt j HX.out
          have HD := Lib.hid (show its (j + 1) x = s1 d by rw [← hd]; rfl)
          rw [hd]
          clear hd
          by_cases hp : d % 2 = 1
          · have hq : ((d : Int) % 2 == 1) = true := by rw [beq_iff_eq]; omega
            have h2 : bits .xor .u32 ((d : Int) / 2) 2197175160 = (s1 d : Nat) := by unfold s1; rw [if_pos hp]; exact u32_xor_nat (d / 2) poly (by omega) (by decide)
            clear hp
            go_wp2
            clear h2 hq
            go_round
            case rel => exact ⟨j + 1, by omega, by go_num, by rw [HD.out]⟩
            case measure => simp [intOf]; omega
          · have hq : ((d : Int) % 2 == 1) = false := by rw [beq_eq_false_iff_ne]; omega
            have HS := Lib.hid (show s1 d = d / 2 by unfold s1; rw [if_neg hp])
            clear hp
            go_wp2
            clear hq
            go_round
            case rel => exact ⟨j + 1, by omega, by go_num, by rw [HD.out, HS.out]; go_num⟩
            case measure => simp [intOf]; omega
        · have hj' : j = 8 := by omega
          subst hj'
          go_wp2
          go_round
          case rel => exact ⟨k + 1, by omega, by go_num, by rw [HR.out, HE.out]⟩
          case measure => simp [intOf]; omega
    · have hk' : k = s.size := by omega
      have hf : bits .xor .u32 (run (s.data.toList.take k) ones : Nat) 4294967295 = (ofS s : Nat) := by
        have e : s.data.toList.take k = s.data.toList := List.take_of_length_le (by simp; omega)
        rw [e]
        have := u32_xor_nat (run s.data.toList ones) ones (run_lt _ (by decide)) (by decide)
        rw [Nat.xor_comm, xor_ones _ (run_lt _ (by decide))] at this
        exact this
      clear hk'
      go_wp2
      go_ret
      exact ⟨rfl, rfl⟩
end Go.Proofs.YtlegkbaaklejnaaDoor.crc
