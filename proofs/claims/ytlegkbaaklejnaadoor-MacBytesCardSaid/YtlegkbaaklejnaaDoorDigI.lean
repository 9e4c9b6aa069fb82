/- Layer 8: digests of bytes of any length around a block: walked. -/
import Derived.Test.YtlegkbaaklejnaaDoorDigH
import Derived.Lib.QuietBelow
import Derived.BigQuiet
namespace Go.Proofs.YtlegkbaaklejnaaDoor.dig
open Go.ChangeShapes Go.WideShapes Go.ChangeAt Go.RowKit kit byt
open crc (ones xor_ones word)
open oct

theorem set_num {w : World} {g : Nat} {l : List UInt8} (h : IsBytes w g l) (k : Nat) (y : Int) (h0 : 0 ≤ y) (h1 : y < 256) : IsBytes (w.setCell ⟨g, k, none⟩ (.int .u8 y)) g (l.set k (UInt8.ofNat y.toNat)) := by
  have e : Value.int .u8 y = bv (UInt8.ofNat y.toNat) := by
    unfold bv
    rw [UInt8.toNat_ofNat']
    congr 1
    omega
  rw [e]
  exact h.set_ k _
theorem made_bytes (w : World) (m : Nat) (e : TypeId) : IsBytes (w.alloc (.cells (madeCells #[Value.int .u8 0] m) e)) w.heap.size (List.replicate m 0) := by
  refine ⟨by simp, fun j hj => ⟨?_, ?_⟩⟩
  · have hj' : j < m := by simpa using hj
    rw [World.cell?_alloc_mark]
    simp [madeCells, hj', bv, Nat.mod_one]
  · rw [World.frozen?_alloc_mark]; simp
theorem mkBytes (m : Nat) (w : World) (hm : m ≤ 1000000) : (Instr.makeSlice 30 (.int .i64 m) (.int .i64 m)).run Tryd.prog w = .ok (.slice (some ⟨w.heap.size, 0, none⟩) m m) (w.alloc (.cells (madeCells #[Value.int .u8 0] m) 5)) := by
  have h : (Tryd.prog.info? 5).map (fun i => (i.zero, i.size, i.bytes)) = some (some (.int .u8 0), 1, 1) := by kernel_rfl
  cases hi : Tryd.prog.info? 5 with
  | none => rw [hi] at h; cases h
  | some i =>
    rw [hi] at h
    simp only [Option.map_some, Option.some.injEq, Prod.mk.injEq] at h
    obtain ⟨h1, h2, h3⟩ := h
    have := run_make w 30 5 i (.int .u8 0) Tryd.underlying30 hi h1 .i64 .i64 m m (by omega) (by omega) (by rw [h3]; omega) (by omega)
    rw [this, h2]
    simp [Value.cells]

set_option maxRecDepth 100000 in
set_option maxHeartbeats 1000000 in
theorem long_law (n b : Int) (w : World) (S0 : Starts w) (A : Added w) (hb : 0 ≤ b ∧ b < 256) : Calls Tryd.prog 7 #[.int .i64 n, .int .u8 b] w fun e w' => e = .returned (.bool true) ∧ Below w.heap.size w w' := by
  obtain ⟨m, hm⟩ : ∃ m : Nat, n % 256 = (m : Int) := ⟨(n % 256).toNat, by omega⟩
  have hm2 : m < 256 := by omega
  have hk : bits .and .i64 n 255 = (m : Int) := by rw [← hm]; exact i64_mask n 8 (by omega)
  have HS := Lib.hid S0
  have HA := Lib.hid A
  have hMk := fun w => mkBytes m w (by omega)
  clear S0 A hm
  obtain ⟨hb0, hb1⟩ := hb
  go_enter Tryd.func7, Tryd.ntmps7
  go_wp2
  have I0 := made_bytes w m 5
  have bel0 := (Below.refl w.heap.size w).alloc (Nat.le_refl _) (.cells (madeCells #[Value.int .u8 0] m) 5)
  have hl : (List.replicate m (0 : UInt8)).length = m := by simp
  generalize List.replicate m (0 : UInt8) = l at *
  generalize w.alloc (.cells (madeCells #[Value.int .u8 0] m) 5) = w1 at *
  have HL := Lib.hid hl
  clear hMk hk hl
  go_loopw [6] (fun s6 wr => ∃ (k : Nat) (l : List UInt8), k ≤ m ∧ l.length = m ∧ s6 = .int .i64 k ∧ IsBytes wr w.heap.size l ∧ Below w.heap.size w wr) (fun s6 _ => m - (intOf s6).toNat)
  case atStart => exact ⟨0, l, by omega, HL.out, rfl, I0, bel0⟩
  case round =>
    clear I0 bel0 HL
    obtain ⟨k, l, hk, hl, rfl, I1, bel⟩ := hrel
    have HL := Lib.hid hl
    by_cases hlt : k < m
    · obtain ⟨u, hu⟩ : ∃ u, wr.cell? ⟨w.heap.size, k, none⟩ = some u := ⟨_, I1.cell (by omega)⟩
      have hf := I1.free (j := k) (by omega)
      clear hl
      go_wp2
      clear hu hf
      go_roundw
      case rel => exact ⟨k + 1, _, by omega, by rw [List.length_set]; exact HL.out, by go_num, set_num I1 k _ (by omega) (by omega), bel.setCell (Nat.le_refl _) _⟩
      case measure => simp [intOf]; omega
    · clear hl
      have hcv := fun d os => conv_bytes (P := Tryd.prog) Tryd.underlying30 Tryd.underlying5 Tryd.underlying9 (I1.below (below_regrown wr d os) I1.lt) m m HL.out.symm
      have hz : (⟨l.toArray⟩ : ByteArray).size ≤ 1000000 := by have : (⟨l.toArray⟩ : ByteArray).size = l.length := by simp [ByteArray.size]
                                                               rw [this, HL.out]; omega
      have Sr := HS.out.below bel
      have Ar := HA.out.below bel
      have hA := fun d os => awake8 (Sort.grow (redrawn wr d) os) (Sr.below (below_regrown wr d os)) (Ar.below (below_regrown wr d os))
      have hO := fun d os => of_dig ⟨l.toArray⟩ (Sort.grow (redrawn wr d) os) (Sr.below (below_regrown wr d os)) (Ar.below (below_regrown wr d os)) hz
      have hR := fun d os => ref_dig ⟨l.toArray⟩ (Sort.grow (redrawn wr d) os) hz
      clear hz Sr Ar I1
      generalize digS ⟨l.toArray⟩ = D at *
      go_upto_region 6 with (fail)
      refine wp_region_quiet_below (by kernel_rfl) (by kernel_rfl) ?_
      repeat (any_goals (first | go_big_quiet_step ((first | (go_at_call 18; exact Calls.regrown_of (hA _ _)) | (go_at_call 19; exact Calls.regrown_of (hO _ _)) | (go_at_call 20; exact Calls.regrown_of (hR _ _)))) | quiet_step ((first | (go_at_call 18; exact Calls.regrown_of (hA _ _)) | (go_at_call 19; exact Calls.regrown_of (hO _ _)) | (go_at_call 20; exact Calls.regrown_of (hR _ _))))))
      refine wpQuiet_nil ?_
      intro _ hw'
      obtain ⟨⟨dq, osq⟩, hw''⟩ := hw'
      subst hw''
      clear hcv hA hO hR
      go_wp2
      go_ret
      exact ⟨by simp, bel.trans ((below_regrown wr dq osq).mono bel.size)⟩
end Go.Proofs.YtlegkbaaklejnaaDoor.dig
