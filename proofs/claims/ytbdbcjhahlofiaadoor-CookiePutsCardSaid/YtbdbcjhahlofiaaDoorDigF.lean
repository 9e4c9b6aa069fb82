/- Layer 8: the digest of bytes, by the program. -/
import Derived.Test.YtbdbcjhahlofiaaDoorDigE
import Derived.Deep.RegionWith
import Derived.BigRegion
import Derived.Lib.Strings
namespace Go.Proofs.YtbdbcjhahlofiaaDoor.dig
open Go.ChangeShapes Go.WideShapes Go.ChangeAt Go.RowKit kit
open crc (ones xor_ones word)
open oct

/-- The five words of a digest of nothing, where the program laid them. -/
def Starts (w : World) : Prop := ∀ i, i < 5 → w.cell? ⟨0, i, none⟩ = some (word ([start.a, start.b, start.c, start.d, start.e].getD i 0))
theorem Starts.below {w w' : World} (h : Starts w) (hb : Below w.heap.size w w') : Starts w' := fun i hi => (hb.cell (block_lt_of_cell (h i hi))).trans (h i hi)
def digS (s : ByteArray) : ByteArray := ⟨(dig s.data.toList).toArray⟩
theorem mixed_blk (B : ByteArray) (s : St) (w : World) (A : Added w) (hs : s.ok) : Calls Tryd.prog 48 #[.agg (cells5 s), .agg (rowOf 80 (wl B.data.toList 80))] w fun e w' => e = .returned (.agg (cells5 (blk B.data.toList s))) ∧ Below w.heap.size w w' :=
  mixed_any s _ w A hs (wl_len _ 80) (wl_lt _ 80)
theorem bl_succ (P : ByteArray) (k : Nat) (h : 64 * (k + 1) ≤ P.size) : bl P.data.toList (k + 1) = blk (P.extract (64 * k) (64 * k + 64)).data.toList (bl P.data.toList k) := by
  show blk ((P.data.toList.drop (64 * k)).take 64) (bl P.data.toList k) = _
  congr 1
  simp only [ByteArray.data_extract, Array.toList_extract, List.extract_eq_take_drop]
  congr 1
  omega

def strLen : Value → Nat
  | .string b => b.size
  | _ => 0
theorem ne_list (S : ByteArray) (h : 64 ≤ S.size) : S.toList.isEmpty = false := by
  rw [Lib.toList_data, List.isEmpty_eq_false_iff]
  intro e
  have h0 : S.data.toList.length = 0 := by rw [e]; rfl
  have h1 : S.data.toList.length = S.size := by simp
  omega
theorem emp_list (S : ByteArray) (h : S.size = 0) : S.toList.isEmpty = true := by
  rw [Lib.toList_data, List.isEmpty_iff]
  exact List.length_eq_zero_iff.1 (by simpa using h)
theorem set5 {w : World} {g : Nat} {ty : TypeId} {t : St} (B : Blk w g ty (cells5 t)) (t1 : St) : Blk (((((w.setCell ⟨g, 0, none⟩ (.int .u32 (t1.a : Int))).setCell ⟨g, 1, none⟩ (.int .u32 (t1.b : Int))).setCell ⟨g, 2, none⟩ (.int .u32 (t1.c : Int))).setCell ⟨g, 3, none⟩ (.int .u32 (t1.d : Int))).setCell ⟨g, 4, none⟩ (.int .u32 (t1.e : Int))) g ty (cells5 t1) :=
  ((((B.set_ 0 (.int .u32 (t1.a : Int))).set_ 1 (.int .u32 (t1.b : Int))).set_ 2 (.int .u32 (t1.c : Int))).set_ 3 (.int .u32 (t1.d : Int))).set_ 4 (.int .u32 (t1.e : Int))
theorem belset5 {a w : World} {g b : Nat} (h : Below b a w) (hg : b ≤ g) (v0 v1 v2 v3 v4 : Value) : Below b a (((((w.setCell ⟨g, 0, none⟩ v0).setCell ⟨g, 1, none⟩ v1).setCell ⟨g, 2, none⟩ v2).setCell ⟨g, 3, none⟩ v3).setCell ⟨g, 4, none⟩ v4) :=
  ((((h.setCell (p := ⟨g, 0, none⟩) hg _).setCell (p := ⟨g, 1, none⟩) hg _).setCell (p := ⟨g, 2, none⟩) hg _).setCell (p := ⟨g, 3, none⟩) hg _).setCell (p := ⟨g, 4, none⟩) hg _
theorem ix0 (a b c d e : Value) (w : World) : (Instr.index 65 (.agg #[a, b, c, d, e]) (.int .i64 0)).run Tryd.prog w = .ok a w := by kernel_rfl
theorem ix1 (a b c d e : Value) (w : World) : (Instr.index 65 (.agg #[a, b, c, d, e]) (.int .i64 1)).run Tryd.prog w = .ok b w := by kernel_rfl
theorem ix2 (a b c d e : Value) (w : World) : (Instr.index 65 (.agg #[a, b, c, d, e]) (.int .i64 2)).run Tryd.prog w = .ok c w := by kernel_rfl
theorem ix3 (a b c d e : Value) (w : World) : (Instr.index 65 (.agg #[a, b, c, d, e]) (.int .i64 3)).run Tryd.prog w = .ok d w := by kernel_rfl
theorem ix4 (a b c d e : Value) (w : World) : (Instr.index 65 (.agg #[a, b, c, d, e]) (.int .i64 4)).run Tryd.prog w = .ok e w := by kernel_rfl
def s4 (n : Nat) : ByteArray := strOfNums (be n 4)
theorem s4_size (n : Nat) : (s4 n).size ≤ 4 := by unfold s4; rw [strOfNums_size, be_length]; omega
theorem s4_data (n : Nat) : (s4 n).data.toList = b4 n := be4_data n
theorem out_str (t : St) : s4 t.a ++ s4 t.b ++ s4 t.c ++ s4 t.d ++ s4 t.e = ⟨(out t).toArray⟩ := by
  apply ByteArray.ext
  apply Array.toList_inj.1
  simp only [ByteArray.data_append, Array.toList_append, s4_data]
  simp [out]
theorem dig_str (s : ByteArray) (n : Nat) (h : (pad s).size = 64 * n) : digS s = ⟨(out (bl (pad s).data.toList n)).toArray⟩ := by
  unfold digS dig
  rw [pad_data]
  have : (padL s.data.toList).length / 64 = n := by
    rw [← pad_data]
    have : (pad s).data.toList.length = (pad s).size := by simp
    omega
  rw [this]
set_option maxRecDepth 100000 in
set_option maxHeartbeats 4000000 in
theorem of_dig (s : ByteArray) (w : World) (S0 : Starts w) (A : Added w) (hs : s.size ≤ 1000000) : Calls Tryd.prog 32 #[.string s] w fun e w' => e = .returned (.string (digS s)) ∧ Below w.heap.size w w' := by
  have hC := fun w => closed_any s w hs
  have hps := pad_size s
  obtain ⟨n, hn⟩ : ∃ n, (pad s).size = 64 * n := ⟨(pad s).size / 64, by omega⟩
  have hn2 : n ≤ 20000 := by omega
  have HN := Lib.hid hn
  have c0 : w.cell? ⟨0, 0, none⟩ = some (.int .u32 (start.a : Int)) := S0 0 (by decide)
  have c1 : w.cell? ⟨0, 1, none⟩ = some (.int .u32 (start.b : Int)) := S0 1 (by decide)
  have c2 : w.cell? ⟨0, 2, none⟩ = some (.int .u32 (start.c : Int)) := S0 2 (by decide)
  have c3 : w.cell? ⟨0, 3, none⟩ = some (.int .u32 (start.d : Int)) := S0 3 (by decide)
  have c4 : w.cell? ⟨0, 4, none⟩ = some (.int .u32 (start.e : Int)) := S0 4 (by decide)
  have HA := Lib.hid A
  clear S0 hs hps hn A
  go_enter Tryd.func32, Tryd.ntmps32
  go_wp2_with fail
  have B0 := Blk.new w 65 (cells5 start)
  have bel0 := (Below.refl w.heap.size w).alloc (Nat.le_refl _) (.cells (cells5 start) 65)
  unfold cells5 word at B0 bel0
  refine (hC _).mono ?_
  rintro e w1 ⟨rfl, hb1⟩
  have B1 := B0.below hb1 B0.lt
  have bel1 := bel0.trans (hb1.mono bel0.size)
  clear hC c0 c1 c2 c3 c4 B0 bel0 hb1
  have hE : pad s = (pad s).extract (64 * 0) (64 * n) := by rw [← HN.out]; simp
  have HE := Lib.hid hE
  clear hE
  go_wp2
  go_loopw [0] (fun s0 wr => ∃ (k : Nat) (S : ByteArray), k ≤ n ∧ S = (pad s).extract (64 * k) (64 * n) ∧ s0 = .string S ∧ Blk wr w.heap.size 65 (cells5 (bl (pad s).data.toList k)) ∧ Below w.heap.size w wr) (fun s0 _ => strLen s0)
  case atStart => exact ⟨0, _, by omega, HE.out, rfl, B1, bel1⟩
  case round =>
    clear B1 bel1
    obtain ⟨k, S, hk, hS, rfl, B1, bel⟩ := hrel
    have hSs : S.size = 64 * (n - k) := by rw [hS, ByteArray.size_extract, HN.out]; omega
    by_cases hlt : k < n
    · have h64 : 64 ≤ S.size := by omega
      have hm : S.size ≤ 1280000 := by omega
      have hem := ne_list S h64
      have hx : (S.extract 0 64).size = 64 := by rw [ByteArray.size_extract]; omega
      have hW := fun w => words_any (S.extract 0 64) w hx
      obtain ⟨t, ht⟩ : ∃ t, bl (pad s).data.toList k = t := ⟨_, rfl⟩
      have htok : t.ok := by rw [← ht]; exact bl_ok _ k
      have hM := fun w A => mixed_blk (S.extract 0 64) t w A htok
      have hb := bl_succ (pad s) k (by rw [HN.out]; omega)
      have e1 : (pad s).extract (64 * k) (64 * k + 64) = S.extract 0 64 := by rw [hS, ByteArray.extract_extract]; congr 1; omega
      rw [e1, ht] at hb
      rw [← hb] at hM
      have e2 : S.extract 64 S.size = (pad s).extract (64 * (k + 1)) (64 * n) := by rw [hSs, hS, ByteArray.extract_extract]; congr 1 <;> omega
      have HR := Lib.hid e2
      rw [ht] at B1
      have A1 := HA.out.below bel
      have HSs := Lib.hid hSs
      clear hS hSs hx ht htok hb e1 e2
      obtain ⟨X, hX⟩ : ∃ X, S.extract 0 64 = X := ⟨_, rfl⟩
      rw [hX] at hW hM
      generalize rowOf 80 (wl X.data.toList 80) = Wd at *
      obtain ⟨t1, ht1⟩ : ∃ t, bl (pad s).data.toList (k + 1) = t := ⟨_, rfl⟩
      have HT1 := Lib.hid ht1
      rw [ht1] at hM
      clear ht1
      have c0 : wr.cell? ⟨w.heap.size, 0, none⟩ = some (.int .u32 (t.a : Int)) := B1.cell 0
      have c1 : wr.cell? ⟨w.heap.size, 1, none⟩ = some (.int .u32 (t.b : Int)) := B1.cell 1
      have c2 : wr.cell? ⟨w.heap.size, 2, none⟩ = some (.int .u32 (t.c : Int)) := B1.cell 2
      have c3 : wr.cell? ⟨w.heap.size, 3, none⟩ = some (.int .u32 (t.d : Int)) := B1.cell 3
      have c4 : wr.cell? ⟨w.heap.size, 4, none⟩ = some (.int .u32 (t.e : Int)) := B1.cell 4
      unfold cells5 word at hM
      have Bd := B1.drew
      have Ad : Added wr.drew := A1
      have beld := bel.drew
      go_upto_region 5 with (fail)
      go_region_with (first | (go_at_call 49; refine (hW _).mono ?_; rintro e w5 ⟨rfl, hb5⟩; have B5 := Bd.below hb5 Bd.lt; have A5 := Ad.below hb5; have bel5 := beld.trans (hb5.mono beld.size); have g0 : w5.cell? ⟨w.heap.size, 0, none⟩ = some (.int .u32 (t.a : Int)) := B5.cell 0; have g1 : w5.cell? ⟨w.heap.size, 1, none⟩ = some (.int .u32 (t.b : Int)) := B5.cell 1; have g2 : w5.cell? ⟨w.heap.size, 2, none⟩ = some (.int .u32 (t.c : Int)) := B5.cell 2; have g3 : w5.cell? ⟨w.heap.size, 3, none⟩ = some (.int .u32 (t.d : Int)) := B5.cell 3; have g4 : w5.cell? ⟨w.heap.size, 4, none⟩ = some (.int .u32 (t.e : Int)) := B5.cell 4) | (go_at_call 48; refine (hM _ ?_).mono ?_; exact A5; rintro e w7 ⟨rfl, hb7⟩; have B7 := B5.below hb7 B5.lt; have bel7 := bel5.trans (hb7.mono bel5.size); have k0 : w7.cell? ⟨w.heap.size, 0, none⟩ = some (.int .u32 (t.a : Int)) := B7.cell 0; have k1 : w7.cell? ⟨w.heap.size, 1, none⟩ = some (.int .u32 (t.b : Int)) := B7.cell 1; have k2 : w7.cell? ⟨w.heap.size, 2, none⟩ = some (.int .u32 (t.c : Int)) := B7.cell 2; have k3 : w7.cell? ⟨w.heap.size, 3, none⟩ = some (.int .u32 (t.d : Int)) := B7.cell 3; have k4 : w7.cell? ⟨w.heap.size, 4, none⟩ = some (.int .u32 (t.e : Int)) := B7.cell 4; have f0 := B7.frozen 0; have f1 := B7.frozen 1; have f2 := B7.frozen 2; have f3 := B7.frozen 3; have f4 := B7.frozen 4))
      all_goals
        go_wp2
        clear k0 k1 k2 k3 k4 f0 f1 f2 f3 f4
        go_roundw
        case rel => exact ⟨k + 1, _, by omega, HR.out, rfl, by rw [HT1.out]; exact set5 B7 t1, belset5 bel7 (Nat.le_refl _) _ _ _ _ _⟩
        case measure => simp only [strLen, ByteArray.size_extract]; omega
    · have hk' : k = n := by omega
      subst hk'
      have hem := emp_list S (by omega)
      have HD := Lib.hid (dig_str s k HN.out)
      clear hS hSs hlt hk HE HN hn2 HA
      obtain ⟨t, ht⟩ : ∃ t, bl (pad s).data.toList k = t := ⟨_, rfl⟩
      rw [ht] at HD B1
      have hok : t.ok := by rw [← ht]; exact bl_ok _ k
      clear ht
      have c0 : wr.cell? ⟨w.heap.size, 0, none⟩ = some (.int .u32 (t.a : Int)) := B1.cell 0
      have c1 : wr.cell? ⟨w.heap.size, 1, none⟩ = some (.int .u32 (t.b : Int)) := B1.cell 1
      have c2 : wr.cell? ⟨w.heap.size, 2, none⟩ = some (.int .u32 (t.c : Int)) := B1.cell 2
      have c3 : wr.cell? ⟨w.heap.size, 3, none⟩ = some (.int .u32 (t.d : Int)) := B1.cell 3
      have c4 : wr.cell? ⟨w.heap.size, 4, none⟩ = some (.int .u32 (t.e : Int)) := B1.cell 4
      obtain ⟨o1, o2, o3, o4, o5⟩ := hok
      have u0 := fun w => u32_any (t.a : Int) w (by omega) (by omega)
      have u1 := fun w => u32_any (t.b : Int) w (by omega) (by omega)
      have u2 := fun w => u32_any (t.c : Int) w (by omega) (by omega)
      have u3 := fun w => u32_any (t.d : Int) w (by omega) (by omega)
      have u4 := fun w => u32_any (t.e : Int) w (by omega) (by omega)
      have z0 := s4_size t.a
      have z1 := s4_size t.b
      have z2 := s4_size t.c
      have z3 := s4_size t.d
      have z4 := s4_size t.e
      rw [← out_str] at HD
      unfold s4 at z0 z1 z2 z3 z4 HD
      clear o1 o2 o3 o4 o5 B1
      generalize strOfNums (be (t.a : Int) 4) = y0 at *
      generalize strOfNums (be (t.b : Int) 4) = y1 at *
      generalize strOfNums (be (t.c : Int) 4) = y2 at *
      generalize strOfNums (be (t.d : Int) 4) = y3 at *
      generalize strOfNums (be (t.e : Int) 4) = y4 at *
      have i0 := fun w => ix0 (.int .u32 (t.a : Int)) (.int .u32 (t.b : Int)) (.int .u32 (t.c : Int)) (.int .u32 (t.d : Int)) (.int .u32 (t.e : Int)) w
      have i1 := fun w => ix1 (.int .u32 (t.a : Int)) (.int .u32 (t.b : Int)) (.int .u32 (t.c : Int)) (.int .u32 (t.d : Int)) (.int .u32 (t.e : Int)) w
      have i2 := fun w => ix2 (.int .u32 (t.a : Int)) (.int .u32 (t.b : Int)) (.int .u32 (t.c : Int)) (.int .u32 (t.d : Int)) (.int .u32 (t.e : Int)) w
      have i3 := fun w => ix3 (.int .u32 (t.a : Int)) (.int .u32 (t.b : Int)) (.int .u32 (t.c : Int)) (.int .u32 (t.d : Int)) (.int .u32 (t.e : Int)) w
      have i4 := fun w => ix4 (.int .u32 (t.a : Int)) (.int .u32 (t.b : Int)) (.int .u32 (t.c : Int)) (.int .u32 (t.d : Int)) (.int .u32 (t.e : Int)) w
      go_wp2
      refine wp_loop_rounds 6 ?_
      rw [rounds_succ]
      go_wp2_with fail
      refine (u0 _).mono ?_
      rintro e w2 ⟨rfl, hb2⟩
      go_wp2
      rw [rounds_succ]
      go_wp2_with fail
      refine (u1 _).mono ?_
      rintro e w3 ⟨rfl, hb3⟩
      go_wp2
      rw [rounds_succ]
      go_wp2_with fail
      refine (u2 _).mono ?_
      rintro e w4 ⟨rfl, hb4⟩
      go_wp2
      rw [rounds_succ]
      go_wp2_with fail
      refine (u3 _).mono ?_
      rintro e w5 ⟨rfl, hb5⟩
      go_wp2
      rw [rounds_succ]
      go_wp2_with fail
      refine (u4 _).mono ?_
      rintro e w6 ⟨rfl, hb6⟩
      go_wp2
      rw [rounds_succ]
      go_wp2
      go_ret
      rw [HD.out]
      have q2 := bel.trans (hb2.mono bel.size)
      have q3 := q2.trans (hb3.mono q2.size)
      have q4 := q3.trans (hb4.mono q3.size)
      have q5 := q4.trans (hb5.mono q4.size)
      exact ⟨rfl, q5.trans (hb6.mono q5.size)⟩
end Go.Proofs.YtbdbcjhahlofiaaDoor.dig
