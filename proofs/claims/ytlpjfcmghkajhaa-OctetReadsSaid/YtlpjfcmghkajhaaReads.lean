/- Whatever is read of whatever bytes is what the document says, up to the first error. -/
import Derived.Test.YtlpjfcmghkajhaaReadsA
import Derived.Outline
import Derived.LoopTactic
import Derived.Deep.CutBlock
import Derived.Deep.DeepCutAuto
import Derived.Deep.RegionWith
import Derived.BigRegion
namespace Go.Proofs.Ytlpjfcmghkajhaa.oct
open Go.ChangeShapes Go.WideShapes Go.ChangeAt Go.RowKit kit

set_option maxRecDepth 100000 in
set_option maxHeartbeats 8000000 in
theorem reads_law (s : ByteArray) (a : Addr) (len cap : Nat) (v u : Nat → Int) (w : World) (hlc : len ≤ cap) (hcm : cap ≤ maxLen) (hab : 0 < len → a.block < w.heap.size)
    (hv : ∀ i, i < len → w.cell? (a.add (i * 2)) = some (.int .i64 (v i)) ∧ w.cell? (a.add (i * 2 + 1)) = some (.int .i64 (u i))) (hi64 : ∀ i, i < len → -9223372036854775808 ≤ u i ∧ u i ≤ 9223372036854775807) :
    Calls Try.prog 8 #[.string s, .slice (some a) len cap] w fun e w' => e = .returned (.bool true) ∧ Below w.heap.size w w' := by
  unfold maxLen at hcm
  go_enter Try.func8, Try.ntmps8
  go_wp2_with (first | (go_at_call 27; refine (new_any _ _).mono ?_; rintro e w1 ⟨rfl, rfl⟩))
  have hT : (s.extract 0 (min (s.size : Int) 200).toNat).size ≤ 200 := by simp; omega
  generalize s.extract 0 (min (s.size : Int) 200).toNat = T at hT ⊢
  have R0 : RD ((w.alloc (.cells #[.string T, .int .i64 0] 65)).alloc (.cells #[.string T, .int .i64 0] 45)) w.heap.size T 0 := (RD.fresh w T 0).alloc _
  have Q0 : Blk ((w.alloc (.cells #[.string T, .int .i64 0] 65)).alloc (.cells #[.string T, .int .i64 0] 45)) (w.heap.size + 1) 45 #[.string T, .int .i64 0] := blk_new2 w _ _ _
  have bel0 : Below w.heap.size w ((w.alloc (.cells #[.string T, .int .i64 0] 65)).alloc (.cells #[.string T, .int .i64 0] 45)) := ((Below.refl _ _).alloc (Nat.le_refl _) _).alloc (by simp) _
  generalize (w.alloc (.cells #[.string T, .int .i64 0] 65)).alloc (.cells #[.string T, .int .i64 0] 45) = w2 at *
  go_loopw [8] (fun si wr => ∃ (i : Nat) (l : ByteArray) (e : Int), i ≤ len ∧ i ≤ 20 ∧ si = .int .i64 i ∧ RD wr w.heap.size l e ∧ Blk wr (w.heap.size + 1) 45 #[.string l, .int .i64 e] ∧ (e ≠ 0 → l = ByteArray.empty) ∧ l.size ≤ 200 ∧ Below w.heap.size w wr) (fun si _ => 20 - (intOf si).toNat)
  case atStart => exact ⟨0, T, 0, by omega, by omega, rfl, R0, Q0, fun h => absurd rfl h, hT, bel0⟩
  case round =>
    clear R0 Q0 bel0 hT
    obtain ⟨i, l, e, hil, hi2, rfl, R, Q, hinv, hls, bel⟩ := hrel
    have hlm : l.size ≤ maxLen := by unfold maxLen; omega
    have HI := Lib.hid hinv
    have HL := Lib.hid hls
    clear hinv
    by_cases hlt : i < len
    · by_cases h20 : i < 20
      · have hAA : ∀ m n : Nat, (a.add m).add n = a.add (m + n) := fun m n => Addr.add_add a m n
        have hA : ∀ k, (a.add k).block = a.block := fun k => by unfold Addr.add; split <;> rfl
        have hc0 : wr.cell? (a.add (i * 2)) = some (.int .i64 (v i)) := (bel.cell (p := a.add (i * 2)) (by have := hab (by omega); rw [hA]; exact this)).trans (hv i hlt).1
        have hc1 : wr.cell? { block := (a.add (i * 2)).block, off := (a.add (i * 2)).off + 1 } = some (.int .i64 (u i)) := by rw [show ({ block := (a.add (i * 2)).block, off := (a.add (i * 2)).off + 1 } : Addr) = (a.add (i * 2)).add 1 from rfl, hAA]; exact (bel.cell (p := a.add (i * 2 + 1)) (by have := hab (by omega); rw [hA]; exact this)).trans (hv i hlt).2
        obtain ⟨x1, x2⟩ := hi64 i hlt
        clear hv hi64 hA hAA hab
        generalize v i = x at *
        generalize u i = y at *
        obtain ⟨c, hcb, hc7, hc8⟩ : ∃ c : Int, bits .and .i64 x 7 = c ∧ 0 ≤ c ∧ c ≤ 7 := ⟨x % 8, i64_mask x 3 (by omega), by omega, by omega⟩
        go_upto_block 2 with fail
        clear hc0 hc1 hcb
        have A3 := Blk.new wr 47 #[.int .i64 x, .int .i64 y]
        have R3 := Blk.alloc R (.cells #[.int .i64 x, .int .i64 y] 47)
        have Q3 := Blk.alloc Q (.cells #[.int .i64 x, .int .i64 y] 47)
        have bel3 := bel.alloc bel.size (.cells #[.int .i64 x, .int .i64 y] 47)
        have hgA : w.heap.size + 1 < wr.heap.size := Q.lt
        generalize wr.alloc (.cells #[.int .i64 x, .int .i64 y] 47) = w3 at *
        generalize wr.heap.size = gA at *
        clear R Q bel
        have hn : ∀ k : Nat, 0 < k → k ≤ 8 → ∀ w, Calls Try.prog 28 #[.agg #[.string l, .int .i64 e], .int .i64 k] w fun y w' => y = .returned (.tuple #[.agg #[.string (rdL l e k), .int .i64 (rdE l e k)], .int .u64 (rdN l k)]) ∧ Below w.heap.size w w' := by
          intro k hk hk8 w
          obtain ⟨e1, e2, e3⟩ := num_same l e k HI.out hk
          rw [← e1, ← e2, ← e3]
          exact rnum_any l e k w hk8 hlm
        have hn1 : ∀ w, Calls Try.prog 28 #[.agg #[.string l, .int .i64 e], .int .i64 1] w fun y w' => y = .returned (.tuple #[.agg #[.string (rdL l e 1), .int .i64 (rdE l e 1)], .int .u64 (rdN l 1)]) ∧ Below w.heap.size w w' := fun w => hn 1 (by omega) (by omega) w
        have hn2 : ∀ w, Calls Try.prog 28 #[.agg #[.string l, .int .i64 e], .int .i64 2] w fun y w' => y = .returned (.tuple #[.agg #[.string (rdL l e 2), .int .i64 (rdE l e 2)], .int .u64 (rdN l 2)]) ∧ Below w.heap.size w w' := fun w => hn 2 (by omega) (by omega) w
        have hn4 : ∀ w, Calls Try.prog 28 #[.agg #[.string l, .int .i64 e], .int .i64 4] w fun y w' => y = .returned (.tuple #[.agg #[.string (rdL l e 4), .int .i64 (rdE l e 4)], .int .u64 (rdN l 4)]) ∧ Below w.heap.size w w' := fun w => hn 4 (by omega) (by omega) w
        have hn8 : ∀ w, Calls Try.prog 28 #[.agg #[.string l, .int .i64 e], .int .i64 8] w fun y w' => y = .returned (.tuple #[.agg #[.string (rdL l e 8), .int .i64 (rdE l e 8)], .int .u64 (rdN l 8)]) ∧ Below w.heap.size w w' := fun w => hn 8 (by omega) (by omega) w
        clear hn
        have C3 := fun i => Blk.cell Q3 i
        have D3 := fun i => Blk.cell A3 i
        go_cut [9] (fun sm w9 => sm = .bool true ∧ ∃ l' e', RD w9 w.heap.size l' e' ∧ Blk w9 (w.heap.size + 1) 45 #[.string l', .int .i64 e'] ∧ (e' ≠ 0 → l' = ByteArray.empty) ∧ l'.size ≤ 200 ∧ Below w.heap.size w w9)
        case first =>
          rcases (by omega : c = 0 ∨ c = 1 ∨ c = 2 ∨ c = 3 ∨ c = 4 ∨ c = 5 ∨ c = 6 ∨ c = 7) with rfl | rfl | rfl | rfl | rfl | rfl | rfl | rfl
          · have hb1 := rdN_lt l 1 (by omega)
            go_wp2_with (go_at_call 28; refine (hn1 _).mono ?_; rintro y w4 ⟨rfl, hb⟩)
            have R5 := (Blk.below R3 hb R3.lt).alloc (.cells #[.string (rdL l e 1), .int .i64 (rdE l e 1)] 45)
            have Q5 := (Blk.below Q3 hb Q3.lt).alloc (.cells #[.string (rdL l e 1), .int .i64 (rdE l e 1)] 45)
            have A5 := (Blk.below A3 hb A3.lt).alloc (.cells #[.string (rdL l e 1), .int .i64 (rdE l e 1)] 45)
            have P5 := Blk.new w4 45 #[.string (rdL l e 1), .int .i64 (rdE l e 1)]
            have bel4 := bel3.trans (hb.mono bel3.size)
            have bel5 := bel4.alloc bel4.size (.cells #[.string (rdL l e 1), .int .i64 (rdE l e 1)] 45)
            have hgP : w.heap.size + 1 < w4.heap.size := Nat.lt_of_lt_of_le Q3.lt hb.size
            generalize w4.alloc (.cells #[.string (rdL l e 1), .int .i64 (rdE l e 1)] 45) = w5 at *
            generalize w4.heap.size = gP at *
            have CP5 := fun i => Blk.cell P5 i
            have CA5 := fun i => Blk.cell A5 i
            clear hb bel4 C3 D3
            go_region_with (go_at_call 29; (first | refine (r8_any _ l e _ R5 hlm).mono ?_ | refine (r8_any _ l e _ R5.drew hlm).mono ?_); rintro x w6 ⟨rfl, hr, ht⟩; (first | have Q6 := ht.blk Q5 (by omega) | have Q6 := ht.blk Q5.drew (by omega)); (first | have P6 := ht.blk P5 (by omega) | have P6 := ht.blk P5.drew (by omega)); (first | have A6 := ht.blk A5 (by omega) | have A6 := ht.blk A5.drew (by omega)); have CP := fun i => P6.cell i; have CA := fun i => A6.cell i; have CQ := fun i => Q6.cell i; have FQ := fun i => Q6.frozen i; have hz6 := Q6.lt)
            all_goals
              go_wp2_with fail
              go_meet
              refine ⟨(by first | rfl | (rw [IntWalk.i64_in _ (by omega)]; simp)), rdL l e 1, rdE l e 1, (Blk.far (Blk.far hr (by simp) _) (by simp) _), ?_, rd_inv l e 1 HI.out (by omega), Nat.le_trans (rd_size l e 1 HI.out (by omega)) HL.out, ?_⟩
              · simpa using (Q6.set_ 0 (.string (rdL l e 1))).set_ 1 (.int .i64 (rdE l e 1))
              · first
                  | exact ((Touch.below bel5 ht (Nat.le_refl _) bel5.size).setCell (by simp) _).setCell (by simp) _
                  | exact ((Touch.below bel5.drew ht (Nat.le_refl _) bel5.size).setCell (by simp) _).setCell (by simp) _
          · have hb1 := rdN_lt l 2 (by omega)
            go_wp2_with (go_at_call 28; refine (hn2 _).mono ?_; rintro y w4 ⟨rfl, hb⟩)
            have R5 := (Blk.below R3 hb R3.lt).alloc (.cells #[.string (rdL l e 2), .int .i64 (rdE l e 2)] 45)
            have Q5 := (Blk.below Q3 hb Q3.lt).alloc (.cells #[.string (rdL l e 2), .int .i64 (rdE l e 2)] 45)
            have A5 := (Blk.below A3 hb A3.lt).alloc (.cells #[.string (rdL l e 2), .int .i64 (rdE l e 2)] 45)
            have P5 := Blk.new w4 45 #[.string (rdL l e 2), .int .i64 (rdE l e 2)]
            have bel4 := bel3.trans (hb.mono bel3.size)
            have bel5 := bel4.alloc bel4.size (.cells #[.string (rdL l e 2), .int .i64 (rdE l e 2)] 45)
            have hgP : w.heap.size + 1 < w4.heap.size := Nat.lt_of_lt_of_le Q3.lt hb.size
            generalize w4.alloc (.cells #[.string (rdL l e 2), .int .i64 (rdE l e 2)] 45) = w5 at *
            generalize w4.heap.size = gP at *
            have CP5 := fun i => Blk.cell P5 i
            have CA5 := fun i => Blk.cell A5 i
            clear hb bel4 C3 D3
            go_region_with (go_at_call 30; (first | refine (r16_any _ l e _ R5 hlm).mono ?_ | refine (r16_any _ l e _ R5.drew hlm).mono ?_); rintro x w6 ⟨rfl, hr, ht⟩; (first | have Q6 := ht.blk Q5 (by omega) | have Q6 := ht.blk Q5.drew (by omega)); (first | have P6 := ht.blk P5 (by omega) | have P6 := ht.blk P5.drew (by omega)); (first | have A6 := ht.blk A5 (by omega) | have A6 := ht.blk A5.drew (by omega)); have CP := fun i => P6.cell i; have CA := fun i => A6.cell i; have CQ := fun i => Q6.cell i; have FQ := fun i => Q6.frozen i; have hz6 := Q6.lt)
            all_goals
              go_wp2_with fail
              go_meet
              refine ⟨(by first | rfl | (rw [IntWalk.i64_in _ (by omega)]; simp)), rdL l e 2, rdE l e 2, (Blk.far (Blk.far hr (by simp) _) (by simp) _), ?_, rd_inv l e 2 HI.out (by omega), Nat.le_trans (rd_size l e 2 HI.out (by omega)) HL.out, ?_⟩
              · simpa using (Q6.set_ 0 (.string (rdL l e 2))).set_ 1 (.int .i64 (rdE l e 2))
              · first
                  | exact ((Touch.below bel5 ht (Nat.le_refl _) bel5.size).setCell (by simp) _).setCell (by simp) _
                  | exact ((Touch.below bel5.drew ht (Nat.le_refl _) bel5.size).setCell (by simp) _).setCell (by simp) _
          · have hb1 := rdN_lt l 4 (by omega)
            go_wp2_with (go_at_call 28; refine (hn4 _).mono ?_; rintro y w4 ⟨rfl, hb⟩)
            have R5 := (Blk.below R3 hb R3.lt).alloc (.cells #[.string (rdL l e 4), .int .i64 (rdE l e 4)] 45)
            have Q5 := (Blk.below Q3 hb Q3.lt).alloc (.cells #[.string (rdL l e 4), .int .i64 (rdE l e 4)] 45)
            have A5 := (Blk.below A3 hb A3.lt).alloc (.cells #[.string (rdL l e 4), .int .i64 (rdE l e 4)] 45)
            have P5 := Blk.new w4 45 #[.string (rdL l e 4), .int .i64 (rdE l e 4)]
            have bel4 := bel3.trans (hb.mono bel3.size)
            have bel5 := bel4.alloc bel4.size (.cells #[.string (rdL l e 4), .int .i64 (rdE l e 4)] 45)
            have hgP : w.heap.size + 1 < w4.heap.size := Nat.lt_of_lt_of_le Q3.lt hb.size
            generalize w4.alloc (.cells #[.string (rdL l e 4), .int .i64 (rdE l e 4)] 45) = w5 at *
            generalize w4.heap.size = gP at *
            have CP5 := fun i => Blk.cell P5 i
            have CA5 := fun i => Blk.cell A5 i
            clear hb bel4 C3 D3
            go_region_with (go_at_call 31; (first | refine (r32_any _ l e _ R5 hlm).mono ?_ | refine (r32_any _ l e _ R5.drew hlm).mono ?_); rintro x w6 ⟨rfl, hr, ht⟩; (first | have Q6 := ht.blk Q5 (by omega) | have Q6 := ht.blk Q5.drew (by omega)); (first | have P6 := ht.blk P5 (by omega) | have P6 := ht.blk P5.drew (by omega)); (first | have A6 := ht.blk A5 (by omega) | have A6 := ht.blk A5.drew (by omega)); have CP := fun i => P6.cell i; have CA := fun i => A6.cell i; have CQ := fun i => Q6.cell i; have FQ := fun i => Q6.frozen i; have hz6 := Q6.lt)
            all_goals
              go_wp2_with fail
              go_meet
              refine ⟨(by first | rfl | (rw [IntWalk.u32_in _ (by omega)]; simp)), rdL l e 4, rdE l e 4, (Blk.far (Blk.far hr (by simp) _) (by simp) _), ?_, rd_inv l e 4 HI.out (by omega), Nat.le_trans (rd_size l e 4 HI.out (by omega)) HL.out, ?_⟩
              · simpa using (Q6.set_ 0 (.string (rdL l e 4))).set_ 1 (.int .i64 (rdE l e 4))
              · first
                  | exact ((Touch.below bel5 ht (Nat.le_refl _) bel5.size).setCell (by simp) _).setCell (by simp) _
                  | exact ((Touch.below bel5.drew ht (Nat.le_refl _) bel5.size).setCell (by simp) _).setCell (by simp) _
          · have hb1 := rdN_lt l 8 (by omega)
            go_wp2_with (go_at_call 28; refine (hn8 _).mono ?_; rintro y w4 ⟨rfl, hb⟩)
            have R5 := (Blk.below R3 hb R3.lt).alloc (.cells #[.string (rdL l e 8), .int .i64 (rdE l e 8)] 45)
            have Q5 := (Blk.below Q3 hb Q3.lt).alloc (.cells #[.string (rdL l e 8), .int .i64 (rdE l e 8)] 45)
            have A5 := (Blk.below A3 hb A3.lt).alloc (.cells #[.string (rdL l e 8), .int .i64 (rdE l e 8)] 45)
            have P5 := Blk.new w4 45 #[.string (rdL l e 8), .int .i64 (rdE l e 8)]
            have bel4 := bel3.trans (hb.mono bel3.size)
            have bel5 := bel4.alloc bel4.size (.cells #[.string (rdL l e 8), .int .i64 (rdE l e 8)] 45)
            have hgP : w.heap.size + 1 < w4.heap.size := Nat.lt_of_lt_of_le Q3.lt hb.size
            generalize w4.alloc (.cells #[.string (rdL l e 8), .int .i64 (rdE l e 8)] 45) = w5 at *
            generalize w4.heap.size = gP at *
            have CP5 := fun i => Blk.cell P5 i
            have CA5 := fun i => Blk.cell A5 i
            clear hb bel4 C3 D3
            go_region_with (go_at_call 32; (first | refine (r64_any _ l e _ R5 hlm).mono ?_ | refine (r64_any _ l e _ R5.drew hlm).mono ?_); rintro x w6 ⟨rfl, hr, ht⟩; (first | have Q6 := ht.blk Q5 (by omega) | have Q6 := ht.blk Q5.drew (by omega)); (first | have P6 := ht.blk P5 (by omega) | have P6 := ht.blk P5.drew (by omega)); (first | have A6 := ht.blk A5 (by omega) | have A6 := ht.blk A5.drew (by omega)); have CP := fun i => P6.cell i; have CA := fun i => A6.cell i; have CQ := fun i => Q6.cell i; have FQ := fun i => Q6.frozen i; have hz6 := Q6.lt)
            all_goals
              go_wp2_with fail
              go_meet
              refine ⟨(by first | rfl | (rw [IntWalk.u64_in _ (by omega)]; simp)), rdL l e 8, rdE l e 8, (Blk.far (Blk.far hr (by simp) _) (by simp) _), ?_, rd_inv l e 8 HI.out (by omega), Nat.le_trans (rd_size l e 8 HI.out (by omega)) HL.out, ?_⟩
              · simpa using (Q6.set_ 0 (.string (rdL l e 8))).set_ 1 (.int .i64 (rdE l e 8))
              · first
                  | exact ((Touch.below bel5 ht (Nat.le_refl _) bel5.size).setCell (by simp) _).setCell (by simp) _
                  | exact ((Touch.below bel5.drew ht (Nat.le_refl _) bel5.size).setCell (by simp) _).setCell (by simp) _
          · have hp4 : ∀ w1, RD w1 w.heap.size l e → Calls Try.prog 34 #[.pointer (some ⟨w.heap.size, 0, none⟩), .int .i64 y] w1 fun x w' => x = .returned (.string (tkR l e y)) ∧ RD w' w.heap.size (tkS l e y) (tkE l e y) ∧ Touch w.heap.size w1 w' := by
              intro w1 h1
              obtain ⟨e1, e2, e3⟩ := take_same l e y HI.out
              rw [e1, e2, e3]
              exact take_any _ l e y w1 h1 hlm
            go_wp2_with (go_at_call 33; refine (rtake_any l e y _ hlm).mono ?_; rintro y w4 ⟨rfl, hb⟩)
            have R5 := (Blk.below R3 hb R3.lt).alloc (.cells #[.string (tkS l e y), .int .i64 (tkE l e y)] 45)
            have Q5 := (Blk.below Q3 hb Q3.lt).alloc (.cells #[.string (tkS l e y), .int .i64 (tkE l e y)] 45)
            have A5 := (Blk.below A3 hb A3.lt).alloc (.cells #[.string (tkS l e y), .int .i64 (tkE l e y)] 45)
            have P5 := Blk.new w4 45 #[.string (tkS l e y), .int .i64 (tkE l e y)]
            have bel4 := bel3.trans (hb.mono bel3.size)
            have bel5 := bel4.alloc bel4.size (.cells #[.string (tkS l e y), .int .i64 (tkE l e y)] 45)
            have hgP : w.heap.size + 1 < w4.heap.size := Nat.lt_of_lt_of_le Q3.lt hb.size
            generalize w4.alloc (.cells #[.string (tkS l e y), .int .i64 (tkE l e y)] 45) = w5 at *
            generalize w4.heap.size = gP at *
            have CP5 := fun i => Blk.cell P5 i
            have CA5 := fun i => Blk.cell A5 i
            clear hb bel4 C3 D3
            go_region_with (go_at_call 34; (first | refine (hp4 _ R5).mono ?_ | refine (hp4 _ R5.drew).mono ?_); rintro x w6 ⟨rfl, hr, ht⟩; (first | have Q6 := ht.blk Q5 (by omega) | have Q6 := ht.blk Q5.drew (by omega)); (first | have P6 := ht.blk P5 (by omega) | have P6 := ht.blk P5.drew (by omega)); (first | have A6 := ht.blk A5 (by omega) | have A6 := ht.blk A5.drew (by omega)); have CP := fun i => P6.cell i; have CA := fun i => A6.cell i; have CQ := fun i => Q6.cell i; have FQ := fun i => Q6.frozen i; have hz6 := Q6.lt)
            all_goals
              go_wp2_with fail
              go_meet
              refine ⟨rfl, tkS l e y, tkE l e y, (Blk.far (Blk.far hr (by simp) _) (by simp) _), ?_, tk_inv l e y HI.out, Nat.le_trans (tk_size l e y) HL.out, ?_⟩
              · simpa using (Q6.set_ 0 (.string (tkS l e y))).set_ 1 (.int .i64 (tkE l e y))
              · first
                  | exact ((Touch.below bel5 ht (Nat.le_refl _) bel5.size).setCell (by simp) _).setCell (by simp) _
                  | exact ((Touch.below bel5.drew ht (Nat.le_refl _) bel5.size).setCell (by simp) _).setCell (by simp) _
          · have hq5 : ∀ w, Calls Try.prog 33 #[.agg #[.string l, .int .i64 e], .int .i64 l.size] w fun y w' => y = .returned (.tuple #[.agg #[.string ByteArray.empty, .int .i64 e], .string l]) ∧ Below w.heap.size w w' := by
              intro w
              obtain ⟨e1, e2, e3⟩ := rest_same l e HI.out
              have h := rtake_any l e l.size w hlm
              rw [e1, e2, e3] at h
              exact h
            go_wp2_with (go_at_call 33; refine (hq5 _).mono ?_; rintro y w4 ⟨rfl, hb⟩)
            have R5 := (Blk.below R3 hb R3.lt).alloc (.cells #[.string (ByteArray.empty), .int .i64 (e)] 45)
            have Q5 := (Blk.below Q3 hb Q3.lt).alloc (.cells #[.string (ByteArray.empty), .int .i64 (e)] 45)
            have A5 := (Blk.below A3 hb A3.lt).alloc (.cells #[.string (ByteArray.empty), .int .i64 (e)] 45)
            have P5 := Blk.new w4 45 #[.string (ByteArray.empty), .int .i64 (e)]
            have bel4 := bel3.trans (hb.mono bel3.size)
            have bel5 := bel4.alloc bel4.size (.cells #[.string (ByteArray.empty), .int .i64 (e)] 45)
            have hgP : w.heap.size + 1 < w4.heap.size := Nat.lt_of_lt_of_le Q3.lt hb.size
            generalize w4.alloc (.cells #[.string (ByteArray.empty), .int .i64 (e)] 45) = w5 at *
            generalize w4.heap.size = gP at *
            have CP5 := fun i => Blk.cell P5 i
            have CA5 := fun i => Blk.cell A5 i
            clear hb bel4 C3 D3
            go_region_with (go_at_call 35; (first | refine (rest_any _ l e _ R5 hlm).mono ?_ | refine (rest_any _ l e _ R5.drew hlm).mono ?_); rintro x w6 ⟨rfl, hr, ht⟩; (first | have Q6 := ht.blk Q5 (by omega) | have Q6 := ht.blk Q5.drew (by omega)); (first | have P6 := ht.blk P5 (by omega) | have P6 := ht.blk P5.drew (by omega)); (first | have A6 := ht.blk A5 (by omega) | have A6 := ht.blk A5.drew (by omega)); have CP := fun i => P6.cell i; have CA := fun i => A6.cell i; have CQ := fun i => Q6.cell i; have FQ := fun i => Q6.frozen i; have hz6 := Q6.lt)
            all_goals
              go_wp2_with fail
              go_meet
              refine ⟨rfl, ByteArray.empty, e, (Blk.far (Blk.far hr (by simp) _) (by simp) _), ?_, (fun _ => rfl), (by simp), ?_⟩
              · simpa using (Q6.set_ 0 (.string (ByteArray.empty))).set_ 1 (.int .i64 (e))
              · first
                  | exact ((Touch.below bel5 ht (Nat.le_refl _) bel5.size).setCell (by simp) _).setCell (by simp) _
                  | exact ((Touch.below bel5.drew ht (Nat.le_refl _) bel5.size).setCell (by simp) _).setCell (by simp) _
          all_goals
            have hb255 : bits .and .i64 y 255 = y % 256 := i64_mask y 8 (by omega)
            have hp6 : ∀ w1, RD w1 w.heap.size l e → Calls Try.prog 36 #[.pointer (some ⟨w.heap.size, 0, none⟩), .int .i64 (y % 256)] w1 fun x w' => x = .returned (.tuple #[]) ∧ RD w' w.heap.size (fillL l e (y % 256)) (fillE l e (y % 256)) ∧ Touch w.heap.size w1 w' := fun w1 h1 => fill_any _ l e _ w1 h1 hlm (by omega) (by omega)
            have hq6 : ∀ w, Calls Try.prog 37 #[.agg #[.string l, .int .i64 e], .int .i64 (y % 256)] w fun z w' => z = .returned (.agg #[.string (fillL l e (y % 256)), .int .i64 (fillE l e (y % 256))]) ∧ Below w.heap.size w w' := by
              intro w
              have h := rfill_any l e (y % 256) w hlm (by omega) (by omega)
              rw [fill_same l e _ HI.out] at h
              exact h
            go_wp2_with (first | (go_at_call 36; refine (hp6 _ R3).mono ?_; rintro z w4 ⟨rfl, hr, ht⟩; have Q4 := ht.blk Q3 (by omega); have A4 := ht.blk A3 (by omega); have CQ4 := fun i => Q4.cell i; have CA4 := fun i => A4.cell i; have bel4 := Touch.below bel3 ht (Nat.le_refl _) bel3.size) | (go_at_call 37; refine (hq6 _).mono ?_; rintro z w5 ⟨rfl, hb⟩; have Q5 := Blk.below Q4 hb Q4.lt; have R5 := Blk.below hr hb (Blk.lt hr); have CQ5 := fun i => Q5.cell i; have FQ5 := fun i => Q5.frozen i; have hz5 := Q5.lt))
            go_meet
            refine ⟨rfl, fillL l e (y % 256), fillE l e (y % 256), (Blk.far (Blk.far R5 (by simp) _) (by simp) _), ?_, fill_inv l e _ HI.out, Nat.le_trans (fill_size l e _) HL.out, (((bel4.trans (hb.mono bel4.size)).setCell (by simp) _).setCell (by simp) _)⟩
            simpa using (Q5.set_ 0 (.string (fillL l e (y % 256)))).set_ 1 (.int .i64 (fillE l e (y % 256)))
        case rest =>
        obtain ⟨rfl, l', e', R9, Q9, inv9, size9, bel9⟩ := hcut
        have CQ9 := fun i => Blk.cell Q9 i
        have I9 := Lib.hid inv9
        clear inv9 C3 D3 hn1 hn2 hn4 hn8 R3 Q3 A3
        go_upto_region 29 with fail
        go_region_with (first | (go_at_call 38; (first | refine (err_any _ l' e' _ R9).mono ?_ | refine (err_any _ l' e' _ R9.drew).mono ?_); rintro x w' ⟨rfl, rfl⟩) | (go_at_call 39; (first | refine (left_any _ l' e' _ R9).mono ?_ | refine (left_any _ l' e' _ R9.drew).mono ?_); rintro x w' ⟨rfl, rfl⟩))
        all_goals
          go_wp2_with fail
          go_roundw
          case rel => exact ⟨i + 1, l', e', by omega, by omega, by go_num, (by first | exact R9 | exact R9.drew), (by first | exact Q9 | exact Q9.drew), I9.out, size9, (by first | exact bel9 | exact bel9.drew)⟩
          case measure => simp [intOf]; omega
      · have : i = 20 := by omega
        subst this
        go_upto_region 31 with fail
        go_region_with (first | (go_at_call 18; refine (awake3_any _).mono ?_; rintro z w5 ⟨rfl, hb⟩; (first | have R5 := Blk.below R hb R.lt | have R5 := Blk.below R.drew hb R.lt); (first | have Q5 := Blk.below Q hb Q.lt | have Q5 := Blk.below Q.drew hb Q.lt); have CQ5 := fun i => Q5.cell i; (first | have bel5 := bel.trans (hb.mono bel.size) | have bel5 := bel.drew.trans (hb.mono bel.size))) | (go_at_call 40; (first | refine (end_any _ l e _ R6).mono ?_ | refine (end_any _ l e _ R5).mono ?_ | refine (end_any _ l e _ R5.drew).mono ?_); rintro z w' ⟨rfl, rfl⟩) | (go_at_call 41; refine (rend_any l e _).mono ?_; rintro z w6 ⟨rfl, hb6⟩; have bel6 := bel5.trans (hb6.mono bel5.size); have R6 := Blk.below R5 hb6 R5.lt))
        all_goals
          go_wp2_with fail
          go_ret
          exact ⟨rfl, (by first | exact bel6 | exact bel6.drew)⟩
    · have : i = len := by omega
      subst this
      go_upto_region 31 with fail
      go_region_with (first | (go_at_call 18; refine (awake3_any _).mono ?_; rintro z w5 ⟨rfl, hb⟩; (first | have R5 := Blk.below R hb R.lt | have R5 := Blk.below R.drew hb R.lt); (first | have Q5 := Blk.below Q hb Q.lt | have Q5 := Blk.below Q.drew hb Q.lt); have CQ5 := fun i => Q5.cell i; (first | have bel5 := bel.trans (hb.mono bel.size) | have bel5 := bel.drew.trans (hb.mono bel.size))) | (go_at_call 40; (first | refine (end_any _ l e _ R6).mono ?_ | refine (end_any _ l e _ R5).mono ?_ | refine (end_any _ l e _ R5.drew).mono ?_); rintro z w' ⟨rfl, rfl⟩) | (go_at_call 41; refine (rend_any l e _).mono ?_; rintro z w6 ⟨rfl, hb6⟩; have bel6 := bel5.trans (hb6.mono bel5.size); have R6 := Blk.below R5 hb6 R5.lt))
      all_goals
        go_wp2_with fail
        go_ret
        exact ⟨rfl, (by first | exact bel6 | exact bel6.drew)⟩
end Go.Proofs.Ytlpjfcmghkajhaa.oct
