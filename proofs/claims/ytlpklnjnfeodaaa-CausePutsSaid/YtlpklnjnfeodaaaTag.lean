/- Layer 4: both tags with a number, as a parameter and back. -/
import Derived.Test.YtlpklnjnfeodaaaPar
import Derived.Test.YtlpklnjnfeodaaaNum
namespace Go.Proofs.Ytlpklnjnfeodaaa.par
open Go.ChangeShapes Go.WideShapes Go.ChangeAt Go.RowKit kit oct
set_option maxRecDepth 100000

/-- Three numbers of four bytes, one behind the other: what is left, the error, the numbers. -/
def l1 (s : ByteArray) : ByteArray := rdL s 0 4
def e1 (s : ByteArray) : Int := rdE s 0 4
def l2 (s : ByteArray) : ByteArray := rdL (l1 s) (e1 s) 4
def e2 (s : ByteArray) : Int := rdE (l1 s) (e1 s) 4
def l3 (s : ByteArray) : ByteArray := rdL (l2 s) (e2 s) 4
def e3 (s : ByteArray) : Int := rdE (l2 s) (e2 s) 4
def n1 (s : ByteArray) : Nat := rdN s 4
def n2 (s : ByteArray) : Nat := rdN (l1 s) 4
def n3 (s : ByteArray) : Nat := rdN (l2 s) 4

theorem l1_size (s : ByteArray) : (l1 s).size ≤ s.size := by unfold l1 rdL failL; split <;> simp
theorem l2_size (s : ByteArray) : (l2 s).size ≤ s.size := by
  have h := l1_size s
  unfold l2 rdL failL
  split
  · simp; omega
  · split
    · exact h
    · simp

theorem three_end (s : ByteArray) : endE (l3 s) (e3 s) = 0 ↔ s.size = 12 := by
  unfold endE l3 e3 l2 e2 l1 e1 rdL rdE failL failE
  by_cases a : 4 ≤ s.size
  · simp only [a, if_true]
    by_cases b : 4 ≤ (s.extract 4 s.size).size
    · simp only [b, if_true]
      by_cases c : 4 ≤ ((s.extract 4 s.size).extract 4 (s.extract 4 s.size).size).size
      · simp only [c, if_true]
        simp at a b c ⊢
        omega
      · simp only [c, if_false]
        simp at a b c ⊢
        omega
    · simp only [b, if_false]
      simp at a b ⊢
      omega
  · simp only [a, if_false]
    simp at a ⊢
    omega

theorem three_nums (s : ByteArray) (h : s.size = 12) : n1 s = numV (s.extract 0 4).data.toList ∧ n2 s = numV (s.extract 4 8).data.toList ∧ n3 s = numV (s.extract 8 12).data.toList := by
  have a : 4 ≤ s.size := by omega
  have q1 : l1 s = s.extract 4 12 := by unfold l1 rdL; rw [if_pos a, h]
  have z1 : (s.extract 4 12).size = 8 := by simp; omega
  have q2 : l2 s = s.extract 8 12 := by
    unfold l2 rdL
    rw [q1, if_pos (by omega), z1]
    apply ByteArray.ext
    simp
  have z2 : (s.extract 8 12).size = 4 := by simp; omega
  have x1 : (s.extract 4 12).extract 0 4 = s.extract 4 8 := by apply ByteArray.ext; simp
  have x2 : (s.extract 8 12).extract 0 4 = s.extract 8 12 := by apply ByteArray.ext; simp
  have y1 : n1 s = numV (s.data.toList.take 4) := by unfold n1 rdN; exact if_pos a
  have y2 : n2 s = numV ((l1 s).data.toList.take 4) := by unfold n2 rdN; exact if_pos (by rw [q1]; omega)
  have y3 : n3 s = numV ((l2 s).data.toList.take 4) := by unfold n3 rdN; exact if_pos (by rw [q2]; omega)
  refine ⟨?_, ?_, ?_⟩
  · rw [y1, take_data]
  · rw [y2, q1, take_data, x1]
  · rw [y3, q2, take_data, x2]

theorem three_put (a b c : Nat) (ha : a ≤ 4294967295) (hb : b ≤ 4294967295) (hc : c ≤ 4294967295) : (p4 a ++ p4 b ++ p4 c).size = 12 ∧ n1 (p4 a ++ p4 b ++ p4 c) = a ∧ n2 (p4 a ++ p4 b ++ p4 c) = b ∧ n3 (p4 a ++ p4 b ++ p4 c) = c := by
  have sa := p4_size a
  have sb := p4_size b
  have sc := p4_size c
  have hs : (p4 a ++ p4 b ++ p4 c).size = 12 := by simp [sa, sb, sc]
  obtain ⟨q1, q2, q3⟩ := three_nums _ hs
  refine ⟨hs, ?_, ?_, ?_⟩
  · rw [q1, ByteArray.append_assoc, ext_left _ _ 4 sa, numV_p4 a ha]
  · have e : (p4 a ++ p4 b ++ p4 c).extract 4 8 = p4 b := by
      have key : ∀ S : ByteArray, S.extract 4 8 = (S.extract 4 12).extract 0 4 := fun S => by apply ByteArray.ext; simp
      rw [key, ByteArray.append_assoc, ext_right _ _ 4 12 sa (by simp [sa, sb, sc]), ext_left _ _ 4 sb]
    rw [q2, e, numV_p4 b hb]
  · rw [q3, ext_right _ _ 8 12 (by simp [sa, sb]) hs, numV_p4 c hc]

theorem tags_any (a b c : Int) (w : World) (ha : 0 ≤ a) (ha' : a ≤ 4294967295) (hb : 0 ≤ b) (hb' : b ≤ 4294967295) (hc : 0 ≤ c) (hc' : c ≤ 4294967295) :
    Calls Try.prog 27 #[.int .u32 a, .int .u32 b, .int .u32 c] w fun e w' => e = .returned (.agg #[.int .i64 49160, .string (p4 a ++ p4 b ++ p4 c)]) ∧ Below w.heap.size w w' := by
  have sa : (p4 a).size ≤ 4 := by rw [p4_size]; omega
  have sb : (p4 b).size ≤ 4 := by rw [p4_size]; omega
  have sc : (p4 c).size ≤ 4 := by rw [p4_size]; omega
  go_enter Try.func27, Try.ntmps27
  go_wp2_with fail
  refine (u32_p a _ ha ha').mono ?_
  rintro e w1 ⟨rfl, hb1⟩
  go_wp2_with fail
  refine (u32_p b _ hb hb').mono ?_
  rintro e w2 ⟨rfl, hb2⟩
  go_wp2_with fail
  refine (u32_p c _ hc hc').mono ?_
  rintro e w3 ⟨rfl, hb3⟩
  have bel1 : Below w.heap.size w w1 := ((Below.refl w.heap.size w).alloc (Nat.le_refl _) _).trans (hb1.mono (by simp))
  have bel2 := bel1.trans (hb2.mono bel1.size)
  have bel3 := bel2.trans (hb3.mono bel2.size)
  have B1 := (Blk.new _ _ _).below hb1 (by simp)
  have B3 := (B1.below hb2 B1.lt).below hb3 (B1.below hb2 B1.lt).lt
  have C3 := fun i => B3.cell i
  have F3 := fun i => B3.frozen i
  have hz3 := B3.lt
  clear hb1 hb2 hb3 B1 bel1 bel2
  go_wp2_with fail
  exact bodyPost_ret (v := .agg #[.int .i64 49160, .string (p4 a ++ p4 b ++ p4 c)]) (by simp [results, Try.results27, go_sem, C3, F3, hz3] <;> rfl) rfl ⟨rfl, (bel3.setCell (by simp) _).setCell (by simp) _⟩

/-- What both tags of a parameter come to. -/
def tagsV (t : Int) (s : ByteArray) : Value := if t = 49160 ∧ s.size = 12 ∧ n2 s ≠ 0 ∧ n3 s ≠ 0 then .tuple #[.int .u32 (n1 s), .int .u32 (n2 s), .int .u32 (n3 s), .bool true] else .tuple #[.int .u32 0, .int .u32 0, .int .u32 0, .bool false]
theorem results_tmp4 {fn : Func} {t u v x : Tmp} (h : fn.results = #[.tmp t, .tmp u, .tmp v, .tmp x]) (tmps : Array Value) (P : Program) (w : World) :
    (results fn tmps).run P w = .ok (.tuple #[tmps.getD t undef, tmps.getD u undef, tmps.getD v undef, tmps.getD x undef]) w := by simp [results, h]

theorem asTags_any (t : Int) (s : ByteArray) (w : World) (hs : s.size ≤ maxLen) :
    Calls Try.prog 26 #[.agg #[.int .i64 t, .string s]] w fun e w' => e = .returned (tagsV t s) ∧ Below w.heap.size w w' := by
  have hz1 := l1_size s
  have hz2 := l2_size s
  have b1 := rdN_lt s 4 (by omega)
  have b2 := rdN_lt (l1 s) 4 (by omega)
  have b3 := rdN_lt (l2 s) 4 (by omega)
  have he := three_end s
  have c1 := fun g w h => r32_any g s 0 w h hs
  have c2 := fun g w h => r32_any g (l1 s) (e1 s) w h (by omega)
  have c3 := fun g w h => r32_any g (l2 s) (e2 s) w h (by omega)
  have v1 : t = 49160 → s.size = 12 → n2 s ≠ 0 → n3 s ≠ 0 → tagsV t s = .tuple #[.int .u32 (n1 s), .int .u32 (n2 s), .int .u32 (n3 s), .bool true] := fun a b c d => if_pos ⟨a, b, c, d⟩
  have v0 : ¬ (t = 49160 ∧ s.size = 12 ∧ n2 s ≠ 0 ∧ n3 s ≠ 0) → tagsV t s = .tuple #[.int .u32 0, .int .u32 0, .int .u32 0, .bool false] := fun a => if_neg a
  generalize tagsV t s = V at *
  have q1 : rdN s 4 = n1 s := rfl
  have q2 : rdN (l1 s) 4 = n2 s := rfl
  have q3 : rdN (l2 s) 4 = n3 s := rfl
  have p1 : rdL s 0 4 = l1 s := rfl
  have p2 : rdL (l1 s) (e1 s) 4 = l2 s := rfl
  have p3 : rdL (l2 s) (e2 s) 4 = l3 s := rfl
  have r1 : rdE s 0 4 = e1 s := rfl
  have r2 : rdE (l1 s) (e1 s) 4 = e2 s := rfl
  have r3 : rdE (l2 s) (e2 s) 4 = e3 s := rfl
  rw [q1] at b1
  rw [q2] at b2
  rw [q3] at b3
  rw [q1, p1, r1] at c1
  rw [q2, p2, r2] at c2
  rw [q3, p3, r3] at c3
  clear q1 q2 q3 p1 p2 p3 r1 r2 r3 hz1 hz2
  have hEnd := fun g w h => end_any g (l3 s) (e3 s) w h
  generalize endE (l3 s) (e3 s) = E at *
  generalize l3 s = L3 at *
  generalize e3 s = E3 at *
  generalize l2 s = L2 at *
  generalize e2 s = E2 at *
  generalize l1 s = L1 at *
  generalize e1 s = E1 at *
  generalize n1 s = N1 at *
  generalize n2 s = N2 at *
  generalize n3 s = N3 at *
  have hw : ∀ n : Nat, n < 256 ^ 4 → (n : Int) ≤ 4294967295 := fun n h => by omega
  have b2' := hw _ b2
  have b3' := hw _ b3
  have V1 := Lib.hid v1
  have V0 := Lib.hid v0
  have HE := Lib.hid he
  clear hw b2 b3 v1 v0 he
  go_enter Try.func26, Try.ntmps26
  go_wp2_with (go_at_call 51; refine (new_any _ _).mono ?_; rintro e w1 ⟨rfl, rfl⟩)
  have R0 : RD ((w.alloc (.cells #[.int .i64 t, .string s] 23)).alloc (.cells #[.string s, .int .i64 0] 112)) (w.heap.size + 1) s 0 := blk_new2 w _ _ _
  have P0 : Blk ((w.alloc (.cells #[.int .i64 t, .string s] 23)).alloc (.cells #[.string s, .int .i64 0] 112)) w.heap.size 23 #[.int .i64 t, .string s] := (Blk.new w _ _).alloc _
  have bel0 : Below w.heap.size w ((w.alloc (.cells #[.int .i64 t, .string s] 23)).alloc (.cells #[.string s, .int .i64 0] 112)) := ((Below.refl w.heap.size w).alloc (Nat.le_refl _) _).alloc (by simp) _
  generalize (w.alloc (.cells #[.int .i64 t, .string s] 23)).alloc (.cells #[.string s, .int .i64 0] 112) = w0 at *
  refine (c1 _ _ R0).mono ?_
  rintro e w1 ⟨rfl, R1, t1⟩
  have P1 := t1.blk P0 (by omega)
  have bel1 := t1.below bel0 (by omega) bel0.size
  go_wp2_with fail
  refine (c2 _ _ R1).mono ?_
  rintro e w2 ⟨rfl, R2, t2⟩
  have P2 := t2.blk P1 (by omega)
  have bel2 := t2.below bel1 (by omega) bel1.size
  go_wp2_with fail
  refine (c3 _ _ R2).mono ?_
  rintro e w3 ⟨rfl, R3, t3⟩
  have P3 := t3.blk P2 (by omega)
  have bel3 := t3.below bel2 (by omega) bel2.size
  clear t1 t2 t3 P0 P1 P2 R0 R1 R2 bel0 bel1 bel2 c1 c2 c3
  have C3 := fun i => P3.cell i
  by_cases ht : t = 49160
  · subst ht
    by_cases hE : E = 0
    · have hsz := HE.out.1 hE
      subst hE
      by_cases h2 : N2 = 0
      · have Z := Lib.hid (V0.out (by omega))
        subst h2
        clear hsz
        go_wp2_with (go_at_call 58; refine (hEnd _ _ R3).mono ?_; rintro e w4 ⟨rfl, rfl⟩)
        exact bodyPost_ret (v := .tuple #[.int .u32 0, .int .u32 0, .int .u32 0, .bool false]) (by simp [results, Try.results26, go_sem]) rfl ⟨congrArg Ending.returned Z.out.symm, bel3⟩
      · by_cases h3 : N3 = 0
        · have Z := Lib.hid (V0.out (by omega))
          subst h3
          have g2 : ((N2 : Int) == 0) = false := by simpa using h2
          clear hsz h2
          go_wp2_with (go_at_call 58; refine (hEnd _ _ R3).mono ?_; rintro e w4 ⟨rfl, rfl⟩)
          exact bodyPost_ret (v := .tuple #[.int .u32 0, .int .u32 0, .int .u32 0, .bool false]) (by simp [results, Try.results26, go_sem]) rfl ⟨congrArg Ending.returned Z.out.symm, bel3⟩
        · have Z := Lib.hid (V1.out rfl hsz h2 h3)
          have g2 : ((N2 : Int) == 0) = false := by simpa using h2
          have g3 : ((N3 : Int) == 0) = false := by simpa using h3
          clear hsz h2 h3
          go_wp2_with (go_at_call 58; refine (hEnd _ _ R3).mono ?_; rintro e w4 ⟨rfl, rfl⟩)
          exact bodyPost_ret (v := .tuple #[.int .u32 N1, .int .u32 N2, .int .u32 N3, .bool true]) (by simp [results, Try.results26, go_sem]) rfl ⟨congrArg Ending.returned Z.out.symm, bel3⟩
    · have hsz : ¬ s.size = 12 := fun h => hE (HE.out.2 h)
      have Z := Lib.hid (V0.out (by omega))
      have gE : (E != 0) = true := by simpa using hE
      clear hsz hE
      go_wp2_with (go_at_call 58; refine (hEnd _ _ R3).mono ?_; rintro e w4 ⟨rfl, rfl⟩)
      exact bodyPost_ret (v := .tuple #[.int .u32 0, .int .u32 0, .int .u32 0, .bool false]) (by simp [results, Try.results26, go_sem]) rfl ⟨congrArg Ending.returned Z.out.symm, bel3⟩
  · have Z := Lib.hid (V0.out (by omega))
    have gt : (t != 49160) = true := by simpa using ht
    clear ht
    go_wp2_with fail
    exact bodyPost_ret (v := .tuple #[.int .u32 0, .int .u32 0, .int .u32 0, .bool false]) (by simp [results, Try.results26, go_sem]) rfl ⟨congrArg Ending.returned Z.out.symm, bel3⟩
end Go.Proofs.Ytlpklnjnfeodaaa.par
