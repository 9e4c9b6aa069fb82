/- Layer 4: requests of an address, and back. -/
import Derived.Test.YtlpklnjnfeodaaaTakeP
namespace Go.Proofs.Ytlpklnjnfeodaaa.par
open Go.ChangeShapes Go.WideShapes Go.ChangeAt Go.RowKit kit oct
set_option maxRecDepth 100000

def isAsk (t : Int) : Prop := t = 49153 ∨ t = 49154 ∨ t = 49156

theorem asReq_kind (t : Int) (s : ByteArray) (w : World) (h : ¬ isAsk t) :
    Calls Try.prog 19 #[.agg #[.int .i64 t, .string s]] w fun e w' => e = .returned (.tuple #[.int .u32 0, .int .u32 0, .bool false]) ∧ Below w.heap.size w w' := by
  unfold isAsk at h
  have x1 : (t != 49153) = true := by simp; omega
  have x2 : (t != 49154) = true := by simp; omega
  have x3 : (t != 49156) = true := by simp; omega
  clear h
  go_enter Try.func19, Try.ntmps19
  go_wp2_with fail
  go_ret3
  exact ⟨rfl, (Below.refl w.heap.size w).alloc (Nat.le_refl _) _⟩

theorem end_0 {l : ByteArray} {e : Int} : endE l e = 0 ↔ e = 0 ∧ l.size = 0 := by
  unfold endE
  split
  · omega
  · omega

/-- The rest of it, with what is read as letters. -/
theorem asReq_core (t : Int) (s l1 L6 : ByteArray) (e1 E6 N1 T : Int) (V : ByteArray) (r : Value) (w : World) (ht : isAsk t) (n0 : 0 ≤ N1) (n1 : N1 ≤ 4294967295)
    (c1 : ∀ g w, RD w g s 0 → Calls Try.prog 57 #[.pointer (some ⟨g, 0, none⟩)] w fun x w' => x = .returned (.int .u32 N1) ∧ RD w' g l1 e1 ∧ oct.Touch g w w')
    (c2 : ∀ g w, RD w g l1 e1 → Calls Try.prog 53 #[.pointer (some ⟨g, 0, none⟩)] w fun x w' => x = .returned (.agg #[.int .i64 T, .string V]) ∧ RD w' g L6 E6 ∧ oct.Touch g w w')
    (hr : (¬ (T = 5 ∧ V.size = 4) ∨ ¬ endE L6 E6 = 0) ∧ r = .tuple #[.int .u32 0, .int .u32 0, .bool false] ∨ (T = 5 ∧ V.size = 4 ∧ endE L6 E6 = 0) ∧ r = .tuple #[.int .u32 N1, .int .u32 (numV V.data.toList), .bool true]) :
    Calls Try.prog 19 #[.agg #[.int .i64 t, .string s]] w fun e w' => e = .returned r ∧ Below w.heap.size w w' := by
  have x : (t != 49153) = false ∨ ((t != 49153) = true ∧ (t != 49154) = false) ∨ ((t != 49153) = true ∧ (t != 49154) = true ∧ (t != 49156) = false) := by
    rcases ht with rfl | rfl | rfl <;> simp
  have HR := Lib.hid hr
  clear hr ht
  go_enter Try.func19, Try.ntmps19
  go_upto_region 1 with fail
  go_cut [21] (fun s21 wx => s21 = .bool false ∧ wx = w.alloc (.cells #[.int .i64 t, .string s] 23))
  case first =>
    rcases x with x | ⟨x, y⟩ | ⟨x, y, z⟩
    all_goals
      go_wp2_with fail
      go_meet
      exact ⟨rfl, rfl⟩
  case rest =>
  obtain ⟨rfl, rfl⟩ := hcut
  clear x
  go_wp2_with (go_at_call 51; refine (new_any _ _).mono ?_; rintro e w1 ⟨rfl, rfl⟩)
  have bel0 : Below w.heap.size w ((w.alloc (.cells #[.int .i64 t, .string s] 23)).alloc (.cells #[.string s, .int .i64 0] 112)) := ((Below.refl w.heap.size w).alloc (Nat.le_refl _) _).alloc (by simp) _
  have R0 : RD ((w.alloc (.cells #[.int .i64 t, .string s] 23)).alloc (.cells #[.string s, .int .i64 0] 112)) (w.heap.size + 1) s 0 := blk_new2 w _ _ _
  refine (c1 _ _ R0).mono ?_
  rintro e w1 ⟨rfl, R1, t1⟩
  have bel1 := t1.below bel0 (by omega) bel0.size
  go_wp2_with fail
  refine (c2 _ _ R1).mono ?_
  rintro e w2 ⟨rfl, R2, t2⟩
  have bel2 := t2.below bel1 (by omega) bel1.size
  clear bel0 bel1 R0 R1 t1 t2 c1 c2
  go_wp2_with fail
  rcases HR.out with ⟨h, rfl⟩ | ⟨⟨rfl, h, he⟩, rfl⟩
  · by_cases hTV : T = 5 ∧ V.size = 4
    · obtain ⟨rfl, hV⟩ := hTV
      have he : ¬ endE L6 E6 = 0 := by rcases h with h | h; exact absurd ⟨rfl, hV⟩ h; exact h
      have hEnd := fun g w h => end_any g L6 E6 w h
      have hx : (endE L6 E6 != 0) = true := by simpa using he
      refine (asAddr_yes V _ hV).mono ?_
      rintro e w3 ⟨rfl, hb3⟩
      have R3 : RD w3 (w.heap.size + 1) L6 E6 := Blk.below R2 hb3 R2.lt
      clear h he hV HR
      generalize endE L6 E6 = E at *
      go_wp2_with (go_at_call 58; refine (hEnd _ _ R3).mono ?_; rintro e w4 ⟨rfl, rfl⟩)
      go_ret3
      exact ⟨rfl, bel2.trans (hb3.mono bel2.size)⟩
    · refine (asAddr_no T V _ hTV).mono ?_
      rintro e w3 ⟨rfl, hb3⟩
      clear h hTV HR
      go_wp2_with fail
      go_ret3
      exact ⟨rfl, bel2.trans (hb3.mono bel2.size)⟩
  · have hEnd := fun g w h => end_any g L6 E6 w h
    rw [he] at hEnd
    refine (asAddr_yes V _ h).mono ?_
    rintro e w3 ⟨rfl, hb3⟩
    have R3 : RD w3 (w.heap.size + 1) L6 E6 := Blk.below R2 hb3 R2.lt
    clear h he HR
    go_wp2_with (go_at_call 58; refine (hEnd _ _ R3).mono ?_; rintro e w4 ⟨rfl, rfl⟩)
    go_ret3
    exact ⟨rfl, bel2.trans (hb3.mono bel2.size)⟩

def IsReq (s : ByteArray) : Prop := s.size = 12 ∧ s.extract 4 8 = ⟨#[0, 5, 0, 8]⟩
theorem req_l1 {s : ByteArray} (h : 4 ≤ s.size) : rdL s 0 4 = s.extract 4 s.size ∧ rdE s 0 4 = 0 := by
  unfold rdL rdE; rw [if_pos h, if_pos h]; exact ⟨rfl, rfl⟩
theorem req_yes {s : ByteArray} (h : IsReq s) : IsP (s.extract 4 12) 8 0 ∧ tN (s.extract 4 12) = 5 ∧ (s.extract 4 12).extract 4 8 = s.extract 8 12 := by
  obtain ⟨h1, h2⟩ := h
  have z : (s.extract 4 12).size = 8 := by simp; omega
  have a : (s.extract 4 12).extract 2 4 = ⟨#[0, 8]⟩ := by
    have : (s.extract 4 12).extract 2 4 = (s.extract 4 8).extract 2 4 := by apply ByteArray.ext; simp
    rw [this, h2]; decide +kernel
  have b : (s.extract 4 12).extract 0 2 = ⟨#[0, 5]⟩ := by
    have : (s.extract 4 12).extract 0 2 = (s.extract 4 8).extract 0 2 := by apply ByteArray.ext; simp
    rw [this, h2]; decide +kernel
  refine ⟨⟨by omega, ?_, by omega, by omega, by omega, by omega, ?_⟩, ?_, ?_⟩
  · rw [a]; decide +kernel
  · apply ByteArray.ext; simp [zeros, strOfNums]
  · obtain ⟨_, _, _, _, _, q⟩ := head_of (l := s.extract 4 12) (by omega)
    rw [q, b]; decide +kernel
  · apply ByteArray.ext; simp
theorem req_no {s : ByteArray} {Z p : Nat} (h4 : 4 ≤ s.size) (H : IsP (s.extract 4 s.size) Z p) (hT : tN (s.extract 4 s.size) = 5) (hV : ((s.extract 4 s.size).extract 4 Z).size = 4) (hE : ((s.extract 4 s.size).extract (Z + p) (s.extract 4 s.size).size).size = 0) : IsReq s := by
  obtain ⟨f4, hZ, lo, hi, hp, hs, hz⟩ := H
  have z : (s.extract 4 s.size).size = s.size - 4 := by simp
  have hZ8 : Z = 8 := by rw [ByteArray.size_extract, z] at hV; omega
  subst hZ8
  have hp0 : p = 0 := by omega
  subst hp0
  have h12 : s.size = 12 := by rw [ByteArray.size_extract, z] at hE; omega
  have e1 : (s.extract 4 s.size).extract 2 4 = ⟨#[0, 8]⟩ := by
    have q := p2_of (s := (s.extract 4 s.size).extract 2 4) (by simp; omega)
    rw [hZ] at q; rw [← q]; decide +kernel
  have e2 : (s.extract 4 s.size).extract 0 2 = ⟨#[0, 5]⟩ := by
    obtain ⟨_, _, _, _, _, q6⟩ := head_of f4
    rw [hT] at q6
    have q7 : numV ((s.extract 4 s.size).extract 0 2).data.toList = 5 := by omega
    have q := p2_of (s := (s.extract 4 s.size).extract 0 2) (by simp; omega)
    rw [q7] at q; rw [← q]; decide +kernel
  refine ⟨h12, ?_⟩
  have : s.extract 4 8 = (s.extract 4 s.size).extract 0 2 ++ (s.extract 4 s.size).extract 2 4 := by
    rw [h12]; apply ByteArray.ext; simp
  rw [this, e1, e2]
  decide +kernel

theorem pT_form (l : ByteArray) (e : Int) : ∃ (T : Int) (V : ByteArray), pT l e = .agg #[.int .i64 T, .string V] ∧ ((pe6 l e = 0 ∧ T = tN l ∧ V = pV l e) ∨ (pe6 l e ≠ 0 ∧ T = 0)) := by
  unfold pT
  by_cases h : pe6 l e = 0
  · rw [if_pos h]; exact ⟨_, _, rfl, .inl ⟨h, rfl, rfl⟩⟩
  · rw [if_neg h]; exact ⟨_, _, rfl, .inr ⟨h, rfl⟩⟩

theorem asReq_yes (t : Int) (s : ByteArray) (w : World) (ht : isAsk t) (h : IsReq s) :
    Calls Try.prog 19 #[.agg #[.int .i64 t, .string s]] w fun e w' => e = .returned (.tuple #[.int .u32 (numV (s.extract 0 4).data.toList), .int .u32 (numV (s.extract 8 12).data.toList), .bool true]) ∧ Below w.heap.size w w' := by
  have hs : s.size = 12 := h.1
  obtain ⟨a, b, c⟩ := req_yes h
  obtain ⟨l1, e1⟩ := req_l1 (s := s) (by omega)
  rw [hs] at l1
  obtain ⟨p6, pv, pl⟩ := take_good a
  have hm : s.size ≤ maxLen := by unfold maxLen; omega
  have hm' : (s.extract 4 12).size ≤ maxLen := by unfold maxLen; simp; omega
  have n1 : rdN s 4 = numV (s.extract 0 4).data.toList := by unfold rdN; rw [if_pos (by omega), take_data]
  have hlt := rdN_lt s 4 (by omega)
  refine asReq_core t s (s.extract 4 12) (pl6 (s.extract 4 12) 0) 0 (pe6 (s.extract 4 12) 0) (numV (s.extract 0 4).data.toList : Nat) 5 (s.extract 8 12) _ w ht (by omega) (by rw [← n1]; omega) (fun g w hr => ?_) (fun g w hr => ?_) (.inr ⟨⟨rfl, by simp; omega, ?_⟩, rfl⟩)
  · have := r32_any g s 0 w hr hm
    rwa [n1, l1, e1] at this
  · have := par.take_any g (s.extract 4 12) 0 w hr hm'
    have hp : pT (s.extract 4 12) 0 = .agg #[.int .i64 5, .string (s.extract 8 12)] := by unfold pT; rw [if_pos p6, b, pv, c]
    rwa [hp] at this
  · rw [end_0]
    refine ⟨p6, ?_⟩
    rw [pl]; simp; omega

theorem asReq_no (t : Int) (s : ByteArray) (w : World) (hm : s.size ≤ maxLen) (h : ¬ (isAsk t ∧ IsReq s)) :
    Calls Try.prog 19 #[.agg #[.int .i64 t, .string s]] w fun e w' => e = .returned (.tuple #[.int .u32 0, .int .u32 0, .bool false]) ∧ Below w.heap.size w w' := by
  by_cases ht : isAsk t
  · have hn : ¬ IsReq s := fun q => h ⟨ht, q⟩
    have hlt := rdN_lt s 4 (by omega)
    have hm' : (rdL s 0 4).size ≤ maxLen := Nat.le_trans (size_rd s 0 4) hm
    obtain ⟨T, V, hf, hc⟩ := pT_form (rdL s 0 4) (rdE s 0 4)
    refine asReq_core t s (rdL s 0 4) (pl6 (rdL s 0 4) (rdE s 0 4)) (rdE s 0 4) (pe6 (rdL s 0 4) (rdE s 0 4)) (rdN s 4 : Nat) T V _ w ht (by omega) (by omega) (fun g w hr => r32_any g s 0 w hr hm) (fun g w hr => ?_) (.inl ⟨?_, rfl⟩)
    · have := par.take_any g (rdL s 0 4) (rdE s 0 4) w hr hm'
      rwa [hf] at this
    · by_cases hTV : T = 5 ∧ V.size = 4
      · right
        intro he
        obtain ⟨p6, z6⟩ := end_0.1 he
        rcases hc with ⟨_, rfl, rfl⟩ | ⟨hc, _⟩
        · obtain ⟨e0, Z, p, H⟩ := take_ok p6
          obtain ⟨h4, _⟩ := rdE_0 e0
          obtain ⟨q1, q2⟩ := req_l1 h4
          rw [q1, q2] at z6
          rw [q1] at H hTV
          rw [q2] at hTV
          obtain ⟨g1, g2, g3⟩ := take_good H
          rw [g3] at z6
          rw [g2] at hTV
          exact hn (req_no h4 H hTV.1 hTV.2 z6)
        · exact hc p6
      · exact .inl hTV
  · exact asReq_kind t s w ht
end Go.Proofs.Ytlpklnjnfeodaaa.par
