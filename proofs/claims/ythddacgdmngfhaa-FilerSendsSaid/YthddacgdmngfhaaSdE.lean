/- Layer 40: objects are sent by turns; the statement walked, its first part. -/
import Derived.Test.YthddacgdmngfhaaSdD
import Derived.Deep.RegionLaw
import Derived.Deep.DeepCutAuto
namespace Go.Proofs.Ythddacgdmngfhaa.fil
open Go.Sort (grow)
open Go.ChangeShapes Go.WideShapes Go.ChangeAt Go.RowKit kit oct byt
set_option maxRecDepth 100000

theorem infoO : (Try.prog.info? 57).map (fun i => (i.zero, i.size, i.bytes)) = some (some (.agg #[.int .u32 0, .string ByteArray.empty]), 2, 24) := by kernel_rfl
theorem infoI : (Try.prog.info? 3).map (fun i => (i.zero, i.size, i.bytes)) = some (some (.int .i64 0), 1, 8) := by kernel_rfl
theorem add_blk2 (a : Addr) (i : Nat) : (a.add i).block = a.block := by unfold Addr.add; split <;> rfl
theorem rem_le : ∀ (L : List Sg), (∀ x ∈ L, okS x) → rem L ≤ 9 * L.length
  | [], _ => by simp [rem]
  | x :: r, h => by
    have h1 := rem_le r (fun y hy => h y (List.mem_cons_of_mem _ hy))
    have h2 := (h x List.mem_cons_self).2.1
    have h3 : rm x ≤ 9 := by unfold rm; omega
    simp only [rem, List.length_cons]
    omega
theorem rem_pos : ∀ (L : List Sg), (∀ x ∈ L, okS x) → L.length ≤ rem L
  | [], _ => by simp
  | x :: r, h => by
    have h1 := rem_pos r (fun y hy => h y (List.mem_cons_of_mem _ hy))
    have h2 := okS_rm (h x List.mem_cons_self)
    simp only [rem, List.length_cons]
    omega
/-- What has been put: the numbers in order, nothing sent. -/
def fresh (L : List Sg) : Prop := ∀ (j : Nat) (x : Sg), L[j]? = some x → x.i = j ∧ x.a = 0 ∧ x.d.size ≤ 4095
theorem fresh_snoc {L : List Sg} (h : fresh L) {D : ByteArray} (hD : D.size ≤ 4095) : fresh (L ++ [⟨L.length, D, 0⟩]) := by
  intro j x hx
  by_cases hj : j < L.length
  · rw [List.getElem?_append_left hj] at hx
    exact h j x hx
  · rw [List.getElem?_append_right (by omega)] at hx
    have h0 : j - L.length = 0 := by
      rcases Nat.eq_zero_or_pos (j - L.length) with h0 | h0
      · exact h0
      · rw [List.getElem?_eq_none (by simp; omega)] at hx; cases hx
    rw [h0] at hx
    obtain rfl : _ = x := Option.some.inj hx
    exact ⟨by dsimp only; omega, rfl, hD⟩
theorem fresh_no {L : List Sg} (h : fresh L) : ∀ x ∈ L, x.i ≠ L.length := by
  intro x hx e
  obtain ⟨j, hj⟩ := List.mem_iff_getElem?.1 hx
  have := (h j x hj).1
  have := (List.getElem?_eq_some_iff.1 hj).1
  omega
theorem fresh_ok {L : List Sg} (h : fresh L) (hl : L.length ≤ 6) : ∀ x ∈ L, okS x := by
  intro x hx
  obtain ⟨j, hj⟩ := List.mem_iff_getElem?.1 hx
  obtain ⟨h1, h2, h3⟩ := h j x hj
  have := (List.getElem?_eq_some_iff.1 hj).1
  exact ⟨by omega, h3, ⟨0, by omega⟩, .inr h2⟩
set_option maxHeartbeats 8000000 in
theorem sends_walk (ol : Option Addr) (al : Addr) (nl cl : Nat) (sv : Nat → ByteArray) (oz : Option Addr) (az : Addr) (nz cz : Nat) (zv : Nat → Int) (w : World)
    (hlc : nl ≤ cl) (hcm : cl ≤ maxLen) (hol : 0 < nl → ol = some al) (hal : 0 < nl → al.block < w.heap.size) (hsv : ∀ i, i < nl → w.cell? (al.add i) = some (.string (sv i)) ∧ (sv i).size ≤ maxLen)
    (hzc : nz ≤ cz) (hzm : cz ≤ maxLen) (hoz : 0 < nz → oz = some az) (haz : 0 < nz → az.block < w.heap.size) (hzv : ∀ i, i < nz → w.cell? (az.add i) = some (.int .i64 (zv i))) :
    Calls Try.prog 4 #[.slice ol nl cl, .slice oz nz cz] w fun e w' => e = .returned (.bool true) ∧ Below w.heap.size w w' := by
  obtain ⟨iO, hiO, hzO, hsO, hbO⟩ := info_parts infoO
  obtain ⟨iI, hiI, hzI, hsI, hbI⟩ := info_parts infoI
  unfold maxLen at hcm hzm
  have HL := Lib.hid (And.intro hol (And.intro hal hsv))
  have HZ := Lib.hid (And.intro hoz (And.intro haz hzv))
  clear hol hal hsv hoz haz hzv
  go_enter Try.func4, Try.ntmps4
  go_wp2_with fail
  refine (new_qs _).mono ?_
  rintro e w1 ⟨rfl, s1, bel1⟩
  obtain ⟨g, hg⟩ : ∃ g, w.heap.size = g := ⟨_, rfl⟩
  rw [hg] at s1 bel1
  rw [hg]
  go_upto_region 2 with fail
  have al3 : Below w1.heap.size w1 ((w1.alloc (.cells #[] 57)).alloc (.cells #[] 3)) := ((Below.refl w1.heap.size w1).alloc (Nat.le_refl _) _).alloc (by simp) _
  have F3 : Fs g g (.slice none 0 0) (.slice (some ⟨w1.heap.size, 0, none⟩) 0 0) (.slice (some ⟨w1.heap.size + 1, 0, none⟩) 0 0) [] [] ((w1.alloc (.cells #[] 57)).alloc (.cells #[] 3)) :=
    ⟨s1.below al3 (Nat.le_refl _), Qo.empty _ _ _ _, Qo.empty _ _ _ _, (fun h => by cases h), (fun h => by cases h), (fun k h => by cases h), (fun k h => by cases h)⟩
  have hg1 : g < w1.heap.size := s1.B.lt
  have bel3 := bel1.trans (al3.mono (Nat.le_of_lt hg1))
  clear s1 bel1 al3
  generalize (w1.alloc (.cells #[] 57)).alloc (.cells #[] 3) = w3 at *
  generalize w1.heap.size = x1 at *
  go_wp2_with fail
  go_loopw [6, 7, 8] (fun s6 s7 s8 wr => ∃ (i : Nat) (L : List Sg) (qv lv av : Value), lv = s6 ∧ av = s7 ∧ i ≤ nl ∧ i ≤ nz ∧ i ≤ 6 ∧ s8 = .int .i64 i ∧ L.length = i ∧ fresh L ∧ Fs g g qv lv av L L wr ∧ Below g w wr) (fun _ _ s8 _ => 6 - (intOf s8).toNat)
  case atStart => exact ⟨0, [], _, _, _, rfl, rfl, by omega, by omega, by omega, rfl, rfl, fun j x h => by simp at h, F3, bel3⟩
  case round =>
    clear F3 bel3
    obtain ⟨i, L, qv, lv, av, rfl, rfl, hil, hiz, hi6, rfl, hLi, hfr, F, bel⟩ := hrel
    have hgw : g < wr.heap.size := F.s.B.lt
    go_upto_region 3 with fail
    go_cut [33] (fun s33 wx => ∃ b : Bool, s33 = .bool b ∧ (b = true ↔ (i < nl ∧ i < nz ∧ i < 6)) ∧ wr = wx)
    case first =>
      clear HL HZ F bel hfr
      by_cases hlt : (i : Int) < (nl : Int)
      · by_cases hlz : (i : Int) < (nz : Int)
        · by_cases h6 : (i : Int) < 6
          · go_wp2_with fail
            go_meet
            exact ⟨true, by first | rfl | simp [h6], ⟨fun _ => ⟨by omega, by omega, by omega⟩, fun _ => rfl⟩, rfl⟩
          · go_wp2_with fail
            go_meet
            exact ⟨false, by first | rfl | simp [h6], ⟨fun h => (by cases h), fun h => absurd h.2.2 (by omega)⟩, rfl⟩
        · go_wp2_with fail
          go_meet
          exact ⟨false, by first | rfl | simp [hlz], ⟨fun h => (by cases h), fun h => absurd h.2.1 (by omega)⟩, rfl⟩
      · go_wp2_with fail
        go_meet
        exact ⟨false, by first | rfl | simp [hlt], ⟨fun h => (by cases h), fun h => absurd h.1 (by omega)⟩, rfl⟩
    case rest =>
    obtain ⟨b, rfl, hbt, rfl⟩ := hcut
    cases b with
    | true =>
          obtain ⟨hlt, hlz, h6⟩ := hbt.1 rfl
          clear hbt
          have hol := HL.out.1 (by omega)
          have hoz := HZ.out.1 (by omega)
          subst hol
          subst hoz
          have hblk := HL.out.2.1 (by omega)
          have hbzk := HZ.out.2.1 (by omega)
          have hcl : wr.cell? (al.add i) = some (.string (sv i)) := (bel.cell (p := al.add i) (by rw [add_blk2]; omega)).trans (HL.out.2.2 i hlt).1
          have hcz : wr.cell? (az.add i) = some (.int .i64 (zv i)) := (bel.cell (p := az.add i) (by rw [add_blk2]; omega)).trans (HZ.out.2.2 i hlz)
          have hsm := (HL.out.2.2 i hlt).2
          generalize sv i = S at *
          have hmx := i64_mask (zv i) 12 (by omega)
          rw [show ((2 ^ 12 - 1 : Nat) : Int) = 4095 from rfl] at hmx
          obtain ⟨z, hz, hz1⟩ : ∃ z : Nat, bits .and .i64 (zv i) 4095 = z ∧ z ≤ 4095 := ⟨(zv i % (2 ^ 12 : Nat)).toNat, by rw [hmx]; omega, by omega⟩
          generalize zv i = Z at *
          have hby := fun W => bytes_any S Z z hz hz1 hsm W
          clear hmx hz
          have hwi : IntKind.u32.wrap (i : Int) = (i : Int) := by rw [IntKind.wrap_u32]; omega
          go_upto_region 5 with fail
          have HF := Lib.hid (And.intro F hfr)
          clear F hfr
          go_cut [9] (fun s9 wx => ∃ (D : ByteArray) (o : Nat), D.size = z ∧ s9 = .pointer (some ⟨o, 0, none⟩) ∧ wr.heap.size ≤ o ∧ Blk wx o 57 #[.int .u32 i, .string D] ∧ Below wr.heap.size wr wx)
          case first =>
            clear HF HL HZ bel
            have hcl' : wr.drew.cell? (al.add i) = some (.string S) := hcl
            have hcz' : wr.drew.cell? (az.add i) = some (.int .i64 Z) := hcz
            have hclA : (wr.alloc (.cells #[.int .u32 0, .string ⟨#[]⟩] 57)).cell? (al.add i) = some (.string S) := (((Below.refl wr.heap.size wr).alloc (Nat.le_refl _) _).cell (p := al.add i) (by rw [add_blk2]; omega)).trans hcl
            have hczA : (wr.alloc (.cells #[.int .u32 0, .string ⟨#[]⟩] 57)).cell? (az.add i) = some (.int .i64 Z) := (((Below.refl wr.heap.size wr).alloc (Nat.le_refl _) _).cell (p := az.add i) (by rw [add_blk2]; omega)).trans hcz
            have hba : al.block < wr.heap.size := by omega
            have hbz : az.block < wr.heap.size := by omega
            have bw := (Below.refl wr.heap.size wr).drew
            go_region_law ((refine step_call2 (by rfl) 26 Try.f26 _ _ (by rfl) Try.func26 (by kernel_rfl) (by kernel_rfl) #[.string S, .int .i64 Z] (by simp [Act.eval, Act.put]) (hby _) ?_; rintro e w3 ⟨D, hD, rfl, hb3⟩; refine ⟨_, rfl, ?_⟩; (try (have Z3 : Blk w3 wr.heap.size 57 #[.int .u32 0, .string ⟨#[]⟩] := (Blk.new wr.drew _ _).below hb3 (by simp); have z0 : w3.cell? ⟨wr.heap.size, 0, none⟩ = some (.int .u32 0) := Z3.cell 0; have z1 : w3.cell? ⟨wr.heap.size, 1, none⟩ = some (.string ⟨#[]⟩) := Z3.cell 1; have y0 : w3.frozen? ⟨wr.heap.size, 0, none⟩ = false := Z3.frozen 0; have y1 : w3.frozen? ⟨wr.heap.size, 1, none⟩ = false := Z3.frozen 1))))
            all_goals
              go_wp2_with fail
              go_meet
              first
              | exact ⟨D, w3.heap.size, hD, rfl, hb3.size, Blk.new _ _ _, (bw.trans hb3).alloc hb3.size _⟩
              | exact ⟨D, wr.heap.size, hD, rfl, Nat.le_refl _, (Z3.set_ 0 (.int .u32 i)).set_ 1 (.string D), (((bw.alloc (Nat.le_refl _) _).trans (hb3.mono (by simp))).setCell (p := ⟨wr.heap.size, 0, none⟩) (Nat.le_refl _) _).setCell (p := ⟨wr.heap.size, 1, none⟩) (Nat.le_refl _) _⟩
          case rest =>
          obtain ⟨D, o, hDz, rfl, ho, O, bx⟩ := hcut
          generalize wc = w5 at *
          have F5 := HF.out.1.below bx (Nat.le_refl _)
          have bel5 := bel.trans (bx.mono (Nat.le_of_lt hgw))
          clear hby hcl hcz bel
          have o0 : w5.cell? ⟨o, 0, none⟩ = some (.int .u32 i) := O.cell 0
          have o1 : w5.cell? ⟨o, 1, none⟩ = some (.string D) := O.cell 1
          have hpa := put_add i D w5 F5.s (by omega) (by rw [← hLi]; exact fresh_no HF.out.2) (by omega)
          have hg5 : g ≤ w5.heap.size := by have := F5.s.B.lt; omega
          have hog : o ≠ g := by omega
          have hoq : blkOf qv ≠ some o := fun e => by
            have := (HF.out.1.s.q.lt e).2
            omega
          go_wp2_with fail
          refine hpa.mono ?_
          rintro e w6 ⟨rfl, ⟨qv6, s6, hn6⟩, hf6, hs6, hb6⟩
          have O6 : Blk w6 o 57 #[.int .u32 i, .string D] := (hf6 o O.lt hog hoq).trans O
          have F6 := F5.turn s6 hn6 hf6 hs6
          have bel6 := bel5.trans hb6
          clear F5 bel5 s6 hn6 hf6 hb6 o0 o1 O hpa
          have o0 : w6.cell? ⟨o, 0, none⟩ = some (.int .u32 i) := O6.cell 0
          have o1 : w6.cell? ⟨o, 1, none⟩ = some (.string D) := O6.cell 1
          have hpd := put_dup i D w6 F6.s (by simp; omega) ⟨⟨i, D, 0⟩, by simp, rfl⟩ (by omega)
          have hg6 : g ≤ w6.heap.size := by omega
          go_wp2_with fail
          refine hpd.mono ?_
          rintro e w7 ⟨rfl, hb7⟩
          have O7 := O6.below hb7 O6.lt
          have F7 := F6.below hb7 (Nat.le_refl _)
          have bel7 := bel6.trans (hb7.mono hg6)
          have hg7 : g ≤ w7.heap.size := Nat.le_trans hg6 hb7.size
          clear F6 bel6 hb7 o0 o1 O6 hpd
          go_upto_region 8 with fail
          have o0 : w7.cell? ⟨o, 0, none⟩ = some (.int .u32 i) := O7.cell 0
          have o1 : w7.cell? ⟨o, 1, none⟩ = some (.string D) := O7.cell 1
          have HF7 := Lib.hid (And.intro F7 bel7)
          have al8 := (Below.refl w7.heap.size w7).alloc (Nat.le_refl _) (.cells #[.int .u32 i, .string D] 57)
          have ql8 : Qo (w7.alloc (.cells #[.int .u32 i, .string D] 57)) g 2 lv L.length (cellsO L) := F7.l.alloc _
          have src8 : Src Try.prog 2 54 (.slice (some ⟨w7.heap.size, 0, none⟩) 1 1) 1 (cellsO [⟨i, D, 0⟩]) (w7.alloc (.cells #[.int .u32 i, .string D] 57)) := Src.ofSlice _ Try.underlying54 _ 1 1 _ rfl (World.news_of_block (cs := #[.int .u32 i, .string D]) (Blk.new _ _ _)) (cellsO_one _)
          obtain ⟨lv9, w9, hr9, q9, gr9, ha9⟩ := qo_append (P := Try.prog) (ty := 54) Try.underlying54 hiO hzO hsO hbO rfl ql8 src8 (by unfold maxLen; omega) (by omega) (by simp; omega)
          have al10 := (Below.refl w9.heap.size w9).alloc (Nat.le_refl _) (.cells #[.int .i64 0] 3)
          have qa9 : Qo w9 g 1 av L.length (cellsA L) := (F7.a.alloc (.cells #[.int .u32 i, .string D] 57)).block gr9.size fun k hk => gr9.block k (by have := (F7.a.lt hk).2; simp; omega) (fun e => F7.d4 k e.symm hk)
          have qa10 : Qo (w9.alloc (.cells #[.int .i64 0] 3)) g 1 av L.length (cellsA L) := qa9.alloc _
          have src10 : Src Try.prog 1 25 (.slice (some ⟨w9.heap.size, 0, none⟩) 1 1) 1 (cellsA [⟨i, D, 0⟩]) (w9.alloc (.cells #[.int .i64 0] 3)) := Src.ofSlice _ Try.underlying25 _ 1 1 _ rfl (World.news_of_block (cs := #[.int .i64 0]) (Blk.new _ _ _)) (cellsA_one _)
          have hs9 : w7.heap.size + 1 ≤ w9.heap.size := by have := gr9.size; simpa using this
          obtain ⟨av11, w11, hr11, q11, gr11, ha11⟩ := qo_append (P := Try.prog) (ty := 25) Try.underlying25 hiI hzI hsI hbI rfl qa10 src10 (by unfold maxLen; omega) (by omega) (by simp; omega)
          have hs11 : w9.heap.size + 1 ≤ w11.heap.size := by have := gr11.size; simpa using this
          -- where the rows lie
          have hlvb : ∀ k, blkOf lv = some k → k < w7.heap.size := fun k hk => (F7.l.lt hk).2
          have havb : ∀ k, blkOf av = some k → k < w7.heap.size := fun k hk => (F7.a.lt hk).2
          have hqvb : ∀ k, blkOf qv6 = some k → k < w7.heap.size := fun k hk => (F7.s.q.lt hk).2
          have hl9 : ∀ k, blkOf lv9 = some k → blkOf lv = some k ∨ k = w7.heap.size + 1 := fun k hk => by
            rcases ha9 with e | e | e
            · exact .inl (e ▸ hk)
            · rw [e] at hk; simp at hk; exact .inr hk.symm
            · rw [e] at hk; cases hk
          have hl11 : ∀ k, blkOf av11 = some k → blkOf av = some k ∨ k = w9.heap.size + 1 := fun k hk => by
            rcases ha11 with e | e | e
            · exact .inl (e ▸ hk)
            · rw [e] at hk; simp at hk; exact .inr hk.symm
            · rw [e] at hk; cases hk
          have far11 : ∀ k, k < w9.heap.size → blkOf av ≠ some k → w11.heap[k]? = w9.heap[k]? := fun k hk hne => (gr11.block k (by simp; omega) (fun e => hne e.symm)).trans (al10.block k hk)
          have far9 : ∀ k, k < w7.heap.size → blkOf lv ≠ some k → w9.heap[k]? = w7.heap[k]? := fun k hk hne => (gr9.block k (by simp; omega) (fun e => hne e.symm)).trans (al8.block k hk)
          have s11 : Qs g g qv6 (L ++ [⟨i, D, 0⟩]) w11 := F7.s.frame (by omega) fun b hb => by
            have hbs : b < w7.heap.size := by
              rcases hb with rfl | hb
              · exact F7.s.B.lt
              · exact hqvb b hb
            have hbl : blkOf lv ≠ some b := by
              rcases hb with rfl | hb
              · exact F7.d1
              · exact (F7.d3 b hb).1
            have hba : blkOf av ≠ some b := by
              rcases hb with rfl | hb
              · exact F7.d2
              · exact (F7.d3 b hb).2
            exact (far11 b (by omega) hba).trans (far9 b hbs hbl)
          have q9' : Qo w11 g 2 lv9 (L ++ [(⟨i, D, 0⟩ : Sg)]).length (cellsO (L ++ [⟨i, D, 0⟩])) := by
            have := q9.block (w' := w11) (by omega) fun k hk => far11 k (q9.lt hk).2 fun e => by
              rcases hl9 k hk with h | h
              · exact F7.d4 k h e
              · have := havb k e; omega
            rw [List.length_append, cellsO_append]
            exact this
          have q11' : Qo w11 g 1 av11 (L ++ [(⟨i, D, 0⟩ : Sg)]).length (cellsA (L ++ [⟨i, D, 0⟩])) := by
            rw [List.length_append, cellsA_append]
            exact q11
          have d1 : blkOf lv9 ≠ some g := fun e => by
            rcases hl9 _ e with h | h
            · exact F7.d1 h
            · omega
          have d2 : blkOf av11 ≠ some g := fun e => by
            rcases hl11 _ e with h | h
            · exact F7.d2 h
            · omega
          have d3a : ∀ k, blkOf qv6 = some k → blkOf lv9 ≠ some k := fun k hk e => by
            rcases hl9 _ e with h | h
            · exact (F7.d3 k hk).1 h
            · have := hqvb k hk; omega
          have d3b : ∀ k, blkOf qv6 = some k → blkOf av11 ≠ some k := fun k hk e => by
            rcases hl11 _ e with h | h
            · exact (F7.d3 k hk).2 h
            · have := hqvb k hk; omega
          have d4 : ∀ k, blkOf lv9 = some k → blkOf av11 ≠ some k := fun k hk e => by
            rcases hl9 _ hk with h | h
            · rcases hl11 _ e with h' | h'
              · exact F7.d4 k h h'
              · have := hlvb k h; omega
            · rcases hl11 _ e with h' | h'
              · have := havb k h'; omega
              · omega
          have F11 : Fs g g qv6 lv9 av11 (L ++ [⟨i, D, 0⟩]) (L ++ [⟨i, D, 0⟩]) w11 := ⟨s11, q9', q11', d1, d2, fun k hk => And.intro (d3a k hk) (d3b k hk), d4⟩
          have b9 : Below g w w9 := (bel7.alloc hg7 (.cells #[.int .u32 i, .string D] 57)).grown gr9 (by simp; omega) (fun k hk => (ql8.lt hk).1)
          have b11 : Below g w w11 := (b9.alloc (by omega) (.cells #[.int .i64 0] 3)).grown gr11 (by simp; omega) (fun k hk => (qa10.lt hk).1)
          have HR := Lib.hid (And.intro F11 (And.intro b11 (fresh_snoc HF.out.2 (D := D) (by omega))))
          clear F7 bel7 al8 ql8 src8 q9 gr9 ha9 al10 qa9 qa10 src10 q11 gr11 ha11 far11 far9 s11 q9' q11' d1 d2 d3a d3b d4 F11 b9 b11 hl9 hl11 hlvb havb hqvb O7
          go_wp2_with (first | (refine wpList_append_q rfl _ _ _ rfl rfl rfl hr9 ?_) | (refine wpList_append_q rfl _ _ _ rfl rfl rfl hr11 ?_))
          go_roundw
          case rel => exact ⟨i + 1, L ++ [⟨i, D, 0⟩], qv6, lv9, av11, rfl, rfl, by omega, by omega, by omega, by go_num, by simp [hLi], by rw [← hLi] at HR ⊢; exact HR.out.2.2, HR.out.1, HR.out.2.1⟩
          case measure => simp [intOf]; omega
    | false =>
      have hLok := fresh_ok hfr (by omega)
      have hrem := rem_le L hLok
      clear hbt
      go_wp2_with fail
      go_loopw [6, 7, 10, 11] (fun s6 s7 s10 s11 wx => ∃ (kk : Nat) (B F' : List Sg) (qv lv av : Value), lv = s6 ∧ av = s7 ∧ s10 = .int .i64 B.length ∧ s11 = .int .i64 kk ∧ (∀ x ∈ B ++ F', okS x) ∧ (B ++ F').length ≤ 6 ∧ kk + rem (B ++ F') ≤ 54 ∧ Fs g g qv lv av (F' ++ B) (B ++ F') wx ∧ Below g w wx) (fun _ _ _ s11 _ => 55 - (intOf s11).toNat)
      case atStart => exact ⟨0, [], L, qv, _, _, rfl, rfl, rfl, rfl, hLok, by simpa using (show L.length ≤ 6 by omega), by simp; omega, by simpa using F, bel⟩
      case round =>
        clear F bel hfr hLok hrem hgw
        obtain ⟨kk, B, F', qv, lv, av, rfl, rfl, rfl, rfl, hok, hlen, hrem, F, bel⟩ := hrel
        have hk54 : (kk : Int) < 200 := by omega
        have hk55 : kk ≤ 54 := by omega
        have hgw : g < wr.heap.size := F.s.B.lt
        by_cases hne : 0 < (B ++ F').length
        · -- by turns
          obtain ⟨B', x, F2, hL, hQ, htm⟩ : ∃ (B' : List Sg) (x : Sg) (F2 : List Sg), B ++ F' = B' ++ x :: F2 ∧ F' ++ B = x :: (F2 ++ B') ∧ (B.length : Int).tmod ((B ++ F').length : Int) = (B'.length : Int) := by
            cases F' with
            | nil =>
              cases B with
              | nil => simp at hne
              | cons x F2 => exact ⟨[], x, F2, by simp, by simp, by simp [Int.tmod_self]⟩
            | cons x F2 => exact ⟨B, x, F2, rfl, by simp, Int.tmod_eq_of_lt (by omega) (by simp; omega)⟩
          rw [hL] at F hok hlen hrem htm hne
          rw [hQ] at F
          clear hL hQ
          obtain ⟨hxi, hxd, ⟨k, hxk⟩, hxa⟩ := hok x (by simp)
          have hrx := okS_rm (hok x (by simp))
          obtain ⟨n, hn⟩ : ∃ n, B'.length = n := ⟨_, rfl⟩
          have hBn : n < (B' ++ x :: F2).length := by simp; omega
          have hQN : (x :: (F2 ++ B') : List Sg).length = (B' ++ x :: F2).length := by simp; omega
          have HLs := Lib.hid (And.intro hok (And.intro hlen (And.intro hrem (And.intro hn hQN))))
          rw [hn] at htm
          obtain ⟨gl, ofl, cpl, hlv, hl1, hl2, _, _, hbl, hKl⟩ := F.l.show_ hne
          obtain ⟨ga, ofa, cpa, hav, ha1, ha2, _, _, hba, hKa⟩ := F.a.show_ hne
          have Kl : Cel wr gl (ofl + n * 2) #[.int .u32 x.i, .string x.d] := hKl n _ hBn (by show 2 ≤ 2; omega) (fun j hj => by rw [← hn]; exact cellsO_mid B' F2 x j hj)
          have hgl := Kl.1
          subst hlv
          subst hav
          clear hKl hKa Kl
          have hpk := peek_qs F.s k hxk (by omega) (by omega) (by omega)
          have HXK := Lib.hid hxk
          have hpr := fun W => piece_ref x.i k x.d W (by omega) (by omega) (by omega)
          rw [← hxk] at hpr
          clear hxk
          obtain ⟨N, hN⟩ : ∃ N, (B' ++ x :: F2).length = N := ⟨_, rfl⟩
          have HN := Lib.hid hN
          rw [hN] at htm hBn hlen hl1 ha1 hne ⊢
          clear hrem hok hQN hn
          have hgt0 : (0 : Int) < (N : Int) := by omega
          have hnz : ¬ (N : Int) = 0 := by omega
          have hnN : (n : Int) < (N : Int) := by omega
          unfold maxLen at hl2 ha2
          clear hN
          go_upto_region 14 with fail
          clear htm
          have HF := Lib.hid (And.intro F (And.intro bel (And.intro hbl hba)))
          clear F bel hbl hba
          obtain ⟨PC, hPC⟩ : ∃ PC, pcsK x.i x.d k = PC := ⟨_, rfl⟩
          rw [hPC] at hpk hpr
          go_wp2_with fail
          refine hpk.mono ?_
          rintro e w13 ⟨rfl, hb13⟩
          have F13 := HF.out.1.below hb13 (Nat.le_refl _)
          have bel13 := HF.out.2.1.trans (hb13.mono (Nat.le_of_lt hgw))
          have hg13 : g ≤ w13.heap.size := Nat.le_trans (Nat.le_of_lt hgw) hb13.size
          clear hpk hb13
          go_upto_region 15 with fail
          obtain ⟨gl', ofl', cpl', hlv, _, _, _, _, _, hKl⟩ := F13.l.show_ (by rw [HN.out]; exact hne)
          obtain ⟨ga', ofa', cpa', hav, _, _, _, _, _, hKa⟩ := F13.a.show_ (by rw [HN.out]; exact hne)
          simp only [Value.slice.injEq, Option.some.injEq, Addr.mk.injEq, and_true, true_and] at hlv hav
          obtain ⟨⟨rfl, rfl⟩, -, rfl⟩ := hlv
          obtain ⟨⟨rfl, rfl⟩, -, rfl⟩ := hav
          have Kl : Cel w13 gl (ofl + n * 2) #[.int .u32 x.i, .string x.d] := hKl n _ (by rw [HN.out]; exact hBn) (by show 2 ≤ 2; omega) (fun j hj => by rw [← HLs.out.2.2.2.1]; exact cellsO_mid B' F2 x j hj)
          have Ka : Cel w13 ga (ofa + n * 1) #[.int .i64 x.a] := hKa n _ (by rw [HN.out]; exact hBn) (by show 1 ≤ 1; omega) (fun j hj => by
            obtain rfl : j = 0 := by have : j < 1 := hj; omega
            have := cellsA_mid B' F2 x
            rw [HLs.out.2.2.2.1] at this
            rw [Nat.mul_one, Nat.add_zero, this]; rfl)
          have y0 : w13.cell? ⟨gl, ofl + n * 2, none⟩ = some (.int .u32 x.i) := by have := Kl.cell 0 (u := .int .u32 x.i) rfl; simpa using this
          have y1 : w13.cell? ⟨gl, ofl + n * 2 + 1, none⟩ = some (.string x.d) := Kl.cell 1 rfl
          have ya : w13.cell? ⟨ga, ofa + n, none⟩ = some (.int .i64 x.a) := by have := Ka.cell 0 (u := .int .i64 x.a) rfl; simpa using this
          clear hKl hKa Kl Ka
          have k0 := cell_regrown y0
          have k1 := cell_regrown y1
          have k2 := cell_regrown ya
          have hll : ∀ (dd : Nat) (oo : Array Obj), Calls Try.prog 30 #[.pointer (some ⟨g, 0, none⟩)] (grow (redrawn w13 dd) oo) fun e w' => e = .returned (.int .i64 (N : Int)) ∧ Below (grow (redrawn w13 dd) oo).heap.size (grow (redrawn w13 dd) oo) w' := fun dd oo => by
            have h := len_qs (F13.s.below (below_regrown w13 dd oo) (Nat.le_refl _))
            rw [HLs.out.2.2.2.2, HN.out] at h
            refine h.mono ?_
            rintro e w' ⟨rfl, rfl⟩
            exact ⟨rfl, Below.refl _ _⟩
          refine wp_region_quiet_below (by kernel_rfl) (by kernel_rfl) ?_
          repeat (any_goals (first | go_big_quiet_step ((first | (go_at_call 29; with_reducible exact Calls.regrown_of (hpr _)) | (go_at_call 30; with_reducible exact Calls.regrown_of (hll _ _)))) | quiet_step ((first | (go_at_call 29; with_reducible exact Calls.regrown_of (hpr _)) | (go_at_call 30; with_reducible exact Calls.regrown_of (hll _ _))))))
          refine wpQuiet_nil ?_
          intro _ hw'
          obtain ⟨⟨dq, osq⟩, hw''⟩ := hw'
          subst hw''
          have b14 := below_regrown w13 dq osq
          have F14 := F13.below b14 (Nat.le_refl _)
          have bel14 := bel13.trans (b14.mono hg13)
          have hg14 : g ≤ (grow (redrawn w13 dq) osq).heap.size := Nat.le_trans hg13 b14.size
          clear hpr hll k0 k1 k2 y0 y1 ya F13 bel13 b14 hg13 hPC
          generalize grow (redrawn w13 dq) osq = w14 at *
          have hdn := done_qs F14.s (by rw [List.length_append]; have := HN.out; simp at this; omega) (by omega) (by omega)
          go_wp2_with fail
          refine hdn.mono ?_
          rintro e w16 ⟨rfl, ⟨qv', s16, hn16⟩, hf16, hs16, hb16⟩
          have F16 := F14.turn s16 hn16 hf16 hs16
          have bel16 := bel14.trans hb16
          have hg16 : g ≤ w16.heap.size := Nat.le_trans hg14 hs16
          clear hdn F14 bel14 s16 hn16 hf16 hb16
          rw [HN.out] at F16
          obtain ⟨ga', ofa', cpa', hav, _, _, _, _, hba16, hKa⟩ := F16.a.show_ (by rw [HN.out]; exact hne)
          simp only [Value.slice.injEq, Option.some.injEq, Addr.mk.injEq, and_true, true_and] at hav
          obtain ⟨⟨rfl, rfl⟩, -, rfl⟩ := hav
          have Ka : Cel w16 ga (ofa + n * 1) #[.int .i64 x.a] := hKa n _ (by rw [HN.out]; exact hBn) (by show 1 ≤ 1; omega) (fun j hj => by
            obtain rfl : j = 0 := by have : j < 1 := hj; omega
            have := cellsA_mid B' F2 x
            rw [HLs.out.2.2.2.1] at this
            rw [Nat.mul_one, Nat.add_zero, this]; rfl)
          have ya : w16.cell? ⟨ga, ofa + n, none⟩ = some (.int .i64 x.a) := by have := Ka.cell 0 (u := .int .i64 x.a) rfl; simpa using this
          have fa : w16.frozen? ⟨ga, ofa + n, none⟩ = false := by have := Ka.frozen 0 (by show 0 < 1; omega); simpa using this
          clear hKa Ka
          have hwa : IntKind.i64.wrap ((x.a : Int) + 500) = ((x.a + 500 : Nat) : Int) := by rw [IntWalk.i64_in _ (by omega)]; omega
          go_upto_region 19 with fail
          clear hwa ya fa
          obtain ⟨e5, he5⟩ : ∃ e5 : Int, (x.a : Int) + 500 = e5 := ⟨_, rfl⟩
          rw [he5]
          obtain rfl : e5 = ((x.a + 500 : Nat) : Int) := by omega
          clear he5
          obtain ⟨y, hy⟩ : ∃ y : Sg, (⟨x.i, x.d, x.a + 500⟩ : Sg) = y := ⟨_, rfl⟩
          have hyi : y.i = x.i := by rw [← hy]
          have hyd : y.d = x.d := by rw [← hy]
          have hya : y.a = x.a + 500 := by rw [← hy]
          rw [hy] at F16
          have hgag : ga ≠ g := fun e => F16.d2 (by rw [hba16, e])
          have hgal : blkOf (.slice (some ⟨gl, ofl, none⟩) N cpl) ≠ some ga := fun e => F16.d4 ga e hba16
          have F17 : Fs g g qv' (.slice (some ⟨gl, ofl, none⟩) N cpl) (.slice (some ⟨ga, ofa, none⟩) N cpa) (if x.a + 500 < x.d.size then F2 ++ B' ++ [y] else F2 ++ B') (B' ++ y :: F2) (w16.setCell ⟨ga, ofa + n, none⟩ (.int .i64 ((x.a + 500 : Nat) : Int))) := by
            have hlen' : (B' ++ y :: F2).length = (B' ++ x :: F2).length := by simp
            refine ⟨F16.s.frame (by simp [World.setCell]) (fun b hb => Below.heap_setCell _ _ _ b ?_), ?_, ?_, F16.d1, F16.d2, F16.d3, F16.d4⟩
            · show b ≠ ga
              rcases hb with rfl | hb
              · exact fun e => hgag e.symm
              · exact fun e => (F16.d3 b hb).2 (by rw [hba16, e])
            · rw [hlen', ← cellsO_swap B' F2 x y hyi hyd]
              exact F16.l.far hgal _
            · have h := F16.a.set_ (by rw [HN.out]) n (by rw [HN.out]; omega) (.int .i64 ((x.a + 500 : Nat) : Int))
              rw [hlen']
              have hc := cellsA_set B' F2 x y
              rw [HLs.out.2.2.2.1, hya] at hc
              rw [hc] at h
              exact h
          have bel17 := bel16.setCell (p := ⟨ga, ofa + n, none⟩) (F16.a.lt hba16).1 (.int .i64 ((x.a + 500 : Nat) : Int))
          have hg17 : g ≤ (w16.setCell ⟨ga, ofa + n, none⟩ (.int .i64 ((x.a + 500 : Nat) : Int))).heap.size := by simpa [World.setCell] using hg16
          clear F16 bel16 hg16
          generalize w16.setCell ⟨ga, ofa + n, none⟩ (.int .i64 ((x.a + 500 : Nat) : Int)) = w17 at *
          have hLN : (B' ++ y :: F2).length = N := by have := HN.out; simp at this ⊢; omega
          obtain ⟨ga', ofa', cpa', hav, _, _, _, _, _, hKa⟩ := F17.a.show_ (by rw [hLN]; exact hne)
          obtain ⟨gl', ofl', cpl', hlv, _, _, _, _, _, hKl⟩ := F17.l.show_ (by rw [hLN]; exact hne)
          simp only [Value.slice.injEq, Option.some.injEq, Addr.mk.injEq, and_true, true_and] at hav hlv
          obtain ⟨⟨rfl, rfl⟩, -, rfl⟩ := hav
          obtain ⟨⟨rfl, rfl⟩, -, rfl⟩ := hlv
          have Ka : Cel w17 ga (ofa + n * 1) #[.int .i64 y.a] := hKa n _ (by rw [hLN]; exact hBn) (by show 1 ≤ 1; omega) (fun j hj => by
            obtain rfl : j = 0 := by have : j < 1 := hj; omega
            have := cellsA_mid B' F2 y
            rw [HLs.out.2.2.2.1] at this
            rw [Nat.mul_one, Nat.add_zero, this]; rfl)
          have Kl : Cel w17 gl (ofl + n * 2) #[.int .u32 y.i, .string y.d] := hKl n _ (by rw [hLN]; exact hBn) (by show 2 ≤ 2; omega) (fun j hj => by rw [← HLs.out.2.2.2.1]; exact cellsO_mid B' F2 y j hj)
          have ya : w17.cell? ⟨ga, ofa + n, none⟩ = some (.int .i64 ((x.a + 500 : Nat) : Int)) := by have := Ka.cell 0 (u := .int .i64 y.a) rfl; rw [hya] at this; simpa using this
          have y1 : w17.cell? ⟨gl, ofl + n * 2 + 1, none⟩ = some (.string x.d) := by have := Kl.cell 1 (u := .string y.d) rfl; rw [hyd] at this; exact this
          have hyx : okS x ∧ (x.a + 500 < x.d.size → okS y ∧ rm y + 1 = rm x) := ⟨HLs.out.1 x (by simp), fun h => by have := okS_next (HLs.out.1 x (by simp)) h; rw [hy] at this; exact this⟩
          have HY := Lib.hid hyx
          have HLN := Lib.hid hLN
          clear hKa hKl Ka Kl hyx hy hyi hyd hya hLN hgag hgal hba16
          have F18 := F17.below (Below.refl w17.heap.size w17).drew (Nat.le_refl _)
          have bel18 := bel17.drew
          have hg18 : g ≤ w17.drew.heap.size := hg17
          by_cases hfin : x.a + 500 < x.d.size
          · have hfi : ((x.a + 500 : Nat) : Int) < (x.d.size : Int) := by omega
            have hfi2 : ¬ (x.d.size : Int) ≤ ((x.a + 500 : Nat) : Int) := by omega
            rw [if_pos hfin] at F18
            have HR := Lib.hid (And.intro F18 (And.intro bel18 (HY.out.2 hfin)))
            clear F17 F18 bel17 bel18
            go_upto_region 20 with fail
            go_region
            all_goals
              go_wp2_with fail
              go_roundw
              case rel =>
                refine ⟨kk + 1, B' ++ [y], F2, qv', _, _, rfl, rfl, by rw [List.length_append, HLs.out.2.2.2.1]; rfl, by go_num, ?_, ?_, ?_, ?_, HR.out.2.1⟩
                · intro z hz
                  simp only [List.append_assoc, List.mem_append, List.mem_cons, List.not_mem_nil, or_false] at hz
                  rcases hz with hz | rfl | hz
                  · exact HLs.out.1 z (by simp [hz])
                  · exact HR.out.2.2.1
                  · exact HLs.out.1 z (by simp [hz])
                · have := HN.out; simp at this ⊢; omega
                · have h1 := HLs.out.2.2.1
                  have h2 := HR.out.2.2.2
                  rw [rem_append] at h1
                  rw [rem_append, rem_append]
                  simp only [rem] at h1 ⊢
                  omega
                · have h1 := HR.out.1
                  rw [List.append_assoc] at h1
                  rw [List.append_assoc]
                  first
                  | exact h1
                  | (rw [show B'.length + (F2.length + 1) = N by have := HN.out; simp at this; omega]; exact h1)
              case measure => simp [intOf]; omega
          · have hfi : ¬ ((x.a + 500 : Nat) : Int) < (x.d.size : Int) := by omega
            have hfi2 : (x.d.size : Int) ≤ ((x.a + 500 : Nat) : Int) := by omega
            rw [if_neg hfin] at F18
            have HR := Lib.hid (And.intro F18 bel18)
            clear F17 F18 bel17 bel18
            have hfi3 : (x.d.size : Int) ≤ (x.a : Int) + 500 := by omega
            go_upto_region 20 with fail
            go_cut [125] (fun s125 wx => s125 = .bool true ∧ wx = w17.drew)
            case first =>
              go_region
              all_goals
                go_wp2_with fail
                go_meet
                exact ⟨by first | rfl | (simp; omega), rfl⟩
            case rest =>
            obtain ⟨rfl, rfl⟩ := hcut
            clear ya y1
            go_upto_region 21 with fail
            have F18 := HR.out.1
            have bel18 := HR.out.2
            clear HR
            generalize w17.drew = w18 at *
            have hLN := HLN.out
            have hadd : ∀ v, (binOp .add 3 (.int .i64 n) (.int .i64 1)).run Try.prog v = .ok (.int .i64 ((n + 1 : Nat) : Int)) v := fun v => by
              have hw1 : IntKind.i64.wrap ((n : Int) + 1) = ((n + 1 : Nat) : Int) := by rw [IntWalk.i64_in _ (by omega)]; omega
              go_simp
            have QV21 := Lib.hid (F18.l)
            obtain ⟨vt21, ht21, qt21, ⟨oat21, ct21, hvt21⟩, _⟩ := qo_take (P := Try.prog) (t := 54) Try.underlying54 (by show _ = some 2; kernel_rfl) QV21.out n (by omega)
            obtain ⟨vd21, hd21, qd21, ⟨oad21, cd21, hvd21⟩, _⟩ := qo_drop (P := Try.prog) (t := 54) Try.underlying54 (by show _ = some 2; kernel_rfl) QV21.out (n + 1) (by omega) (by omega)
            rw [hLN] at qd21
            go_upto_region 21 with fail
            refine wp_region_noPanic ?_
            refine begin_C (fun _ => True) 10 (by kernel_rfl) ?_
            refine abs_C _ (fun b hb => ?_)
            have hsz : b.tmps.size = 162 := by rw [hb]; rfl
            have hs : b.eval (.tmp 6) = (.slice (some ⟨gl, ofl, none⟩) N cpl) := by rw [hb]; rfl
            have h12 : b.eval (.tmp 12) = .int .i64 n := by rw [hb]; rfl
            have HB21 := Lib.hid hb
            clear hb
            refine take_Y (i := 1) (u := (.slice (some ⟨gl, ofl, none⟩) N cpl)) rfl (by kernel_rfl) (by kernel_rfl) (by kernel_rfl) (by decide) rfl rfl (fun _ _ _ h => h) trivial (fun v => run_move rfl (by simp [Act.eval_put_ne, Act.eval_put_same, Act.size_put, hsz, hs, h12]) v) ?_
            refine take_Y (i := 2) (u := .int .i64 n) rfl (by kernel_rfl) (by kernel_rfl) (by kernel_rfl) (by decide) rfl rfl (fun _ _ _ h => h) trivial (fun v => run_move rfl (by simp [Act.eval_put_ne, Act.eval_put_same, Act.size_put, hsz, hs, h12]) v) ?_
            refine take_Y (i := 3) (u := vt21) rfl (by kernel_rfl) (by kernel_rfl) (by kernel_rfl) (by decide) rfl rfl (fun _ _ _ h => h) trivial (fun v => run_slice_hi (s := (.slice (some ⟨gl, ofl, none⟩) N cpl)) (j := .int .i64 n) rfl (by simp [Act.eval_put_ne, Act.eval_put_same, Act.size_put, hsz, hs, h12]) (by simp [Act.eval_put_ne, Act.eval_put_same, Act.size_put, hsz, hs, h12]) Try.underlying54 (ht21 v)) ?_
            refine take_Y (i := 5) (u := (.slice (some ⟨gl, ofl, none⟩) N cpl)) rfl (by kernel_rfl) (by kernel_rfl) (by kernel_rfl) (by decide) rfl rfl (fun _ _ _ h => h) trivial (fun v => run_move rfl (by simp [Act.eval_put_ne, Act.eval_put_same, Act.size_put, hsz, hs, h12]) v) ?_
            refine take_Y (i := 6) (u := .int .i64 n) rfl (by kernel_rfl) (by kernel_rfl) (by kernel_rfl) (by decide) rfl rfl (fun _ _ _ h => h) trivial (fun v => run_move rfl (by simp [Act.eval_put_ne, Act.eval_put_same, Act.size_put, hsz, hs, h12]) v) ?_
            refine take_Y (i := 7) (u := .int .i64 ((n + 1 : Nat) : Int)) rfl (by kernel_rfl) (by kernel_rfl) (by kernel_rfl) (by decide) rfl rfl (fun _ _ _ h => h) trivial (fun v => run_add (s := .int .i64 n) (j := .int .i64 1) rfl (by simp [Act.eval_put_ne, Act.eval_put_same, Act.size_put, hsz, hs, h12]) (by rfl) (hadd v)) ?_
            refine take_Y (i := 8) (u := vd21) rfl (by kernel_rfl) (by kernel_rfl) (by kernel_rfl) (by decide) rfl rfl (fun _ _ _ h => h) trivial (fun v => run_slice_lo (s := (.slice (some ⟨gl, ofl, none⟩) N cpl)) (j := .int .i64 ((n + 1 : Nat) : Int)) rfl (by simp [Act.eval_put_ne, Act.eval_put_same, Act.size_put, hsz, hs, h12]) (by simp [Act.eval_put_ne, Act.eval_put_same, Act.size_put, hsz, hs, h12]) Try.underlying54 (hd21 v)) ?_
            refine val_C (i := 0) (u := .slice (some ⟨w18.drew.heap.size, 0, none⟩) 0 0) (w' := w18.drew.alloc (.cells #[] 57)) (by kernel_rfl) rfl rfl rfl (fun _ => trivial) (run_build0 rfl (by kernel_rfl)) ?_
            have bE21 : Below w18.heap.size w18 (w18.drew.alloc (.cells #[] 57)) := (Below.refl w18.heap.size w18).drew.alloc (Nat.le_refl _) (.cells #[] 57)
            obtain ⟨va21, wa21, hra21, qa21, gra21, haa21⟩ := qo_append (P := Try.prog) (ty := 54) Try.underlying54 hiO hzO hsO hbO rfl (Qo.empty (w18.drew.alloc (.cells #[] 57)) w18.heap.size 2 (some ⟨w18.drew.heap.size, 0, none⟩)) ((qt21.below bE21 (Nat.le_refl _)).src Try.underlying54 (fun u hu => cellsO_one _ u (List.mem_of_mem_take hu))) (by unfold maxLen; omega) (by omega) (by simp)
            have ba21 : Below w18.heap.size w18 wa21 := bE21.grown gra21 (by simp) (fun k hk => by cases hk)
            refine app_C (i := 4) (v' := va21) (w' := wa21) (by kernel_rfl) rfl rfl rfl rfl (by simp [Act.eval_put_ne, Act.eval_put_same, Act.size_put, hsz, hs, h12]) (by simp [Act.eval_put_ne, Act.eval_put_same, Act.size_put, hsz, hs, h12]) hra21 (fun _ => trivial) ?_
            obtain ⟨vb21, wb21, hrb21, qb21, grb21, hab21⟩ := qo_append (P := Try.prog) (ty := 54) Try.underlying54 hiO hzO hsO hbO rfl qa21 ((qd21.below ba21 (Nat.le_refl _)).src Try.underlying54 (fun u hu => cellsO_one _ u (List.mem_of_mem_drop hu))) (by unfold maxLen; omega) (by omega) ba21.size
            have bb21 : Below w18.heap.size w18 wb21 := ba21.grown grb21 ba21.size (fun k hk => (qa21.lt hk).1)
            refine app_C (i := 9) (v' := vb21) (w' := wb21) (by kernel_rfl) rfl rfl rfl rfl (by simp [Act.eval_put_ne, Act.eval_put_same, Act.size_put, hsz, hs, h12]) (by simp [Act.eval_put_ne, Act.eval_put_same, Act.size_put, hsz, hs, h12]) hrb21 (fun _ => trivial) ?_
            refine val_C (i := 10) (u := vb21) (w' := wb21) (by kernel_rfl) rfl rfl rfl (fun _ => trivial) (run_assign rfl (by simp [Act.eval_put_ne, Act.eval_put_same, Act.size_put, hsz, hs, h12]) _) ?_
            refine done_C (by kernel_rfl) ?_ _
            refine NoPanic.normal ?_
            rw [HB21.out]
            simp only [Act.put, List.setIfInBounds_toArray, List.set_cons_zero, List.set_cons_succ]
            have qc21 : Qo wb21 w18.heap.size 2 vb21 (B' ++ F2).length (cellsO (B' ++ F2)) := by
              have h := qb21
              rw [List.nil_append, ← HLs.out.2.2.2.1, cellsO_cut, show 0 + B'.length + (N - (B'.length + 1)) = (B' ++ F2).length by have := HN.out; simp at this ⊢; omega] at h
              exact h
            clear HB21 hsz hs h12 hra21 gra21 qa21 haa21 hrb21 grb21 hab21 qb21 qt21 qd21 ba21 bE21 ht21 hd21 QV21
            have F21 := F18.below bb21 (Nat.le_refl _)
            have hgs : g < w18.heap.size := F18.s.B.lt
            have hqb : ∀ k, blkOf qv' = some k → k < w18.heap.size := fun k hk => (F18.s.q.lt hk).2
            have HQB := Lib.hid hqb
            clear F18 hqb
            have QV22 := Lib.hid (F21.a)
            obtain ⟨vt22, ht22, qt22, ⟨oat22, ct22, hvt22⟩, _⟩ := qo_take (P := Try.prog) (t := 25) Try.underlying25 (by show _ = some 1; kernel_rfl) QV22.out n (by omega)
            obtain ⟨vd22, hd22, qd22, ⟨oad22, cd22, hvd22⟩, _⟩ := qo_drop (P := Try.prog) (t := 25) Try.underlying25 (by show _ = some 1; kernel_rfl) QV22.out (n + 1) (by omega) (by omega)
            rw [hLN] at qd22
            go_upto_region 22 with fail
            refine wp_region_noPanic ?_
            refine begin_C (fun _ => True) 10 (by kernel_rfl) ?_
            refine abs_C _ (fun b hb => ?_)
            have hsz : b.tmps.size = 162 := by rw [hb]; rfl
            have hs : b.eval (.tmp 7) = (.slice (some ⟨ga, ofa, none⟩) N cpa) := by rw [hb]; rfl
            have h12 : b.eval (.tmp 12) = .int .i64 n := by rw [hb]; rfl
            have HB22 := Lib.hid hb
            clear hb
            refine take_Y (i := 1) (u := (.slice (some ⟨ga, ofa, none⟩) N cpa)) rfl (by kernel_rfl) (by kernel_rfl) (by kernel_rfl) (by decide) rfl rfl (fun _ _ _ h => h) trivial (fun v => run_move rfl (by simp [Act.eval_put_ne, Act.eval_put_same, Act.size_put, hsz, hs, h12]) v) ?_
            refine take_Y (i := 2) (u := .int .i64 n) rfl (by kernel_rfl) (by kernel_rfl) (by kernel_rfl) (by decide) rfl rfl (fun _ _ _ h => h) trivial (fun v => run_move rfl (by simp [Act.eval_put_ne, Act.eval_put_same, Act.size_put, hsz, hs, h12]) v) ?_
            refine take_Y (i := 3) (u := vt22) rfl (by kernel_rfl) (by kernel_rfl) (by kernel_rfl) (by decide) rfl rfl (fun _ _ _ h => h) trivial (fun v => run_slice_hi (s := (.slice (some ⟨ga, ofa, none⟩) N cpa)) (j := .int .i64 n) rfl (by simp [Act.eval_put_ne, Act.eval_put_same, Act.size_put, hsz, hs, h12]) (by simp [Act.eval_put_ne, Act.eval_put_same, Act.size_put, hsz, hs, h12]) Try.underlying25 (ht22 v)) ?_
            refine take_Y (i := 5) (u := (.slice (some ⟨ga, ofa, none⟩) N cpa)) rfl (by kernel_rfl) (by kernel_rfl) (by kernel_rfl) (by decide) rfl rfl (fun _ _ _ h => h) trivial (fun v => run_move rfl (by simp [Act.eval_put_ne, Act.eval_put_same, Act.size_put, hsz, hs, h12]) v) ?_
            refine take_Y (i := 6) (u := .int .i64 n) rfl (by kernel_rfl) (by kernel_rfl) (by kernel_rfl) (by decide) rfl rfl (fun _ _ _ h => h) trivial (fun v => run_move rfl (by simp [Act.eval_put_ne, Act.eval_put_same, Act.size_put, hsz, hs, h12]) v) ?_
            refine take_Y (i := 7) (u := .int .i64 ((n + 1 : Nat) : Int)) rfl (by kernel_rfl) (by kernel_rfl) (by kernel_rfl) (by decide) rfl rfl (fun _ _ _ h => h) trivial (fun v => run_add (s := .int .i64 n) (j := .int .i64 1) rfl (by simp [Act.eval_put_ne, Act.eval_put_same, Act.size_put, hsz, hs, h12]) (by rfl) (hadd v)) ?_
            refine take_Y (i := 8) (u := vd22) rfl (by kernel_rfl) (by kernel_rfl) (by kernel_rfl) (by decide) rfl rfl (fun _ _ _ h => h) trivial (fun v => run_slice_lo (s := (.slice (some ⟨ga, ofa, none⟩) N cpa)) (j := .int .i64 ((n + 1 : Nat) : Int)) rfl (by simp [Act.eval_put_ne, Act.eval_put_same, Act.size_put, hsz, hs, h12]) (by simp [Act.eval_put_ne, Act.eval_put_same, Act.size_put, hsz, hs, h12]) Try.underlying25 (hd22 v)) ?_
            refine val_C (i := 0) (u := .slice (some ⟨wb21.drew.heap.size, 0, none⟩) 0 0) (w' := wb21.drew.alloc (.cells #[] 3)) (by kernel_rfl) rfl rfl rfl (fun _ => trivial) (run_build0 rfl (by kernel_rfl)) ?_
            have bE22 : Below wb21.heap.size wb21 (wb21.drew.alloc (.cells #[] 3)) := (Below.refl wb21.heap.size wb21).drew.alloc (Nat.le_refl _) (.cells #[] 3)
            obtain ⟨va22, wa22, hra22, qa22, gra22, haa22⟩ := qo_append (P := Try.prog) (ty := 25) Try.underlying25 hiI hzI hsI hbI rfl (Qo.empty (wb21.drew.alloc (.cells #[] 3)) wb21.heap.size 1 (some ⟨wb21.drew.heap.size, 0, none⟩)) ((qt22.below bE22 (Nat.le_refl _)).src Try.underlying25 (fun u hu => cellsA_one _ u (List.mem_of_mem_take hu))) (by unfold maxLen; omega) (by omega) (by simp)
            have ba22 : Below wb21.heap.size wb21 wa22 := bE22.grown gra22 (by simp) (fun k hk => by cases hk)
            refine app_C (i := 4) (v' := va22) (w' := wa22) (by kernel_rfl) rfl rfl rfl rfl (by simp [Act.eval_put_ne, Act.eval_put_same, Act.size_put, hsz, hs, h12]) (by simp [Act.eval_put_ne, Act.eval_put_same, Act.size_put, hsz, hs, h12]) hra22 (fun _ => trivial) ?_
            obtain ⟨vb22, wb22, hrb22, qb22, grb22, hab22⟩ := qo_append (P := Try.prog) (ty := 25) Try.underlying25 hiI hzI hsI hbI rfl qa22 ((qd22.below ba22 (Nat.le_refl _)).src Try.underlying25 (fun u hu => cellsA_one _ u (List.mem_of_mem_drop hu))) (by unfold maxLen; omega) (by omega) ba22.size
            have bb22 : Below wb21.heap.size wb21 wb22 := ba22.grown grb22 ba22.size (fun k hk => (qa22.lt hk).1)
            refine app_C (i := 9) (v' := vb22) (w' := wb22) (by kernel_rfl) rfl rfl rfl rfl (by simp [Act.eval_put_ne, Act.eval_put_same, Act.size_put, hsz, hs, h12]) (by simp [Act.eval_put_ne, Act.eval_put_same, Act.size_put, hsz, hs, h12]) hrb22 (fun _ => trivial) ?_
            refine val_C (i := 10) (u := vb22) (w' := wb22) (by kernel_rfl) rfl rfl rfl (fun _ => trivial) (run_assign rfl (by simp [Act.eval_put_ne, Act.eval_put_same, Act.size_put, hsz, hs, h12]) _) ?_
            refine done_C (by kernel_rfl) ?_ _
            refine NoPanic.normal ?_
            rw [HB22.out]
            simp only [Act.put, List.setIfInBounds_toArray, List.set_cons_zero, List.set_cons_succ]
            have qc22 : Qo wb22 wb21.heap.size 1 vb22 (B' ++ F2).length (cellsA (B' ++ F2)) := by
              have h := qb22
              rw [List.nil_append, ← HLs.out.2.2.2.1, cellsA_cut, show 0 + B'.length + (N - (B'.length + 1)) = (B' ++ F2).length by have := HN.out; simp at this ⊢; omega] at h
              exact h
            clear HB22 hsz hs h12 hra22 gra22 qa22 haa22 hrb22 grb22 hab22 qb22 qt22 qd22 ba22 bE22 ht22 hd22 QV22
            have F23 : Fs g g qv' vb21 vb22 (F2 ++ B') (B' ++ F2) wb22 :=
              ⟨F21.s.below bb22 (Nat.le_refl _), (qc21.below bb22 (Nat.le_refl _)).weaken (Nat.le_of_lt hgs), qc22.weaken (by have := bb21.size; omega),
                (fun e => by have := (qc21.lt e).1; omega), (fun e => by have := (qc22.lt e).1; have := bb21.size; omega),
                (fun k hk => And.intro (fun e => by have := (qc21.lt e).1; have := HQB.out k hk; omega) (fun e => by have := (qc22.lt e).1; have := bb21.size; have := HQB.out k hk; omega)),
                (fun k hk e => by have := (qc21.lt hk).2; have := (qc22.lt e).1; omega)⟩
            have bel23 : Below g w wb22 := (bel18.trans (bb21.mono (Nat.le_of_lt hgs))).trans (bb22.mono (by have := bb21.size; omega))
            have HE := Lib.hid (And.intro F23 bel23)
            clear F23 bel23 F21 qc21 qc22 bel18 bb21 bb22
            go_wp2_with fail
            go_roundw
            case rel =>
              refine ⟨kk + 1, B', F2, qv', vb21, vb22, rfl, rfl, by rw [HLs.out.2.2.2.1], by go_num, ?_, ?_, ?_, HE.out.1, HE.out.2⟩
              · intro z hz
                simp only [List.mem_append] at hz
                rcases hz with hz | hz
                · exact HLs.out.1 z (by simp [hz])
                · exact HLs.out.1 z (by simp [hz])
              · have := HN.out; simp at this ⊢; omega
              · have h1 := HLs.out.2.2.1
                have h2 := okS_rm HY.out.1
                rw [rem_append] at h1 ⊢
                simp only [rem] at h1
                omega
            case measure => simp [intOf]; omega
        · have hB0 : B = [] := List.length_eq_zero_iff.1 (by rw [List.length_append] at hne; omega)
          have hF0 : F' = [] := List.length_eq_zero_iff.1 (by rw [List.length_append] at hne; omega)
          subst hB0
          subst hF0
          simp only [List.append_nil] at F
          obtain ⟨oal, capl, hlv, _, _⟩ := F.l.shape
          simp only [List.length_nil] at hlv
          subst hlv
          have HF := Lib.hid (And.intro F bel)
          have hpk := peek_nil F.s
          clear F bel hok hlen hrem hne
          go_wp2_with fail
          refine hpk.mono ?_
          rintro e w13 ⟨rfl, hb13⟩
          have F13 := HF.out.1.below hb13 (Nat.le_refl _)
          have bel13 := HF.out.2.trans (hb13.mono (Nat.le_of_lt hgw))
          have hg13 : g ≤ w13.heap.size := Nat.le_trans (Nat.le_of_lt hgw) hb13.size
          clear hpk hb13
          go_wp2_with fail
          refine (awake40_any _).mono ?_
          rintro e w14 ⟨rfl, hb14⟩
          have F14 := F13.below hb14 (Nat.le_refl _)
          have bel14 := bel13.trans (hb14.mono hg13)
          have hln := len_qs F14.s
          clear F13 bel13 hb14
          go_wp2_with fail
          refine hln.mono ?_
          rintro e w15 ⟨rfl, rfl⟩
          go_wp2_with fail
          go_ret
          exact ⟨rfl, by rw [hg]; exact bel14⟩
end Go.Proofs.Ythddacgdmngfhaa.fil
