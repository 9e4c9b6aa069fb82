/- Layer 18: more streams; streams made. -/
import Derived.Test.YthddacgdmngfhaaDvE
namespace Go.Proofs.Ythddacgdmngfhaa.del
open Go.Sort (grow)
open Go.ChangeShapes Go.WideShapes Go.ChangeAt Go.RowKit kit
set_option maxRecDepth 100000

theorem st_one (n : Int) (m : Nat) : ∀ u ∈ (st n m).toList, u.oneCell' = true := by
  intro u hu
  simp [st] at hu
  rcases hu with rfl | rfl <;> rfl
/-- One stream more, where the cell says so then. -/
theorem Dw.addS {b0 g b mn : Nat} {sv sv' rv : Value} {Z : List (Nat × Nat)} {W O : List Mg} {w w8 : World} (h : Dw b0 g sv rv b Z W O w) (M : MapB w mn #[] 0) (hm0 : b0 ≤ mn) (hmF : ¬ Foot g sv rv Z mn) (gr : w.grownBy w8 (blkOf sv)) (q : Qo w8 b0 2 sv' (Z.length + 1) (cellsZ (Z ++ [(0, mn)]))) (hn : ∀ i, blkOf sv' = some i → blkOf sv = some i ∨ w.heap.size ≤ i) : Dw b0 g sv' rv b (Z ++ [(0, mn)]) W O (w8.setCell ⟨g, 0, none⟩ sv') := by
  have hs := gr.size
  have hg : blkOf sv' ≠ some g := fun e => by
    rcases hn g e with h' | h'
    · exact h.ns h'
    · have := h.B.lt; omega
  have hml := M.lt
  have hZ : ∀ (k : Nat) (z : Nat × Nat), (Z ++ [(0, mn)])[k]? = some z → (Z[k]? = some z) ∨ (k = Z.length ∧ z = (0, mn)) := fun k z hz => by
    by_cases e : k < Z.length
    · rw [List.getElem?_append_left e] at hz; exact .inl hz
    · have hl := (List.getElem?_eq_some_iff.1 hz).1
      rw [List.length_append] at hl
      have hk : k = Z.length := by simp at hl; omega
      subst hk
      rw [List.getElem?_append_right (Nat.le_refl _), Nat.sub_self] at hz
      exact .inr ⟨rfl, by simpa using hz.symm⟩
  refine ⟨Blk.set_ (w := w8) (cs := #[sv, rv, .int .i64 (b : Nat)]) ((gr.block g h.B.lt (fun e => h.ns e.symm)).trans h.B) 0 sv', by rw [List.length_append]; exact q.far (p := ⟨g, 0, none⟩) hg _, (h.r.block hs fun k hk => gr.block k (h.r.lt hk).2 (fun e => h.sr k e.symm hk)).far (p := ⟨g, 0, none⟩) h.nr _, fun k z hz => ?_, fun i j x y hx hy e => ?_, hg, h.nr, fun k hk e => ?_, fun z hz => ?_, h.hg, fun z hz => ?_, fun x hx => ?_⟩
  · rcases hZ k z hz with hz | ⟨rfl, rfl⟩
    · obtain ⟨h1, es, c, M', E⟩ := h.m k z hz
      have hz' := List.mem_of_getElem? hz
      exact ⟨h1, es, c, (M'.block (gr.block z.2 M'.lt (fun e => (h.mg z hz').2.1 e.symm))).far (p := ⟨g, 0, none⟩) (h.mg z hz').1 _, E⟩
    · refine ⟨hm0, #[], 0, (M.block (gr.block mn hml (fun e => hmF (.inr (.inl e.symm))))).far (p := ⟨g, 0, none⟩) (fun e => hmF (.inl e)) _, ?_⟩
      rw [ofS_none fun x hx => by have := (h.sw x hx).2; omega]
      exact trivial
  · rcases hZ i x hx with hx | ⟨rfl, rfl⟩
    · rcases hZ j y hy with hy | ⟨rfl, rfl⟩
      · exact h.mi i j x y hx hy e
      · exact absurd (.inr (.inr (.inr ⟨x, List.mem_of_getElem? hx, e⟩))) hmF
    · rcases hZ j y hy with hy | ⟨rfl, rfl⟩
      · exact absurd (.inr (.inr (.inr ⟨y, List.mem_of_getElem? hy, e.symm⟩))) hmF
      · rfl
  · rcases hn k hk with h' | h'
    · exact h.sr k h' e
    · have := (h.r.lt e).2; omega
  · rcases List.mem_append.1 hz with hz | hz
    · refine ⟨(h.mg z hz).1, fun e => ?_, (h.mg z hz).2.2⟩
      rcases hn z.2 e with h' | h'
      · exact (h.mg z hz).2.1 h'
      · have := (h.mlt hz).2; omega
    · obtain rfl : z = (0, mn) := by simpa using hz
      refine ⟨fun e => hmF (.inl e), fun e => ?_, fun e => hmF (.inr (.inr (.inl e)))⟩
      rcases hn mn e with h' | h'
      · exact hmF (.inr (.inl h'))
      · omega
  · rcases List.mem_append.1 hz with hz | hz
    · exact h.zl z hz
    · obtain rfl : z = (0, mn) := by simpa using hz
      show 0 < 65536
      omega
  · have := h.sw x hx
    rw [List.length_append]
    exact ⟨this.1, by simp; omega⟩
set_option maxHeartbeats 4000000 in
theorem dv_grow {b0 g b : Nat} {sv rv : Value} {Z : List (Nat × Nat)} {W O : List Mg} {w : World} (h : Dw b0 g sv rv b Z W O w) (n m : Nat) (hZ : Z.length ≤ 16) (hm : min n (16 - Z.length) = m) (hn : n ≤ 100) :
    Calls Try.prog 52 #[.pointer (some ⟨g, 0, none⟩), .int .i64 n] w fun e w' => e = .returned (.tuple #[]) ∧ (∃ (sv' : Value) (Y : List (Nat × Nat)), Y.length = m ∧ (∀ y ∈ Y, y.1 = 0 ∧ w.heap.size ≤ y.2) ∧ Dw b0 g sv' rv b (Z ++ Y) W O w' ∧ (∀ i, blkOf sv' = some i → blkOf sv = some i ∨ w.heap.size ≤ i)) ∧ (∀ i, i < w.heap.size → ¬ Foot g sv rv Z i → w'.heap[i]? = w.heap[i]?) ∧ Below b0 w w' := by
  obtain ⟨i0, hi, hz0, hz1, hz2⟩ := info_parts infoS
  have hmk : ∀ w, (Instr.makeMap 200 none).run Try.prog w = .ok (.map (some w.heap.size)) (w.alloc (.map #[] 0)) := fun w => rfl
  obtain ⟨oas, caps, hsv, _, _⟩ := h.s.shape
  have c0 : w.cell? ⟨g, 0, none⟩ = some (.slice oas Z.length caps) := (h.B.cell 0).trans (congrArg some hsv)
  have hgl := h.B.lt
  have hgb := h.hg
  have HH := Lib.hid h
  have HZ := Lib.hid (And.intro hZ hm)
  clear hsv h
  go_enter Try.func52, Try.ntmps52
  go_upto_region 1 with fail
  generalize hzl : Z.length = zl at *
  have HZL := Lib.hid hzl
  clear hzl
  go_cut [14, 15] (fun s14 s15 wx => s14 = .int .i64 m ∧ s15 = .int .i64 (0 : Nat) ∧ wx = w)
  case first =>
    have hw1 : IntKind.i64.wrap (16 - (zl : Int)) = 16 - (zl : Int) := IntWalk.i64_in _ (by omega)
    by_cases hmin : (n : Int) ≤ 16 - (zl : Int)
    · obtain rfl : m = n := by omega
      have h0 : (0 : Int) ≤ (m : Int) := by omega
      go_wp2_with fail
      all_goals
        go_meet
        exact ⟨by first | rfl | (congr 1; omega), rfl, rfl⟩
    · have hmi : (16 : Int) - (zl : Int) = (m : Int) := by omega
      have h0 : (0 : Int) ≤ 16 - (zl : Int) := by omega
      go_wp2_with fail
      all_goals
        go_meet
        exact ⟨by first | rfl | (congr 1; omega), rfl, rfl⟩
  case rest =>
  obtain ⟨rfl, rfl, hwc⟩ := hcut
  obtain rfl : w = wc := hwc.symm
  clear c0 hm hZ
  have hm16 : m ≤ 16 := by have := HZ.out.2; omega
  go_wp2_with fail
  go_loopw [15] (fun s15 wr => ∃ (j : Nat) (sv' : Value) (Y : List (Nat × Nat)), s15 = .int .i64 (j : Nat) ∧ j ≤ m ∧ Y.length = j ∧ (∀ y ∈ Y, y.1 = 0 ∧ w.heap.size ≤ y.2) ∧ Dw b0 g sv' rv b (Z ++ Y) W O wr ∧ (∀ i, blkOf sv' = some i → blkOf sv = some i ∨ w.heap.size ≤ i) ∧ (∀ i, i < w.heap.size → ¬ Foot g sv rv Z i → wr.heap[i]? = w.heap[i]?) ∧ Below b0 w wr) (fun s15 _ => 100 - (intOf s15).toNat)
  case atStart => exact ⟨0, sv, [], rfl, Nat.zero_le _, rfl, by simp, by rw [List.append_nil]; exact HH.out, fun i hi => .inl hi, fun _ _ _ => rfl, Below.refl _ _⟩
  case round =>
    clear HH
    obtain ⟨j, sv', Y, rfl, hj, hY, hY0, D, hsb, hfr, bel⟩ := hrel
    by_cases hlt : j < m
    · have hji : (j : Int) < (m : Int) := by omega
      have hgw : g < wr.heap.size := D.B.lt
      obtain ⟨oa, cap, hv, hc1, hc2⟩ := D.s.shape
      have hZY : (Z ++ Y).length ≤ 16 := by rw [List.length_append]; have := HZ.out; have := HZL.out; omega
      have al1 := (Below.refl wr.heap.size wr).alloc (Nat.le_refl _) (.map #[] 0)
      have hsz1 : (wr.alloc (.map #[] 0)).heap.size = wr.heap.size + 1 := by simp
      have al2 := al1.alloc al1.size (.cells (st 0 wr.heap.size) 202)
      have hsz2 : ((wr.alloc (.map #[] 0)).alloc (.cells (st 0 wr.heap.size) 202)).heap.size = wr.heap.size + 2 := by simp
      have D2 := D.below al2 (Nat.le_refl _)
      have M2 := (MapB.new wr).alloc (.cells (st 0 wr.heap.size) 202)
      have qI := (qo_item (wr.alloc (.map #[] 0)) 202 (st 0 wr.heap.size)).src (P := Try.prog) (tx := 197) Try.underlying197 (st_one 0 wr.heap.size)
      rw [hsz1] at qI
      have hFn : ¬ Foot g sv' rv (Z ++ Y) wr.heap.size := fun hF => by have := (D.foot hF).2; omega
      obtain ⟨v8, w8, hr8, q8, gr8, ha8⟩ := qo_append (P := Try.prog) (t := 197) (ty := 197) Try.underlying197 hi hz0 hz1 hz2 rfl D2.s qI (by unfold maxLen; omega) (by omega) (by rw [hsz2]; omega)
      have q8' : Qo w8 b0 2 v8 ((Z ++ Y).length + 1) (cellsZ (Z ++ Y ++ [(0, wr.heap.size)])) := by
        rw [cellsZ_append]
        simpa [cellsZ, st] using q8
      have hvn : ∀ i, blkOf v8 = some i → blkOf sv' = some i ∨ wr.heap.size + 2 ≤ i := fun i hi => by
        rcases ha8 with e | e | e
        · exact .inl (e ▸ hi)
        · rw [hsz2] at e; rw [e] at hi; cases hi; exact .inr (by omega)
        · rw [e] at hi; cases hi
      have D9 := D2.addS M2 (by omega) hFn gr8 q8' (fun i hi => by rw [hsz2]; exact hvn i hi)
      have B8 : Blk w8 g 199 #[sv', rv, .int .i64 (b : Nat)] := (gr8.block g (by rw [hsz2]; omega) (fun e => D2.ns e.symm)).trans D2.B
      have c8 : w8.cell? ⟨g, 0, none⟩ = some sv' := B8.cell 0
      have f8 : w8.frozen? ⟨g, 0, none⟩ = false := B8.frozen 0
      have cr : ((wr.alloc (.map #[] 0)).alloc (.cells (st 0 wr.heap.size) 202)).cell? ⟨g, 0, none⟩ = some sv' := D2.B.cell 0
      have cr0 : wr.cell? ⟨g, 0, none⟩ = some sv' := D.B.cell 0
      have bel9 : Below b0 w (w8.setCell ⟨g, 0, none⟩ v8) := ((bel.trans (al2.mono (by omega))).grown gr8 (by rw [hsz2]; omega) (fun i hi => (D.s.lt hi).1)).setCell (p := ⟨g, 0, none⟩) hgb _
      have hgF : Foot g sv rv Z g := .inl rfl
      have fr9 : ∀ i, i < w.heap.size → ¬ Foot g sv rv Z i → (w8.setCell ⟨g, 0, none⟩ v8).heap[i]? = w.heap[i]? := fun i hi hn => by
        have h2 := bel.size
        refine (Below.heap_setCell w8 ⟨g, 0, none⟩ _ i (fun e => hn (by rw [e]; exact hgF))).trans ((gr8.block i (by rw [hsz2]; omega) (fun e => ?_)).trans ((al2.block i (by omega)).trans (hfr i hi hn)))
        rcases hsb i e.symm with h' | h'
        · exact hn (.inr (.inl h'))
        · omega
      have hs9 := bel.size
      have HX := Lib.hid (show ∃ (j' : Nat) (sv2 : Value) (Y' : List (Nat × Nat)), Value.int .i64 ((j + 1 : Nat) : Int) = .int .i64 (j' : Nat) ∧ j' ≤ m ∧ Y'.length = j' ∧ (∀ y ∈ Y', y.1 = 0 ∧ w.heap.size ≤ y.2) ∧ Dw b0 g sv2 rv b (Z ++ Y') W O (w8.setCell ⟨g, 0, none⟩ v8) ∧ (∀ i, blkOf sv2 = some i → blkOf sv = some i ∨ w.heap.size ≤ i) ∧ (∀ i, i < w.heap.size → ¬ Foot g sv rv Z i → (w8.setCell ⟨g, 0, none⟩ v8).heap[i]? = w.heap[i]?) ∧ Below b0 w (w8.setCell ⟨g, 0, none⟩ v8) from
        ⟨j + 1, v8, Y ++ [(0, wr.heap.size)], rfl, by omega, by rw [List.length_append, hY]; rfl, fun y hy => by
          rcases List.mem_append.1 hy with h' | h'
          · exact hY0 y h'
          · obtain rfl : y = (0, wr.heap.size) := by simpa using h'
            exact ⟨rfl, hs9⟩, by rw [← List.append_assoc]; exact D9, fun i hi => by
          rcases hvn i hi with h' | h'
          · exact hsb i h'
          · exact .inr (by omega), fr9, bel9⟩)
      obtain ⟨oa8, cap8, hv8, _, _⟩ := q8.shape
      subst hv8
      subst hv
      generalize (Z ++ Y).length = N at *
      generalize N + 1 = N8 at *
      clear D9 B8 bel9 fr9 D2 D q8 q8' gr8 ha8 hvn qI M2 al1 al2 hfr hsb bel hFn hY0 hY
      go_wp2_with (at_builtin; refine wpList_append_q rfl _ _ _ rfl rfl rfl hr8 ?_)
      go_roundw
      case rel =>
        obtain ⟨j', sv2, Y', e, hrest⟩ := HX.out
        exact ⟨j', sv2, Y', by rw [← e]; first | rfl | (congr 1), hrest⟩
      case measure => simp [intOf]; omega
    · obtain rfl : j = m := by omega
      have HX := Lib.hid (And.intro hY (And.intro hY0 (And.intro D (And.intro hsb (And.intro hfr bel)))))
      clear hY hY0 D hsb hfr bel
      go_wp2_with fail
      go_end0
      exact ⟨rfl, ⟨sv', Y, HX.out.1, HX.out.2.1, HX.out.2.2.1, HX.out.2.2.2.1⟩, HX.out.2.2.2.2.1, HX.out.2.2.2.2.2⟩
theorem dv_new (n m : Nat) (w : World) (hn : n ≤ 31) (hm : min (max 1 n) 16 = m) : Calls Try.prog 49 #[.int .i64 n] w fun e w' => e = .returned (.pointer (some ⟨w.heap.size, 0, none⟩)) ∧ (∃ (sv : Value) (Y : List (Nat × Nat)), Y.length = m ∧ (∀ y ∈ Y, y.1 = 0) ∧ Dw w.heap.size w.heap.size sv (.slice none 0 0) 0 Y [] [] w') ∧ Below w.heap.size w w' := by
  have S1 : Dw w.heap.size w.heap.size (.slice none 0 0) (.slice none 0 0) 0 [] [] [] (w.alloc (.cells #[.slice none 0 0, .slice none 0 0, .int .i64 0] 199)) :=
    ⟨Blk.new _ _ _, Qo.nil _ _ _, Qo.nil _ _ _, fun k z hz => by simp at hz, fun i j x y hx => by simp at hx, (fun e => by cases e), (fun e => by cases e), (fun k e => by cases e), fun z hz => by simp at hz, Nat.le_refl _, fun z hz => by simp at hz, fun x hx => by simp at hx⟩
  have bel1 := (Below.refl w.heap.size w).alloc (Nat.le_refl _) (.cells #[.slice none 0 0, .slice none 0 0, .int .i64 0] 199)
  obtain ⟨c, hc⟩ : ∃ c : Nat, max 1 n = c := ⟨_, rfl⟩
  have hg := dv_grow S1 c m (by simp) (by simp; omega) (by omega)
  have hmx : max (1 : Int) (n : Int) = (c : Int) := by omega
  clear S1
  go_enter Try.func49, Try.ntmps49
  go_upto_region 2 with fail
  generalize w.alloc (.cells #[.slice none 0 0, .slice none 0 0, .int .i64 0] 199) = w1 at *
  by_cases h1 : (1 : Int) < (n : Int)
  · obtain rfl : c = n := by omega
    go_wp2_with fail
    refine hg.mono ?_
    rintro e w2 ⟨rfl, ⟨sv, Y, hY, hY0, s2, _⟩, _, hb2⟩
    go_wp2_with fail
    go_ret
    exact ⟨rfl, ⟨sv, Y, hY, fun y hy => (hY0 y hy).1, s2⟩, bel1.trans hb2⟩
  · obtain rfl : c = 1 := by omega
    have h2 : (n : Int) ≤ 1 := by omega
    go_wp2_with fail
    refine hg.mono ?_
    rintro e w2 ⟨rfl, ⟨sv, Y, hY, hY0, s2, _⟩, _, hb2⟩
    go_wp2_with fail
    go_ret
    exact ⟨rfl, ⟨sv, Y, hY, fun y hy => (hY0 y hy).1, s2⟩, bel1.trans hb2⟩
end Go.Proofs.Ythddacgdmngfhaa.del
