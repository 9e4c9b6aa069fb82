/- Layer 38: whether an entry lets a packet in (gen-own.py wrote this). -/
import Derived.Test.YthjhiogbnacmdaaAudG
import Derived.Test.YthjhiogbnacmdaaCutC
namespace Go.Proofs.Ythjhiogbnacmdaa.aud
open Go.Sort (grow)
open Go.ChangeShapes Go.WideShapes Go.ChangeAt Go.RowKit kit
set_option maxRecDepth 100000

/-- Does an entry let in what says these ports and this tag? -/
def hitE (f t g : Int) (m : Bool) (e : Ent) : Bool := decide (e.1 = 1) && decide (e.2.2.1 = 9) && decide (e.2.2.2.1 = f) && decide (e.2.1 = t) && decide ((bif m then e.2.2.2.2.2.1 else e.2.2.2.2.1) = g)
theorem clg_own_false (e : Ent) (f t g : Int) (v : Value) (mb tb fb pb : Nat) (W : World) (HM : Blk W mb 4 #[.bool false]) (HT : Blk W tb 28 #[.int .u32 1]) (HF : Blk W fb 28 #[.int .u32 9]) (HP : Blk W pb 26 #[.int .i64 f, .int .i64 t, .int .u32 g, v]) :
    Calls Try.prog 27 #[.agg (er e), .pointer (some ⟨mb, 0, none⟩), .pointer (some ⟨tb, 0, none⟩), .pointer (some ⟨fb, 0, none⟩), .pointer (some ⟨pb, 0, none⟩)] W fun x w' => x = .returned (.bool (hitE f t g false e)) ∧ Below W.heap.size W w' := by
  obtain ⟨rb, hrb⟩ : ∃ rb, hitE f t g false e = rb := ⟨_, rfl⟩
  rw [hrb]
  have HRB := Lib.hid hrb
  clear hrb
  have M1 := HM.alloc (.cells #[.int .u32 e.1, .int .i64 e.2.1, .int .u32 e.2.2.1, .int .i64 e.2.2.2.1, .int .u32 e.2.2.2.2.1, .int .u32 e.2.2.2.2.2.1, .int .i64 e.2.2.2.2.2.2] 30)
  have T1 := HT.alloc (.cells #[.int .u32 e.1, .int .i64 e.2.1, .int .u32 e.2.2.1, .int .i64 e.2.2.2.1, .int .u32 e.2.2.2.2.1, .int .u32 e.2.2.2.2.2.1, .int .i64 e.2.2.2.2.2.2] 30)
  have F1 := HF.alloc (.cells #[.int .u32 e.1, .int .i64 e.2.1, .int .u32 e.2.2.1, .int .i64 e.2.2.2.1, .int .u32 e.2.2.2.2.1, .int .u32 e.2.2.2.2.2.1, .int .i64 e.2.2.2.2.2.2] 30)
  have P1 := HP.alloc (.cells #[.int .u32 e.1, .int .i64 e.2.1, .int .u32 e.2.2.1, .int .i64 e.2.2.2.1, .int .u32 e.2.2.2.2.1, .int .u32 e.2.2.2.2.2.1, .int .i64 e.2.2.2.2.2.2] 30)
  have X1 := Blk.new W 30 #[.int .u32 e.1, .int .i64 e.2.1, .int .u32 e.2.2.1, .int .i64 e.2.2.2.1, .int .u32 e.2.2.2.2.1, .int .u32 e.2.2.2.2.2.1, .int .i64 e.2.2.2.2.2.2]
  have bel := (Below.refl W.heap.size W).alloc (Nat.le_refl _) (.cells #[.int .u32 e.1, .int .i64 e.2.1, .int .u32 e.2.2.1, .int .i64 e.2.2.2.1, .int .u32 e.2.2.2.2.1, .int .u32 e.2.2.2.2.2.1, .int .i64 e.2.2.2.2.2.2] 30)
  unfold er
  go_enter Try.func27, Try.ntmps27
  go_upto_region 1 with fail
  obtain ⟨w1, hw1⟩ : ∃ w1, W.alloc (.cells #[.int .u32 e.1, .int .i64 e.2.1, .int .u32 e.2.2.1, .int .i64 e.2.2.2.1, .int .u32 e.2.2.2.2.1, .int .u32 e.2.2.2.2.2.1, .int .i64 e.2.2.2.2.2.2] 30) = w1 := ⟨_, rfl⟩
  rw [hw1] at M1 T1 F1 P1 X1 bel
  try rw [hw1]
  clear hw1
  have m0 : w1.cell? ⟨mb, 0, none⟩ = some (.bool false) := M1.cell 0
  have t0 : w1.cell? ⟨tb, 0, none⟩ = some (.int .u32 1) := T1.cell 0
  have f0 : w1.cell? ⟨fb, 0, none⟩ = some (.int .u32 9) := F1.cell 0
  have p0 : w1.cell? ⟨pb, 0, none⟩ = some (.int .i64 f) := P1.cell 0
  have p1 : w1.cell? ⟨pb, 1, none⟩ = some (.int .i64 t) := P1.cell 1
  have p2 : w1.cell? ⟨pb, 2, none⟩ = some (.int .u32 g) := P1.cell 2
  have x0 : w1.cell? ⟨W.heap.size, 0, none⟩ = some (.int .u32 e.1) := X1.cell 0
  have x1 : w1.cell? ⟨W.heap.size, 1, none⟩ = some (.int .i64 e.2.1) := X1.cell 1
  have x2 : w1.cell? ⟨W.heap.size, 2, none⟩ = some (.int .u32 e.2.2.1) := X1.cell 2
  have x3 : w1.cell? ⟨W.heap.size, 3, none⟩ = some (.int .i64 e.2.2.2.1) := X1.cell 3
  have x4 : w1.cell? ⟨W.heap.size, 4, none⟩ = some (.int .u32 e.2.2.2.2.1) := X1.cell 4
  have x5 : w1.cell? ⟨W.heap.size, 5, none⟩ = some (.int .u32 e.2.2.2.2.2.1) := X1.cell 5
  clear M1 T1 F1 P1 X1 HM HT HF HP
  obtain ⟨a1, a2, a3, a4, a5, a6, a7⟩ := e
  dsimp only at x0 x1 x2 x3 x4 x5
  obtain ⟨tg, htg⟩ : ∃ tg : Int, (bif false then a6 else a5) = tg := ⟨_, rfl⟩
  simp only [cond_true, cond_false] at htg
  have hh : hitE f t g false (a1, a2, a3, a4, a5, a6, a7) = (decide (a1 = 1) && decide (a3 = 9) && decide (a4 = f) && decide (a2 = t) && decide (tg = g)) := by rw [← htg]; rfl
  have HRB := Lib.hid (hh.symm.trans HRB.out)
  clear hh
  subst htg
  by_cases h1 : a1 = 1
  · by_cases h2 : a3 = 9
    · by_cases h3 : a4 = f
      · by_cases h4 : a2 = t
        · by_cases h5 : a5 = g
          · go_wp2_with fail
            go_ret
            exact ⟨ret_bool ((by simp [h1, h2, h3, h4, h5] : (decide (a1 = 1) && decide (a3 = 9) && decide (a4 = f) && decide (a2 = t) && decide (a5 = g)) = true).symm.trans HRB.out), bel⟩
          · go_wp2_with fail
            go_ret
            exact ⟨ret_bool ((by simp [h5] : (a5 == g) = false).trans ((by simp [h1, h2, h3, h4, h5] : (decide (a1 = 1) && decide (a3 = 9) && decide (a4 = f) && decide (a2 = t) && decide (a5 = g)) = false).symm.trans HRB.out)), bel⟩
        · go_wp2_with fail
          go_ret
          exact ⟨ret_bool ((by simp [h1, h2, h3, h4] : (decide (a1 = 1) && decide (a3 = 9) && decide (a4 = f) && decide (a2 = t) && decide (a5 = g)) = false).symm.trans HRB.out), bel⟩
      · go_wp2_with fail
        go_ret
        exact ⟨ret_bool ((by simp [h1, h2, h3] : (decide (a1 = 1) && decide (a3 = 9) && decide (a4 = f) && decide (a2 = t) && decide (a5 = g)) = false).symm.trans HRB.out), bel⟩
    · go_wp2_with fail
      go_ret
      exact ⟨ret_bool ((by simp [h1, h2] : (decide (a1 = 1) && decide (a3 = 9) && decide (a4 = f) && decide (a2 = t) && decide (a5 = g)) = false).symm.trans HRB.out), bel⟩
  · go_wp2_with fail
    go_ret
    exact ⟨ret_bool ((by simp [h1] : (decide (a1 = 1) && decide (a3 = 9) && decide (a4 = f) && decide (a2 = t) && decide (a5 = g)) = false).symm.trans HRB.out), bel⟩
theorem clg_own_true (e : Ent) (f t g : Int) (v : Value) (mb tb fb pb : Nat) (W : World) (HM : Blk W mb 4 #[.bool true]) (HT : Blk W tb 28 #[.int .u32 1]) (HF : Blk W fb 28 #[.int .u32 9]) (HP : Blk W pb 26 #[.int .i64 f, .int .i64 t, .int .u32 g, v]) :
    Calls Try.prog 27 #[.agg (er e), .pointer (some ⟨mb, 0, none⟩), .pointer (some ⟨tb, 0, none⟩), .pointer (some ⟨fb, 0, none⟩), .pointer (some ⟨pb, 0, none⟩)] W fun x w' => x = .returned (.bool (hitE f t g true e)) ∧ Below W.heap.size W w' := by
  obtain ⟨rb, hrb⟩ : ∃ rb, hitE f t g true e = rb := ⟨_, rfl⟩
  rw [hrb]
  have HRB := Lib.hid hrb
  clear hrb
  have M1 := HM.alloc (.cells #[.int .u32 e.1, .int .i64 e.2.1, .int .u32 e.2.2.1, .int .i64 e.2.2.2.1, .int .u32 e.2.2.2.2.1, .int .u32 e.2.2.2.2.2.1, .int .i64 e.2.2.2.2.2.2] 30)
  have T1 := HT.alloc (.cells #[.int .u32 e.1, .int .i64 e.2.1, .int .u32 e.2.2.1, .int .i64 e.2.2.2.1, .int .u32 e.2.2.2.2.1, .int .u32 e.2.2.2.2.2.1, .int .i64 e.2.2.2.2.2.2] 30)
  have F1 := HF.alloc (.cells #[.int .u32 e.1, .int .i64 e.2.1, .int .u32 e.2.2.1, .int .i64 e.2.2.2.1, .int .u32 e.2.2.2.2.1, .int .u32 e.2.2.2.2.2.1, .int .i64 e.2.2.2.2.2.2] 30)
  have P1 := HP.alloc (.cells #[.int .u32 e.1, .int .i64 e.2.1, .int .u32 e.2.2.1, .int .i64 e.2.2.2.1, .int .u32 e.2.2.2.2.1, .int .u32 e.2.2.2.2.2.1, .int .i64 e.2.2.2.2.2.2] 30)
  have X1 := Blk.new W 30 #[.int .u32 e.1, .int .i64 e.2.1, .int .u32 e.2.2.1, .int .i64 e.2.2.2.1, .int .u32 e.2.2.2.2.1, .int .u32 e.2.2.2.2.2.1, .int .i64 e.2.2.2.2.2.2]
  have bel := (Below.refl W.heap.size W).alloc (Nat.le_refl _) (.cells #[.int .u32 e.1, .int .i64 e.2.1, .int .u32 e.2.2.1, .int .i64 e.2.2.2.1, .int .u32 e.2.2.2.2.1, .int .u32 e.2.2.2.2.2.1, .int .i64 e.2.2.2.2.2.2] 30)
  unfold er
  go_enter Try.func27, Try.ntmps27
  go_upto_region 1 with fail
  obtain ⟨w1, hw1⟩ : ∃ w1, W.alloc (.cells #[.int .u32 e.1, .int .i64 e.2.1, .int .u32 e.2.2.1, .int .i64 e.2.2.2.1, .int .u32 e.2.2.2.2.1, .int .u32 e.2.2.2.2.2.1, .int .i64 e.2.2.2.2.2.2] 30) = w1 := ⟨_, rfl⟩
  rw [hw1] at M1 T1 F1 P1 X1 bel
  try rw [hw1]
  clear hw1
  have m0 : w1.cell? ⟨mb, 0, none⟩ = some (.bool true) := M1.cell 0
  have t0 : w1.cell? ⟨tb, 0, none⟩ = some (.int .u32 1) := T1.cell 0
  have f0 : w1.cell? ⟨fb, 0, none⟩ = some (.int .u32 9) := F1.cell 0
  have p0 : w1.cell? ⟨pb, 0, none⟩ = some (.int .i64 f) := P1.cell 0
  have p1 : w1.cell? ⟨pb, 1, none⟩ = some (.int .i64 t) := P1.cell 1
  have p2 : w1.cell? ⟨pb, 2, none⟩ = some (.int .u32 g) := P1.cell 2
  have x0 : w1.cell? ⟨W.heap.size, 0, none⟩ = some (.int .u32 e.1) := X1.cell 0
  have x1 : w1.cell? ⟨W.heap.size, 1, none⟩ = some (.int .i64 e.2.1) := X1.cell 1
  have x2 : w1.cell? ⟨W.heap.size, 2, none⟩ = some (.int .u32 e.2.2.1) := X1.cell 2
  have x3 : w1.cell? ⟨W.heap.size, 3, none⟩ = some (.int .i64 e.2.2.2.1) := X1.cell 3
  have x4 : w1.cell? ⟨W.heap.size, 4, none⟩ = some (.int .u32 e.2.2.2.2.1) := X1.cell 4
  have x5 : w1.cell? ⟨W.heap.size, 5, none⟩ = some (.int .u32 e.2.2.2.2.2.1) := X1.cell 5
  clear M1 T1 F1 P1 X1 HM HT HF HP
  obtain ⟨a1, a2, a3, a4, a5, a6, a7⟩ := e
  dsimp only at x0 x1 x2 x3 x4 x5
  obtain ⟨tg, htg⟩ : ∃ tg : Int, (bif true then a6 else a5) = tg := ⟨_, rfl⟩
  simp only [cond_true, cond_false] at htg
  have hh : hitE f t g true (a1, a2, a3, a4, a5, a6, a7) = (decide (a1 = 1) && decide (a3 = 9) && decide (a4 = f) && decide (a2 = t) && decide (tg = g)) := by rw [← htg]; rfl
  have HRB := Lib.hid (hh.symm.trans HRB.out)
  clear hh
  subst htg
  by_cases h1 : a1 = 1
  · by_cases h2 : a3 = 9
    · by_cases h3 : a4 = f
      · by_cases h4 : a2 = t
        · by_cases h5 : a6 = g
          · go_wp2_with fail
            go_ret
            exact ⟨ret_bool ((by simp [h1, h2, h3, h4, h5] : (decide (a1 = 1) && decide (a3 = 9) && decide (a4 = f) && decide (a2 = t) && decide (a6 = g)) = true).symm.trans HRB.out), bel⟩
          · go_wp2_with fail
            go_ret
            exact ⟨ret_bool ((by simp [h5] : (a6 == g) = false).trans ((by simp [h1, h2, h3, h4, h5] : (decide (a1 = 1) && decide (a3 = 9) && decide (a4 = f) && decide (a2 = t) && decide (a6 = g)) = false).symm.trans HRB.out)), bel⟩
        · go_wp2_with fail
          go_ret
          exact ⟨ret_bool ((by simp [h1, h2, h3, h4] : (decide (a1 = 1) && decide (a3 = 9) && decide (a4 = f) && decide (a2 = t) && decide (a6 = g)) = false).symm.trans HRB.out), bel⟩
      · go_wp2_with fail
        go_ret
        exact ⟨ret_bool ((by simp [h1, h2, h3] : (decide (a1 = 1) && decide (a3 = 9) && decide (a4 = f) && decide (a2 = t) && decide (a6 = g)) = false).symm.trans HRB.out), bel⟩
    · go_wp2_with fail
      go_ret
      exact ⟨ret_bool ((by simp [h1, h2] : (decide (a1 = 1) && decide (a3 = 9) && decide (a4 = f) && decide (a2 = t) && decide (a6 = g)) = false).symm.trans HRB.out), bel⟩
  · go_wp2_with fail
    go_ret
    exact ⟨ret_bool ((by simp [h1] : (decide (a1 = 1) && decide (a3 = 9) && decide (a4 = f) && decide (a2 = t) && decide (a6 = g)) = false).symm.trans HRB.out), bel⟩

theorem clg_own (m : Bool) (e : Ent) (f t g : Int) (v : Value) (mb tb fb pb : Nat) (W : World) (HM : Blk W mb 4 #[.bool m]) (HT : Blk W tb 28 #[.int .u32 1]) (HF : Blk W fb 28 #[.int .u32 9]) (HP : Blk W pb 26 #[.int .i64 f, .int .i64 t, .int .u32 g, v]) :
    Calls Try.prog 27 #[.agg (er e), .pointer (some ⟨mb, 0, none⟩), .pointer (some ⟨tb, 0, none⟩), .pointer (some ⟨fb, 0, none⟩), .pointer (some ⟨pb, 0, none⟩)] W fun x w' => x = .returned (.bool (hitE f t g m e)) ∧ Below W.heap.size W w' := by
  cases m
  · exact clg_own_false e f t g v mb tb fb pb W HM HT HF HP
  · exact clg_own_true e f t g v mb tb fb pb W HM HT HF HP
section
variable {b0 : Nat} {L : List Ent} {v : Value} {w : World}
theorem cells_get (L : List Ent) {k : Nat} (hk : k < L.length) : ∀ j, j < (er (L.getD k e0)).size → (er (L.getD k e0))[j]? = (cellsE L)[k * 7 + j]? := fun j hj => by
  obtain ⟨u, hu⟩ : ∃ u, (er (L.getD k e0))[j]? = some u := ⟨_, Array.getElem?_eq_getElem hj⟩
  rw [hu, cellsE_at L k j u hk hu]
theorem szEr (e : Ent) : (Try.prog.info? 30).map (·.size) = some (er e).size := by show _ = some 7; kernel_rfl
theorem ix_own (m : Bool) (f t g : Int) (pv : Value) (mb tb fb pb : Nat) (q : Qo w b0 7 v L.length (cellsE L)) (hn : L.length ≤ 100) (HM : Blk w mb 4 #[.bool m]) (HT : Blk w tb 28 #[.int .u32 1]) (HF : Blk w fb 28 #[.int .u32 9]) (HP : Blk w pb 26 #[.int .i64 f, .int .i64 t, .int .u32 g, pv]) :
    Calls Try.prog 41 #[v, .func (.func 27) #[] #[.pointer (some ⟨mb, 0, none⟩), .pointer (some ⟨tb, 0, none⟩), .pointer (some ⟨fb, 0, none⟩), .pointer (some ⟨pb, 0, none⟩)]] w fun e w' => (∃ r : Int, e = .returned (.int .i64 r) ∧ ((0 ≤ r ∧ ∃ j, j < L.length ∧ hitE f t g m (L.getD j e0) = true) ∨ (r = -1 ∧ ∀ j, j < L.length → hitE f t g m (L.getD j e0) = false))) ∧ Below w.heap.size w w' := by
  obtain ⟨oa, cap, rfl, _, _⟩ := q.shape
  obtain ⟨B0, hB0⟩ : ∃ B0, w.heap.size = B0 := ⟨_, rfl⟩
  have HB0 := Lib.hid hB0
  go_enter Try.func41, Try.ntmps41
  go_wp2_with fail
  go_loopw [8] (fun s8 wr => ∃ i : Nat, s8 = .int .i64 (i : Nat) ∧ i ≤ L.length ∧ (∀ j, j < i → hitE f t g m (L.getD j e0) = false) ∧ Qo wr b0 7 (.slice oa L.length cap) L.length (cellsE L) ∧ Below B0 w wr ∧ Blk wr mb 4 #[.bool m] ∧ Blk wr tb 28 #[.int .u32 1] ∧ Blk wr fb 28 #[.int .u32 9] ∧ Blk wr pb 26 #[.int .i64 f, .int .i64 t, .int .u32 g, pv]) (fun s8 _ => L.length - (intOf s8).toNat)
  case atStart => exact ⟨0, rfl, Nat.zero_le _, fun j hj => absurd hj (Nat.not_lt_zero j), q, Below.refl _ _, HM, HT, HF, HP⟩
  case round =>
    clear q HM HT HF HP
    obtain ⟨i, rfl, hi, hno, q, bel, HM, HT, HF, HP⟩ := hrel
    by_cases hlt : i < L.length
    · have hii : (i : Int) < (L.length : Int) := by omega
      have hi0 : (0 : Int) ≤ (i : Int) := by omega
      obtain ⟨gh, off, cap', hv, _, _, _, _, _, hat⟩ := q.show_ (by omega)
      injection hv with hv1 hv2 hv3
      subst hv1
      have X := hat i (er (L.getD i e0)) hlt (Nat.le_refl _) (cells_get L hlt)
      have hcl := clg_own m (L.getD i e0) f t g pv mb tb fb pb wr HM HT HF HP
      have HNO := Lib.hid hno
      obtain ⟨ee, hee⟩ : ∃ ee, L.getD i e0 = ee := ⟨_, rfl⟩
      rw [hee] at X hcl
      have HEE := Lib.hid hee
      clear hat hv2 hv3 hno hee
      go_wp2_with (refine wpList_load_at rfl 30 _ rfl gh (off + i * 7) rfl (er ee) _ X Try.underlying30 rfl (szEr ee) ?_)
      refine hcl.mono ?_
      rintro e w3 ⟨he, hb3⟩
      have HR := Lib.hid (And.intro (q.below hb3 (Nat.le_refl _)) (And.intro (bel.trans (hb3.mono (by have := bel.size; omega))) (And.intro (HM.below hb3 HM.lt) (And.intro (HT.below hb3 HT.lt) (And.intro (HF.below hb3 HF.lt) (HP.below hb3 HP.lt))))))
      clear q X bel hb3 hcl HM HT HF HP
      rcases hp : hitE f t g m ee with _ | _
      · rw [hp] at he
        subst he
        have HHP := Lib.hid hp
        clear hp
        go_wp2_with fail
        go_roundw
        case rel => exact ⟨i + 1, by go_num, by omega, fun j hj => by
          by_cases e : j = i
          · subst e; rw [HEE.out]; exact HHP.out
          · exact HNO.out j (by omega), HR.out.1, HR.out.2.1, HR.out.2.2.1, HR.out.2.2.2.1, HR.out.2.2.2.2.1, HR.out.2.2.2.2.2⟩
        case measure => simp [intOf]; omega
      · rw [hp] at he
        subst he
        have HHP := Lib.hid hp
        clear hp
        go_wp2_with fail
        go_ret
        exact ⟨⟨_, rfl, .inl ⟨by omega, i, hlt, by rw [HEE.out]; exact HHP.out⟩⟩, by rw [HB0.out]; exact HR.out.2.1⟩
    · obtain rfl : i = L.length := by omega
      have HR := Lib.hid (And.intro hno bel)
      clear q bel hno HM HT HF HP
      go_wp2_with fail
      go_ret
      exact ⟨⟨_, rfl, .inr ⟨rfl, HR.out.1⟩⟩, by rw [HB0.out]; exact HR.out.2⟩
theorem any_iff (p : Ent → Bool) (L : List Ent) : L.any p = true ↔ ∃ j, j < L.length ∧ p (L.getD j e0) = true := by
  rw [List.any_eq_true]
  constructor
  · rintro ⟨x, hx, hp⟩
    obtain ⟨j, hj, he⟩ := List.getElem_of_mem hx
    exact ⟨j, hj, by rw [List.getD_eq_getElem?_getD, List.getElem?_eq_getElem hj]; simpa [he] using hp⟩
  · rintro ⟨j, hj, hp⟩
    refine ⟨L[j], List.getElem_mem hj, ?_⟩
    rw [List.getD_eq_getElem?_getD, List.getElem?_eq_getElem hj] at hp
    simpa using hp
theorem cf_own (m : Bool) (f t g : Int) (pv : Value) (mb tb fb pb : Nat) (q : Qo w b0 7 v L.length (cellsE L)) (hn : L.length ≤ 100) (HM : Blk w mb 4 #[.bool m]) (HT : Blk w tb 28 #[.int .u32 1]) (HF : Blk w fb 28 #[.int .u32 9]) (HP : Blk w pb 26 #[.int .i64 f, .int .i64 t, .int .u32 g, pv]) :
    Calls Try.prog 26 #[v, .func (.func 27) #[] #[.pointer (some ⟨mb, 0, none⟩), .pointer (some ⟨tb, 0, none⟩), .pointer (some ⟨fb, 0, none⟩), .pointer (some ⟨pb, 0, none⟩)]] w fun e w' => e = .returned (.bool (L.any (hitE f t g m))) ∧ Below w.heap.size w w' := by
  have hix := ix_own m f t g pv mb tb fb pb q hn HM HT HF HP
  obtain ⟨rb, hrb⟩ : ∃ rb, L.any (hitE f t g m) = rb := ⟨_, rfl⟩
  rw [hrb]
  have HRB := Lib.hid hrb
  clear hrb q
  go_enter Try.func26, Try.ntmps26
  go_wp2_with fail
  refine hix.mono ?_
  rintro e w1 ⟨⟨r, rfl, hr⟩, hb1⟩
  rcases hr with ⟨hr0, hr1⟩ | ⟨rfl, hr1⟩
  · have HY := Lib.hid ((any_iff (hitE f t g m) L).2 hr1)
    clear hr1 hix
    go_wp2_with fail
    go_ret
    exact ⟨ret_bool (HY.out.symm.trans HRB.out), hb1⟩
  · have HY := Lib.hid (show L.any (hitE f t g m) = false by
      rcases h : L.any (hitE f t g m) with _ | _
      · rfl
      · obtain ⟨j, hj, hp⟩ := (any_iff _ _).1 h
        rw [hr1 j hj] at hp
        cases hp)
    clear hr1 hix
    go_wp2_with fail
    go_ret
    exact ⟨ret_bool (HY.out.symm.trans HRB.out), hb1⟩
theorem owner_any (m : Bool) (f t g : Int) (pv : Value) (q : Qo w b0 7 v L.length (cellsE L)) (hn : L.length ≤ 100) :
    Calls Try.prog 10 #[v, .int .u32 1, .int .u32 9, .agg #[.int .i64 f, .int .i64 t, .int .u32 g, pv], .bool m] w fun e w' => e = .returned (.bool (!decide (g = 0) && L.any (hitE f t g m))) ∧ Below w.heap.size w w' := by
  obtain ⟨rb, hrb⟩ : ∃ rb, (!decide (g = 0) && L.any (hitE f t g m)) = rb := ⟨_, rfl⟩
  rw [hrb]
  have HRB := Lib.hid hrb
  clear hrb
  have hsz : ∀ o1 o2 o3 : Obj, (w.alloc o1).heap.size = w.heap.size + 1 ∧ ((w.alloc o1).alloc o2).heap.size = w.heap.size + 1 + 1 ∧ (((w.alloc o1).alloc o2).alloc o3).heap.size = w.heap.size + 1 + 1 + 1 := fun o1 o2 o3 => by simp
  have T1 := (((Blk.new w 28 #[.int .u32 1]).alloc (.cells #[.int .u32 9] 28)).alloc (.cells #[.int .i64 f, .int .i64 t, .int .u32 g, pv] 26)).alloc (.cells #[.bool m] 4)
  have F1 := ((blk_new2 w (.cells #[.int .u32 1] 28) 28 #[.int .u32 9]).alloc (.cells #[.int .i64 f, .int .i64 t, .int .u32 g, pv] 26)).alloc (.cells #[.bool m] 4)
  have P1 := (Blk.new ((w.alloc (.cells #[.int .u32 1] 28)).alloc (.cells #[.int .u32 9] 28)) 26 #[.int .i64 f, .int .i64 t, .int .u32 g, pv]).alloc (.cells #[.bool m] 4)
  have M1 := Blk.new (((w.alloc (.cells #[.int .u32 1] 28)).alloc (.cells #[.int .u32 9] 28)).alloc (.cells #[.int .i64 f, .int .i64 t, .int .u32 g, pv] 26)) 4 #[.bool m]
  rw [(hsz _ _ (.cells #[] 4)).2.1] at P1
  rw [(hsz _ _ _).2.2] at M1
  have q1 := (((q.alloc (.cells #[.int .u32 1] 28)).alloc (.cells #[.int .u32 9] 28)).alloc (.cells #[.int .i64 f, .int .i64 t, .int .u32 g, pv] 26)).alloc (.cells #[.bool m] 4)
  have bel1 := ((((Below.refl w.heap.size w).alloc (Nat.le_refl _) (.cells #[.int .u32 1] 28)).alloc (by simp) (.cells #[.int .u32 9] 28)).alloc (by simp; omega) (.cells #[.int .i64 f, .int .i64 t, .int .u32 g, pv] 26)).alloc (by simp; omega) (.cells #[.bool m] 4)
  clear hsz q
  go_enter Try.func10, Try.ntmps10
  go_upto_region 1 with fail
  obtain ⟨w1, hw1⟩ : ∃ w1, (((w.alloc (.cells #[.int .u32 1] 28)).alloc (.cells #[.int .u32 9] 28)).alloc (.cells #[.int .i64 f, .int .i64 t, .int .u32 g, pv] 26)).alloc (.cells #[.bool m] 4) = w1 := ⟨_, rfl⟩
  rw [hw1] at T1 F1 P1 M1 q1 bel1
  try rw [hw1]
  clear hw1
  have p2 : w1.cell? ⟨w.heap.size + 1 + 1, 2, none⟩ = some (.int .u32 g) := P1.cell 2
  have hcf := cf_own m f t g pv (w.heap.size + 1 + 1 + 1) w.heap.size (w.heap.size + 1) (w.heap.size + 1 + 1) q1 hn M1 T1 F1 P1
  clear T1 F1 P1 M1 q1
  by_cases hg : g = 0
  · subst hg
    have HY := Lib.hid (show (false = rb) from by have := HRB.out; simpa using this)
    clear hcf
    go_wp2_with fail
    go_ret
    exact ⟨ret_bool HY.out, bel1⟩
  · have HY := Lib.hid (show (g != 0 && L.any (hitE f t g m)) = rb by have h2 : (g != 0) = true := bne_iff_ne.2 hg; rw [h2, Bool.true_and]; have := HRB.out; simpa [hg] using this)
    go_wp2_with fail
    refine hcf.mono ?_
    rintro e w2 ⟨rfl, hb⟩
    have bel2 := bel1.trans (hb.mono bel1.size)
    clear hcf hb
    go_wp2_with fail
    go_ret
    exact ⟨ret_bool HY.out, bel2⟩
end
end Go.Proofs.Ythjhiogbnacmdaa.aud
