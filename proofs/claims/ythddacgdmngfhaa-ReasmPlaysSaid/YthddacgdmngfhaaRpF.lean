/- Layer 17: the document's own words: a part that comes (gen-rpf.py wrote this). -/
import Derived.Test.YthddacgdmngfhaaRpE
import Derived.Test.YthddacgdmngfhaaKitDq
import Derived.Test.YthddacgdmngfhaaKitY
namespace Go.Proofs.Ythddacgdmngfhaa.rea
open Go.Sort (grow)
open Go.ChangeShapes Go.WideShapes Go.ChangeAt Go.RowKit kit
set_option maxRecDepth 100000

theorem heap_setCells' {g k : Nat} (hne : k ≠ g) : ∀ (vs : List Value) (o : Nat) (w : World), (w.setCells g o vs).heap[k]? = w.heap[k]?
  | [], _, _ => rfl
  | v :: r, o, w => (heap_setCells' hne r (o + 1) _).trans (Below.heap_setCell w ⟨g, o, none⟩ v k hne)
theorem infoK : (Try.prog.info? 40).map (fun i => (i.zero, i.size, i.bytes)) = some (some (.agg (cki 0 0 0 0 0 ⟨#[]⟩)), 15, 184) := by kernel_rfl
/-- What the document's Add works on: all parts, the new one, the message to be told, the first part so far. -/
structure Ra (G T : Nat) (M : List Pk) (v : Value) (c : Pk) (fb : Nat) (x : Pk) (w wr : World) : Prop where
  q : Qo wr (G + 2) 15 v M.length (cellsK T M)
  hq : ∀ g, blkOf v = some g → g < fb
  C : Blk wr G 40 (pkc T c)
  R : Blk wr (G + 1) 30 #[.int .i64 0, .int .i64 0, .bool false, .int .u32 0, .string ⟨#[]⟩]
  F : Cel wr fb 0 (pkc T x)
  hf : G + 1 < fb
  bel : Below G w wr
section
variable {G T fb : Nat} {M : List Pk} {v : Value} {c x : Pk} {w wr w' : World}
theorem Ra.below (h : Ra G T M v c fb x w wr) {k : Nat} (hb : Below k wr w') (hk : wr.heap.size ≤ k) : Ra G T M v c fb x w w' :=
  ⟨h.q.below hb hk, h.hq, h.C.below hb (Nat.lt_of_lt_of_le h.C.lt hk), h.R.below hb (Nat.lt_of_lt_of_le h.R.lt hk), h.F.below hb (Nat.lt_of_lt_of_le h.F.lt hk), h.hf, h.bel.trans (hb.mono (by have := h.C.lt; omega))⟩
theorem Ra.setF (h : Ra G T M v c fb x w wr) (y : Pk) : Ra G T M v c fb y w (wr.setCells fb 0 (pkc T y).toList) :=
  ⟨h.q.block (by rw [size_setCells (w := wr)]; exact Nat.le_refl _) fun g hg => heap_setCells' (by have := h.hq g hg; omega) _ _ _, h.hq, blk_setCells h.C (by have := h.hf; omega) _ _, blk_setCells h.R (by have := h.hf; omega) _ _, (h.F.setCells_same (pkc T y).toList rfl).congr (by simp), h.hf, below_setCells h.bel (by have := h.hf; omega) _ _⟩
end
/-- What the document's Add comes to. -/
def RAdd (T : Nat) (M : List Pk) (o : Option (Pk × Pk)) (w : World) (e : Ending) (w' : World) : Prop :=
  ∃ v', e = .returned (.tuple #[v', .agg (amsg M o), .bool o.isSome]) ∧ Qo w' w.heap.size 15 v' (aleft M o).length (cellsK T (aleft M o)) ∧ Below w.heap.size w w'
theorem ra_none {G T fb : Nat} {M : List Pk} {v : Value} {c x : Pk} {w wr : World} (hG : w.heap.size = G) (h : Ra G T M v c fb x w wr) (hn : whole M c = none) :
    RAdd T M (whole M c) w (.returned (.tuple #[v, .agg #[.int .i64 0, .int .i64 0, .bool false, .int .u32 0, .string ⟨#[]⟩], .bool false])) (wr.setCells (G + 1) 0 (#[.int .i64 0, .int .i64 0, .bool false, .int .u32 0, .string ⟨#[]⟩] : Array Value).toList) := by
  subst hG
  rw [hn]
  exact ⟨v, rfl, (h.q.block (by rw [size_setCells (w := wr)]; exact Nat.le_refl _) fun g hg => heap_setCells' (by have := h.q.lt hg; omega) _ _ _).weaken (by omega), below_setCells h.bel (by omega) _ _⟩
/-- And the last part so far. -/
structure Rb (G T : Nat) (M : List Pk) (v : Value) (c : Pk) (fb : Nat) (x : Pk) (lb : Nat) (y : Pk) (w wr : World) : Prop where
  A : Ra G T M v c fb x w wr
  L : Cel wr lb 0 (pkc T y)
  hl : fb < lb
section
variable {G T fb lb : Nat} {M : List Pk} {v : Value} {c x y : Pk} {w wr w' : World}
theorem Rb.below (h : Rb G T M v c fb x lb y w wr) {k : Nat} (hb : Below k wr w') (hk : wr.heap.size ≤ k) : Rb G T M v c fb x lb y w w' :=
  ⟨h.A.below hb hk, h.L.below hb (Nat.lt_of_lt_of_le h.L.lt hk), h.hl⟩
theorem Ra.setO (h : Ra G T M v c fb x w wr) {lb : Nat} (hl : fb < lb) (vs : List Value) : Ra G T M v c fb x w (wr.setCells lb 0 vs) :=
  ⟨h.q.block (by rw [size_setCells (w := wr)]; exact Nat.le_refl _) fun g hg => heap_setCells' (by have := h.hq g hg; omega) _ _ _, h.hq, blk_setCells h.C (by have := h.hf; omega) _ _, blk_setCells h.R (by have := h.hf; omega) _ _, h.F.setCells_far (by omega) _ _, h.hf, below_setCells h.bel (by have := h.hf; omega) _ _⟩
theorem Rb.setL (h : Rb G T M v c fb x lb y w wr) (y' : Pk) : Rb G T M v c fb x lb y' w (wr.setCells lb 0 (pkc T y').toList) :=
  ⟨h.A.setO h.hl _, (h.L.setCells_same (pkc T y').toList rfl).congr (by simp), h.hl⟩
end
theorem Rb.keep {G T fb lb : Nat} {M : List Pk} {v : Value} {c x y : Pk} {w wr w' : World} (h : Rb G T M v c fb x lb y w wr) (hb : Below (lb + 1) wr w') : Rb G T M v c fb x lb y w w' := by
  have := h.hl
  have := h.A.hf
  exact ⟨⟨h.A.q.block hb.size fun g hg => hb.block g (by have := h.A.hq g hg; omega), h.A.hq, h.A.C.below hb (by omega), h.A.R.below hb (by omega), h.A.F.below hb (by omega), h.A.hf, h.A.bel.trans (hb.mono (by omega))⟩, h.L.below hb (by omega), h.hl⟩
theorem whole_up {M : List Pk} {c F : Pk} (hU : Uq M) (h64 : ∀ x ∈ M, x.k < 64) (hc : c ∈ M) (hd : down M c.k c = some F) : whole M c = match up M (64 - F.k) F with | none => none | some La => some (F, La) := by
  unfold whole
  rw [hd, up_down hU h64 c.k hc rfl hd]
  rfl
theorem rest_in {l : List Pk} {y : Pk} {F L : Nat} (h : y.k < F ∨ L < y.k) : rest (l ++ [y]) F L = rest l F L ++ [y] := by
  unfold rest
  rw [List.filter_append, List.filter_cons_of_pos (by simpa using h)]
  rfl
theorem rest_out {l : List Pk} {y : Pk} {F L : Nat} (h : ¬ (y.k < F ∨ L < y.k)) : rest (l ++ [y]) F L = rest l F L := by
  unfold rest
  rw [List.filter_append, List.filter_cons_of_neg (by simpa using h)]
  simp
theorem rest_len (l : List Pk) (F L : Nat) : (rest l F L).length ≤ l.length := by unfold rest; exact List.length_filter_le _ _
/-- How far a number is from another one, of two that are near. -/
def dst (a b : Nat) : Nat := if b ≤ a then a - b else 4294967296 - (b - a)
theorem dst_is (T : Nat) {a b : Nat} (ha : a < 64) (hb : b < 64) : (((ts T a : Nat) : Int) - ((ts T b : Nat) : Int)) % 4294967296 = ((dst a b : Nat) : Int) := by
  unfold ts dst
  split <;> omega
theorem dst_gt {a b c : Nat} (ha : a < 64) (hb : b < 64) (hc : c < 64) (h : b ≤ c) : dst c b < dst a b ↔ (a < b ∨ c < a) := by
  unfold dst
  rw [if_pos h]
  split <;> omega
/-- The end: a message is told. -/
theorem ra_some {G T fb lb : Nat} {M : List Pk} {v o : Value} {c F La : Pk} {w wr : World} (hG : w.heap.size = G) (h : Rb G T M v c fb F lb La w wr) (q : Qo wr (lb + 1) 15 o (rest M F.k La.k).length (cellsK T (rest M F.k La.k))) (hw : whole M c = some (F, La)) (msg : Array Value) (hm : msg = mkm F (cat M F.k (La.k + 1 - F.k))) :
    RAdd T M (whole M c) w (.returned (.tuple #[o, .agg msg, .bool true])) (wr.setCells (G + 1) 0 msg.toList) := by
  subst hG
  subst hm
  rw [hw]
  have := h.hl
  have := h.A.hf
  exact ⟨o, rfl, (q.block (by rw [size_setCells (w := wr)]; exact Nat.le_refl _) fun g hg => heap_setCells' (by have := q.lt hg; omega) _ _ _).weaken (by omega), below_setCells h.A.bel (by omega) _ _⟩
theorem cat_one {M : List Pk} (hU : Uq M) {F : Pk} (hF : F ∈ M) : cat M F.k (F.k + 1 - F.k) = F.d := by
  rw [show F.k + 1 - F.k = 1 by omega]
  unfold cat
  rw [Nat.add_zero, pat_mem hU hF]
  show (⟨#[]⟩ : ByteArray) ++ F.d = F.d
  exact ByteArray.empty_append
theorem cat_more {M : List Pk} (hU : Uq M) {a : Nat} {y : Pk} (hy : y ∈ M) (ha : a ≤ y.k) : cat M a (y.k + 1 - a) = cat M a (y.k - a) ++ y.d := by
  rw [show y.k + 1 - a = (y.k - a) + 1 by omega]
  conv => lhs; unfold cat
  rw [show a + (y.k - a) = y.k by omega, pat_mem hU hy]
section
variable {P : Program}
/-- Three results, the second of which lies in memory. -/
theorem results_tct {fn : Func} {p u q : Tmp} {ty : TypeId} (hr : fn.results = #[.tmp u, .cell p ty, .tmp q]) (tmps : Array Value) (w : World) (h o : Nat) (cs : Array Value) (d : TypeDesc)
    (hp : tmps.getD p undef = .pointer (some ⟨h, o, none⟩)) (C : Cel w h o cs)
    (hu : P.underlying ty = some d) (hd : (match d with | .struct _ | .array _ _ => true | _ => false) = true) (hi : (P.info? ty).map (·.size) = some cs.size) :
    (results fn tmps).run P w = .ok (.tuple #[tmps.getD u undef, .agg cs, tmps.getD q undef]) w := by
  have hp' : tmps[p]?.getD undef = .pointer (some ⟨h, o, none⟩) := by simpa using hp
  simp [results, hr, hp', asAddr, run_loadVar_at ty d C hu hd hi]
end
theorem whole_down {M : List Pk} {c : Pk} (h : down M c.k c = none) : whole M c = none := by unfold whole; rw [h]

set_option maxHeartbeats 8000000 in
theorem radd_any {b0 T : Nat} {v : Value} {L0 : List Pk} {w : World} (q : Qo w b0 15 v L0.length (cellsK T L0)) (c : Pk) (M : List Pk) (hM : L0 ++ [c] = M) (hN : Nd M) (h64 : ∀ x ∈ M, x.k < 64) (h8 : ∀ x ∈ M, x.f < 8) (h6 : ∀ x ∈ M, x.d.size ≤ 6) (hl : M.length ≤ 100) :
    Calls Try.prog 61 #[v, .agg (pkc T c)] w (RAdd T M (whole M c) w) := by
  obtain ⟨i0, hi, hz0, hz1, hz2⟩ := info_parts infoK
  have hcM : c ∈ M := by rw [← hM]; simp
  have hU := uq_of_nd hN
  have hl0 : L0.length + 1 = M.length := by rw [← hM, List.length_append]; rfl
  have C0 := (Blk.new w 40 (pkc T c)).alloc (.cells #[.int .i64 0, .int .i64 0, .bool false, .int .u32 0, .string ⟨#[]⟩] 30)
  have R0 := Blk.new (w.alloc (.cells (pkc T c) 40)) 30 #[.int .i64 0, .int .i64 0, .bool false, .int .u32 0, .string ⟨#[]⟩]
  have bel0 := ((Below.refl w.heap.size w).alloc (Nat.le_refl _) (.cells (pkc T c) 40)).alloc (by simp) (.cells #[.int .i64 0, .int .i64 0, .bool false, .int .u32 0, .string ⟨#[]⟩] 30)
  have q0 := (q.alloc (.cells (pkc T c) 40)).alloc (.cells #[.int .i64 0, .int .i64 0, .bool false, .int .u32 0, .string ⟨#[]⟩] 30)
  have hs0 : ((w.alloc (.cells (pkc T c) 40)).alloc (.cells #[.int .i64 0, .int .i64 0, .bool false, .int .u32 0, .string ⟨#[]⟩] 30)).heap.size = w.heap.size + 2 := by simp
  have hs1 : (w.alloc (.cells (pkc T c) 40)).heap.size = w.heap.size + 1 := by simp
  rw [hs1] at R0
  obtain ⟨ov, cv, hv, _, _⟩ := q.shape
  subst hv
  obtain ⟨c1, hc1⟩ : ∃ c1, pkc T c = c1 := ⟨_, rfl⟩
  have HC := Lib.hid hc1
  rw [hc1] at C0 R0 bel0 q0 hs0 ⊢
  clear hc1 hs1 q
  go_enter Try.func61, Try.ntmps61
  go_upto_region 1 with fail
  obtain ⟨w1, hw1⟩ : ∃ w1, (w.alloc (.cells c1 40)).alloc (.cells #[.int .i64 0, .int .i64 0, .bool false, .int .u32 0, .string ⟨#[]⟩] 30) = w1 := ⟨_, rfl⟩
  rw [hw1] at C0 R0 bel0 q0 hs0
  try rw [hw1]
  clear hw1
  obtain ⟨G, hG⟩ : ∃ G, w.heap.size = G := ⟨_, rfl⟩
  have HG := Lib.hid hG
  rw [hG] at C0 R0 bel0 hs0
  try rw [hG]
  clear hG
  rw [← HC.out] at C0
  have hcone := pkc_one T c
  have szc : (Try.prog.info? 40).map (·.size) = some (pkc T c).size := by show _ = some 15; kernel_rfl
  refine wp_region_noPanic ?_
  refine begin_C (fun v => Cel v G 0 (pkc T c)) 6 (by kernel_rfl) ?_
  refine abs_C _ (fun b hb => ?_)
  have hsz : b.tmps.size = 156 := by rw [hb]; rfl
  have e0 : b.eval (.tmp 0) = .slice ov L0.length cv := by rw [hb]; rfl
  have e3 : b.eval (.tmp 3) = .pointer (some ⟨G, 0, none⟩) := by rw [hb]; rfl
  have HB := Lib.hid hb
  clear hb
  have EV := And.intro @Act.eval_put_ne (And.intro @Act.eval_put_same (And.intro @Act.size_put (And.intro hsz (And.intro e0 e3))))
  have HS : Cel w1.drew G 0 (pkc T c) := (Cel.of_blk C0).drew
  have hS : ∀ v, Below w1.heap.size w1.drew v → Cel v G 0 (pkc T c) := fun v hb => HS.below hb (by have := C0.lt; omega)
  refine take_Y (i := 1) (u := .slice ov L0.length cv) rfl (by kernel_rfl) (by kernel_rfl) (by kernel_rfl) (by decide) rfl rfl (fun _ _ _ h => h) HS (fun v => run_move rfl (by simp [e0]) v) ?_
  refine take_C (i := 3) [4, 5] (u := .agg (pkc T c)) rfl (by kernel_rfl) (by kernel_rfl) (by kernel_rfl) (by kernel_rfl) (by kernel_rfl) (by decide) rfl rfl (fun _ _ _ h => h) HS (fun v hv => run_load_at rfl (h := G) (off := 0) (by simp [EV]) _ Try.underlying40 rfl szc hv) ?_
  refine dappq_C (T := 40) (SL := 26) (fuel := 1) (xv := .agg (pkc T c)) (sv := .slice ov L0.length cv) (ITEM := pkc T c) 0 2 4 5 _ _ _ _ 20 22 24 25 21 23 (by kernel_rfl) (by simp [Act.size_put, hsz, dappCT]) rfl rfl rfl rfl ⟨rfl, rfl⟩ ⟨rfl, rfl⟩ ⟨rfl, rfl⟩ ⟨rfl, rfl⟩ rfl rfl
    (fun b v => by kernel_rfl) (fun b v hb => run_build1 rfl hb (by kernel_rfl)) Try.underlying26 hi hz0 hz1 hz2 rfl (by simp [EV]) (by simp [EV]) q0.drew (cellsK_one T L0) hcone rfl (by unfold maxLen; omega) (by omega)
    (fun v hb => hS v hb) (fun vE vM vB oa cp v q1 bel1 => ?_)
  refine val_C (i := 6) (u := .slice oa (L0.length + 1) cp) (by kernel_rfl) rfl rfl rfl (fun h => absurd rfl h) (run_assign rfl (by simp [EV]) _) ?_
  refine done_C (by kernel_rfl) ?_ _
  refine NoPanic.normal ?_
  rw [HB.out]
  simp only [Act.put, List.setIfInBounds_toArray, List.set_cons_zero, List.set_cons_succ]
  have bel1' : Below w1.heap.size w1 v := (Below.refl _ _).drew.trans bel1
  have q1' : Qo v (G + 2) 15 (.slice oa M.length cp) M.length (cellsK T M) := by
    have hs : w1.drew.heap.size = G + 2 := hs0
    rw [hs, hl0] at q1
    rw [← hM, cellsK_append, hM]
    simpa [cellsK] using q1
  rw [hl0]
  have C1 := C0.below bel1' C0.lt
  have R1 := R0.below bel1' R0.lt
  have belG := bel0.trans (bel1'.mono (by omega))
  have hs2 := bel1'.size
  clear HB HS hS bel1 bel1' q1 C0 R0 bel0 q0 EV e0 e3 hsz hcone hi hz0 hz1 hz2
  rw [hs0] at hs2
  clear hs0
  -- the first part, so far the new one
  go_upto_region 3 with (refine wpList_load_at rfl 40 _ rfl G 0 rfl #[.int .i64 0, .int .i64 (c.f : Nat), .int .u32 ((ts T c.k : Nat) : Int), .int .i64 (c.st : Nat), .int .i64 (c.ss : Nat), .int .u32 (c.k : Nat), .string c.d, .int .u32 0, .int .u32 0, .int .i64 0, .int .i64 0, .slice none 0 0, .slice none 0 0, .slice none 0 0, .slice none 0 0] _ (Cel.of_blk C1) Try.underlying40 rfl szc ?_)
  have F1 := Cel.of_blk (Blk.new v 40 (pkc T c))
  have al1 := (Below.refl v.heap.size v).alloc (Nat.le_refl _) (.cells (pkc T c) 40)
  have RA : Ra G T M (.slice oa M.length cp) c v.heap.size c w (v.alloc (.cells (pkc T c) 40)) := ⟨q1'.alloc _, fun g hg => (q1'.lt hg).2, C1.alloc _, R1.alloc _, F1, by omega, belG.trans (al1.mono (by omega))⟩
  clear F1 al1 C1 R1 belG q1' szc
  obtain ⟨w2, hw2⟩ : ∃ w2, v.alloc (.cells (pkc T c) 40) = w2 := ⟨_, rfl⟩
  rw [hw2] at RA
  have hw2' : v.alloc (.cells #[.int .i64 0, .int .i64 (c.f : Nat), .int .u32 ((ts T c.k : Nat) : Int), .int .i64 (c.st : Nat), .int .i64 (c.ss : Nat), .int .u32 (c.k : Nat), .string c.d, .int .u32 0, .int .u32 0, .int .i64 0, .int .i64 0, .slice none 0 0, .slice none 0 0, .slice none 0 0, .slice none 0 0] 40) = w2 := hw2
  try rw [hw2']
  clear hw2 hw2'
  obtain ⟨fb, hfb⟩ : ∃ fb, v.heap.size = fb := ⟨_, rfl⟩
  rw [hfb] at RA
  try rw [hfb]
  clear hfb hs2
  have HRA := Lib.hid (And.intro RA hcM)
  clear RA
  have hMl : ((M.length : Nat) : Int) ≤ 9223372036854775807 := by omega
  go_wp2_with fail

  go_loopw [9] (fun s9 wr => ∃ x, x ∈ M ∧ s9 = .int .i64 ((c.k - x.k : Nat) : Int) ∧ x.k ≤ c.k ∧ down M x.k x = down M c.k c ∧ (∀ j, x.k ≤ j → j ≤ c.k → ∃ y ∈ M, y.k = j) ∧ Ra G T M (.slice oa M.length cp) c fb x w wr) (fun _ wr => ptOf fb wr)
  case atStart => exact ⟨c, HRA.out.2, by rw [Nat.sub_self]; rfl, Nat.le_refl _, rfl, fun j h1 h2 => ⟨c, HRA.out.2, by omega⟩, HRA.out.1⟩
  case round =>
    clear HRA
    obtain ⟨⟨k, f, st, ss, d⟩, hx, rfl, hkc, hd, hall, RA⟩ := hrel
    have hkc' : k ≤ c.k := hkc
    have hk64 : k < 64 := h64 _ hx
    have hf8 : f < 8 := h8 _ hx
    have hrun : c.k - k + 1 ≤ M.length := by
      have := run_len (c.k - k + 1) (M.map Pk.k) k (fun j hj => by
        obtain ⟨y, hy, e⟩ := hall (k + j) (by show k ≤ k + j; omega) (by omega)
        exact List.mem_map.2 ⟨y, hy, e⟩)
      simpa using this
    have hle : ((c.k - k : Nat) : Int) ≤ (M.length : Int) := by omega
    have HPT := Lib.hid (ptOf_eq RA.F)
    have c1 : wr.cell? ⟨fb, 1, none⟩ = some (.int .i64 (f : Nat)) := RA.F.cell0 1 rfl
    have c2 : wr.cell? ⟨fb, 2, none⟩ = some (.int .u32 (ts T k : Nat)) := RA.F.cell0 2 rfl
    obtain ⟨n9, hn9⟩ : ∃ n9, c.k - k = n9 := ⟨_, rfl⟩
    have HN9 := Lib.hid hn9
    rw [hn9] at hle ⊢
    clear hn9 hrun
    by_cases hb : f / 2 % 2 = 1
    · have hq : (wrap64 (((f : Nat) : Int) / 2)).tmod 2 = 1 := by rw [qr2 f hf8, hb]; rfl
      have hq3 : ((f : Nat) : Int) / 2 % 2 = 1 := by omega
      have hres : down M c.k c = some ⟨k, f, st, ss, d⟩ := hd.symm.trans (down_beg (by exact hb) _)
      have HX := Lib.hid (And.intro hres (And.intro hx RA))
      clear hd hres RA hx hall hkc hkc' HPT
      go_upto_region 10 with fail
      have F0 : Cel wr fb 0 (cki (f : Nat) (ts T k : Nat) (st : Nat) (ss : Nat) (k : Nat) d) := HX.out.2.2.F
      have szA := szI (f : Nat) (ts T k : Nat) (st : Nat) (ss : Nat) (k : Nat) d
      refine wp_region_noPanic ?_
      refine begin_C (fun v => Cel v fb 0 (cki (f : Nat) (ts T k : Nat) (st : Nat) (ss : Nat) (k : Nat) d)) 5 (by kernel_rfl) ?_
      refine abs_C _ (fun b hb => ?_)
      have hsz : b.tmps.size = 156 := by rw [hb]; rfl
      have e8 : b.eval (.tmp 8) = .pointer (some ⟨fb, 0, none⟩) := by rw [hb]; rfl
      have HB := Lib.hid hb
      clear hb
      have EV := And.intro @Act.eval_put_ne (And.intro @Act.eval_put_same (And.intro @Act.size_put (And.intro hsz e8)))
      have HS := F0.drew
      refine take_C (i := 0) [4] (u := .agg (cki (f : Nat) (ts T k : Nat) (st : Nat) (ss : Nat) (k : Nat) d)) rfl (by kernel_rfl) (by kernel_rfl) (by kernel_rfl) (by kernel_rfl) (by kernel_rfl) (by decide) rfl rfl (fun _ _ _ h => h) HS (fun v hv => run_load_at rfl (h := fb) (off := 0) (by simp [EV]) _ Try.underlying40 rfl szA hv) ?_
      refine take_Y (i := 1) (u := .pointer (some ⟨fb, 6, none⟩)) rfl (by kernel_rfl) (by kernel_rfl) (by kernel_rfl) (by decide) rfl rfl (fun _ _ _ h => h) HS (fun v => run_field (s := .pointer (some ⟨fb, 0, none⟩)) rfl (by simp [EV]) (by kernel_rfl)) ?_
      refine take_C (i := 2) [] (u := .string d) rfl (by kernel_rfl) (by kernel_rfl) (by kernel_rfl) (by kernel_rfl) (by kernel_rfl) (by decide) rfl rfl (fun _ _ _ h => h) HS (fun v hv => run_load1 (s := .pointer (some ⟨fb, 6, none⟩)) rfl (by simp [EV]) (by have c := hv.cell0 6 (u := .string d) rfl; go_simp)) ?_
      have Y0 := Cel.of_blk (Blk.new wr.drew 40 #[.int .i64 0, .int .i64 0, .int .u32 0, .int .i64 0, .int .i64 0, .int .u32 0, .string ⟨#[]⟩, .int .u32 0, .int .u32 0, .int .i64 0, .int .i64 0, .slice none 0 0, .slice none 0 0, .slice none 0 0, .slice none 0 0])
      have al0 := (Below.refl wr.heap.size wr).drew.alloc (Nat.le_refl _) (.cells #[.int .i64 0, .int .i64 0, .int .u32 0, .int .i64 0, .int .i64 0, .int .u32 0, .string ⟨#[]⟩, .int .u32 0, .int .u32 0, .int .i64 0, .int .i64 0, .slice none 0 0, .slice none 0 0, .slice none 0 0, .slice none 0 0] 40)
      have RA1 := HX.out.2.2.below al0 (Nat.le_refl _)
      have HS1 := HS.alloc (.cells #[.int .i64 0, .int .i64 0, .int .u32 0, .int .i64 0, .int .i64 0, .int .u32 0, .string ⟨#[]⟩, .int .u32 0, .int .u32 0, .int .i64 0, .int .i64 0, .slice none 0 0, .slice none 0 0, .slice none 0 0, .slice none 0 0] 40)
      have hlb : fb < wr.drew.heap.size := HS.lt
      refine val_C (i := 3) (u := .pointer (some ⟨wr.drew.heap.size, 0, none⟩)) (w' := wr.drew.alloc (.cells #[.int .i64 0, .int .i64 0, .int .u32 0, .int .i64 0, .int .i64 0, .int .u32 0, .string ⟨#[]⟩, .int .u32 0, .int .u32 0, .int .i64 0, .int .i64 0, .slice none 0 0, .slice none 0 0, .slice none 0 0, .slice none 0 0] 40)) (by kernel_rfl) rfl rfl rfl (fun _ => HS1) (by kernel_rfl) ?_
      obtain ⟨lb, hlb'⟩ : ∃ lb, wr.drew.heap.size = lb := ⟨_, rfl⟩
      rw [hlb'] at Y0 hlb ⊢
      clear hlb'
      obtain ⟨w3, hw3⟩ : ∃ w3, wr.drew.alloc (.cells #[.int .i64 0, .int .i64 0, .int .u32 0, .int .i64 0, .int .i64 0, .int .u32 0, .string ⟨#[]⟩, .int .u32 0, .int .u32 0, .int .i64 0, .int .i64 0, .slice none 0 0, .slice none 0 0, .slice none 0 0, .slice none 0 0] 40) = w3 := ⟨_, rfl⟩
      rw [hw3] at Y0 RA1 HS1 ⊢
      clear hw3 al0
      refine store_C (i := 4) (p := .pointer (some ⟨lb, 0, none⟩)) (u := .agg (cki (f : Nat) (ts T k : Nat) (st : Nat) (ss : Nat) (k : Nat) d)) (w' := w3.setCells lb 0 (cki (f : Nat) (ts T k : Nat) (st : Nat) (ss : Nat) (k : Nat) d).toList) (by kernel_rfl) rfl rfl rfl rfl (by simp [EV]) (by simp [EV]) (fun _ => HS1.setCells_far (by omega) _ _) (run_store_at 40 (cs := (cki (f : Nat) (ts T k : Nat) (st : Nat) (ss : Nat) (k : Nat) d)) Y0 szA rfl (oneI _ _ _ _ _ _)) ?_
      refine val_C (i := 5) (u := .string d) (by kernel_rfl) rfl rfl rfl (fun h => absurd rfl h) (run_assign rfl (by simp [EV]) _) ?_
      refine done_C (by kernel_rfl) ?_ _
      refine NoPanic.normal ?_
      rw [HB.out]
      simp only [Act.put, List.setIfInBounds_toArray, List.set_cons_zero, List.set_cons_succ]
      have RB : Rb G T M (.slice oa M.length cp) c fb ⟨k, f, st, ss, d⟩ lb ⟨k, f, st, ss, d⟩ w (w3.setCells lb 0 (cki (f : Nat) (ts T k : Nat) (st : Nat) (ss : Nat) (k : Nat) d).toList) := ⟨RA1.setO hlb _, (Y0.setCells_same (cki (f : Nat) (ts T k : Nat) (st : Nat) (ss : Nat) (k : Nat) d).toList rfl).congr (by simp [pkc_eq]), hlb⟩
      have hx35 : ((((f : Nat) : Int) / 2 % 2) == 0) = false := by simp; omega
      try rw [hx35]
      try rw [hx35]
      clear HB HS EV e8 hsz HS1 Y0 RA1 F0 szA c1 c2 hq hle hq3 hb hx35
      obtain ⟨w4, hw4⟩ : ∃ w4, w3.setCells lb 0 (cki (f : Nat) (ts T k : Nat) (st : Nat) (ss : Nat) (k : Nat) d).toList = w4 := ⟨_, rfl⟩
      rw [hw4] at RB ⊢
      clear hw4
      have HRB := Lib.hid RB
      have hcat1 : cat M k (k + 1 - k) = d := cat_one hU HX.out.2.1
      have HC1 := Lib.hid hcat1
      clear RB hcat1
      go_wp2_with fail
      go_loopw [13, 14] (fun s13 s14 wr => ∃ y, y ∈ M ∧ s13 = .string (cat M k (y.k + 1 - k)) ∧ s14 = .int .i64 ((y.k - k : Nat) : Int) ∧ k ≤ y.k ∧ up M (64 - y.k) y = up M (64 - k) ⟨k, f, st, ss, d⟩ ∧ (∀ j, k ≤ j → j ≤ y.k → ∃ z ∈ M, z.k = j) ∧ Rb G T M (.slice oa M.length cp) c fb ⟨k, f, st, ss, d⟩ lb y w wr) (fun _ _ wr => 64 - ptOf lb wr)
      case atStart => exact ⟨⟨k, f, st, ss, d⟩, HX.out.2.1, by show Value.string d = Value.string (cat M k (k + 1 - k)); rw [HC1.out], by show _ = Value.int .i64 ((k - k : Nat) : Int); rw [Nat.sub_self]; rfl, Nat.le_refl _, rfl, fun j h1 h2 => ⟨_, HX.out.2.1, Nat.le_antisymm h1 h2⟩, HRB.out⟩
      case round =>
        clear HRB HC1
        obtain ⟨⟨k2, f2, st2, ss2, d2⟩, hy, rfl, rfl, hkk, hup, hall2, RB⟩ := hrel
        have hkk' : k ≤ k2 := hkk
        have hk64' : k2 < 64 := h64 _ hy
        have hf8' : f2 < 8 := h8 _ hy
        have hrun : k2 - k + 1 ≤ M.length := by
          have := run_len (k2 - k + 1) (M.map Pk.k) k (fun j hj => by
            obtain ⟨y, hy, e⟩ := hall2 (k + j) (by omega) (by show k + j ≤ k2; omega)
            exact List.mem_map.2 ⟨y, hy, e⟩)
          simpa using this
        have hle : ((k2 - k : Nat) : Int) ≤ (M.length : Int) := by omega
        have HPT := Lib.hid (ptOf_eq RB.L)
        have l1 : wr.cell? ⟨lb, 1, none⟩ = some (.int .i64 (f2 : Nat)) := RB.L.cell0 1 rfl
        have l2 : wr.cell? ⟨lb, 2, none⟩ = some (.int .u32 (ts T k2 : Nat)) := RB.L.cell0 2 rfl
        obtain ⟨n9, hn9⟩ : ∃ n9, k2 - k = n9 := ⟨_, rfl⟩
        obtain ⟨dt, hdt⟩ : ∃ dt, cat M k (k2 + 1 - k) = dt := ⟨_, rfl⟩
        have hdts : dt.size ≤ 1000 := by have := cat_size h6 k (k2 + 1 - k); rw [hdt] at this; omega
        have HN9 := Lib.hid (And.intro hn9 hdt)
        rw [hn9] at hle
        simp only [hn9, hdt]
        clear hn9 hrun hdt
        by_cases hb2 : f2 % 2 = 1
        · have hq : (((f2 : Nat) : Int)).tmod 2 = 1 := by have := rem2 f2 hf8'; rw [hb2] at this; exact this
          have hw : whole M c = some (⟨k, f, st, ss, d⟩, ⟨k2, f2, st2, ss2, d2⟩) := by
            rw [whole_up hU h64 hcM HX.out.1, ← hup, up_end (c := ⟨k2, f2, st2, ss2, d2⟩) hb2]
          have HX2 := Lib.hid (And.intro hw HN9.out.2)
          have HRB := Lib.hid RB
          go_upto_region 18 with fail
          have hwlt : lb < wr.heap.size := HRB.out.L.lt
          clear hw hup hall2 hy HPT l1 l2 RB HN9
          go_upto_region 19 with fail
          have al7 := (Below.refl wr.heap.size wr).alloc (Nat.le_refl _) (.cells #[] 40)
          have RB7 := HRB.out.below al7 (Nat.le_refl _)
          have q7 := Qo.empty (wr.alloc (.cells #[] 40)) (lb + 1) 15 (some ⟨wr.heap.size, 0, none⟩)
          clear al7 HRB hq hb2
          obtain ⟨w7, hw7⟩ : ∃ w7, wr.alloc (.cells #[] 40) = w7 := ⟨_, rfl⟩
          rw [hw7] at RB7 q7
          try rw [hw7]
          clear hw7
          obtain ⟨ob, hob⟩ : ∃ ob, wr.heap.size = ob := ⟨_, rfl⟩
          rw [hob] at q7
          try rw [hob]
          clear hob
          have HR7 := Lib.hid (And.intro RB7 q7)
          clear RB7 q7
          go_wp2_with fail
          go_loopw [17, 18] (fun s17 s18 wr => ∃ (i : Nat) (ow : Option Addr) (cw : Nat), s18 = .int .i64 (i : Nat) ∧ i ≤ M.length ∧ s17 = .slice ow (rest (M.take i) k k2).length cw ∧ Qo wr (lb + 1) 15 (.slice ow (rest (M.take i) k k2).length cw) (rest (M.take i) k k2).length (cellsK T (rest (M.take i) k k2)) ∧ Rb G T M (.slice oa M.length cp) c fb ⟨k, f, st, ss, d⟩ lb ⟨k2, f2, st2, ss2, d2⟩ w wr) (fun _ s18 _ => M.length - (intOf s18).toNat)
          case atStart => exact ⟨0, _, 0, rfl, Nat.zero_le _, rfl, HR7.out.2, HR7.out.1⟩
          case round =>
            clear HR7
            obtain ⟨i, ow, cw, rfl, hi', rfl, qo, RB⟩ := hrel
            by_cases hlt : i < M.length
            · obtain ⟨⟨k4, f4, st4, ss4, d4⟩, hy⟩ : ∃ y, M[i]? = some y := ⟨_, List.getElem?_eq_getElem hlt⟩
              have hy64 : k4 < 64 := h64 _ (List.mem_of_getElem? hy)
              obtain ⟨hh, off, cap', e, _, _, _, _, _, CC⟩ := RB.A.q.show_ (by omega)
              simp only [Value.slice.injEq, true_and] at e
              obtain ⟨rfl, rfl⟩ := e
              have Y : Cel wr hh (off + i * 15) (cki (f4 : Nat) (ts T k4 : Nat) (st4 : Nat) (ss4 : Nat) (k4 : Nat) d4) := CC i (pkc T ⟨k4, f4, st4, ss4, d4⟩) hlt (Nat.le_refl 15) (cellsK_get hy)
              have F2 : wr.cell? ⟨fb, 2, none⟩ = some (.int .u32 (ts T k : Nat)) := RB.A.F.cell0 2 rfl
              have L2 : wr.cell? ⟨lb, 2, none⟩ = some (.int .u32 (ts T k2 : Nat)) := RB.L.cell0 2 rfl
              have y2 : wr.cell? ⟨hh, off + i * 15 + 2, none⟩ = some (.int .u32 (ts T k4 : Nat)) := Y.cell 2 (u := .int .u32 (ts T k4 : Nat)) rfl
              have hii : (i : Int) < (M.length : Int) := by omega
              have hi0 : (0 : Int) ≤ (i : Int) := by omega
              have htk : M.take (i + 1) = M.take i ++ [(⟨k4, f4, st4, ss4, d4⟩ : Pk)] := by rw [List.take_add_one, hy]; rfl
              have h1 := dst_is T hy64 hk64
              have h2 := dst_is T hk64' hk64
              have hg := dst_gt (a := k4) hy64 hk64 hk64' hkk'
              obtain ⟨da, hda⟩ : ∃ da, dst k4 k = da := ⟨_, rfl⟩
              obtain ⟨db, hdb⟩ : ∃ db, dst k2 k = db := ⟨_, rfl⟩
              rw [hda] at h1 hg
              rw [hdb] at h2 hg
              have h1' : IntKind.u32.wrap (((ts T k4 : Nat) : Int) - ((ts T k : Nat) : Int)) = ((da : Nat) : Int) := h1
              have h2' : IntKind.u32.wrap (((ts T k2 : Nat) : Int) - ((ts T k : Nat) : Int)) = ((db : Nat) : Int) := h2
              have HT := Lib.hid (And.intro htk (And.intro RB (And.intro qo Y)))
              have hil : (rest (M.take i) k k2).length ≤ 100 := Nat.le_trans (rest_len _ _ _) (by rw [List.length_take]; omega)
              obtain ⟨no, hno⟩ : ∃ no, (rest (M.take i) k k2).length = no := ⟨_, rfl⟩
              rw [hno] at hil ⊢
              have HNO := Lib.hid hno
              clear htk RB qo Y CC hy hda hdb hno
              go_upto_region 22 with fail
              go_region
              by_cases hin : k4 < k ∨ k2 < k4
              · have hlt2 : ((db : Nat) : Int) < ((da : Nat) : Int) := by have := hg.2 hin; omega
                have RB8 := HT.out.2.1.below (Below.refl _ _).drew (Nat.le_refl _)
                have q8 := HT.out.2.2.1.drew
                have Y8 := HT.out.2.2.2.drew
                obtain ⟨w8, hw8⟩ : ∃ w8, wr.drew = w8 := ⟨_, rfl⟩
                rw [hw8] at RB8 q8 Y8
                try rw [hw8]
                clear hw8 F2 L2 y2 h1 h2 h1' h2' hg
                rw [HNO.out] at q8
                have al9 := (Below.refl w8.heap.size w8).alloc (Nat.le_refl _) (.cells #[.int .i64 0, .int .i64 (f4 : Nat), .int .u32 ((ts T k4 : Nat) : Int), .int .i64 (st4 : Nat), .int .i64 (ss4 : Nat), .int .u32 (k4 : Nat), .string d4, .int .u32 0, .int .u32 0, .int .i64 0, .int .i64 0, .slice none 0 0, .slice none 0 0, .slice none 0 0, .slice none 0 0] 40)
                have RB9 := RB8.below al9 (Nat.le_refl _)
                have q9 := q8.below al9 (Nat.le_refl _)
                have hlb8 : lb < w8.heap.size := RB8.L.lt
                have hs9 := al9.size
                have srcI := src_item (P := Try.prog) (SL := 26) (sz := 15) Try.underlying26 (Blk.new w8 40 #[.int .i64 0, .int .i64 (f4 : Nat), .int .u32 ((ts T k4 : Nat) : Int), .int .i64 (st4 : Nat), .int .i64 (ss4 : Nat), .int .u32 (k4 : Nat), .string d4, .int .u32 0, .int .u32 0, .int .i64 0, .int .i64 0, .slice none 0 0, .slice none 0 0, .slice none 0 0, .slice none 0 0]) (pkc_one T ⟨k4, f4, st4, ss4, d4⟩) rfl
                obtain ⟨i1, hi1, hz0, hz1, hz2⟩ := info_parts infoK
                obtain ⟨v9, w9, hr9, q10, gr9, ha9⟩ := qo_append (P := Try.prog) (t := 26) (ty := 26) Try.underlying26 hi1 hz0 hz1 hz2 rfl q9 srcI (by unfold maxLen; omega) (by omega) (by omega)
                have b9 : Below (lb + 1) w8 w9 := (al9.mono (by omega)).grown gr9 (by omega) (fun k hk => (q9.lt hk).1)
                have RB10 := RB8.keep b9
                obtain ⟨o9, c9, hv9, _, _⟩ := q10.shape
                subst hv9
                have q11 : Qo w9 (lb + 1) 15 (.slice o9 (rest (M.take (i + 1)) k k2).length c9) (rest (M.take (i + 1)) k k2).length (cellsK T (rest (M.take (i + 1)) k k2)) := by
                  rw [HT.out.1, rest_in (show (⟨k4, f4, st4, ss4, d4⟩ : Pk).k < k ∨ k2 < (⟨k4, f4, st4, ss4, d4⟩ : Pk).k from hin), List.length_append, HNO.out, cellsK_append]
                  simpa [cellsK, pkc] using q10
                have hl9 : (rest (M.take (i + 1)) k k2).length = no + 1 := by
                  rw [HT.out.1, rest_in (show (⟨k4, f4, st4, ss4, d4⟩ : Pk).k < k ∨ k2 < (⟨k4, f4, st4, ss4, d4⟩ : Pk).k from hin), List.length_append, HNO.out]; rfl
                have szB := szI (f4 : Nat) (ts T k4 : Nat) (st4 : Nat) (ss4 : Nat) (k4 : Nat) d4
                have HX9 := Lib.hid (And.intro RB10 (And.intro q11 hl9))
                clear RB8 q8 al9 RB9 q9 srcI hi1 hz0 hz1 hz2 q10 gr9 ha9 b9 RB10 q11 hl9
                go_upto_region 21 with (first | (refine wpList_load_at rfl 40 _ rfl hh (off + i * 15) rfl #[.int .i64 0, .int .i64 (f4 : Nat), .int .u32 ((ts T k4 : Nat) : Int), .int .i64 (st4 : Nat), .int .i64 (ss4 : Nat), .int .u32 (k4 : Nat), .string d4, .int .u32 0, .int .u32 0, .int .i64 0, .int .i64 0, .slice none 0 0, .slice none 0 0, .slice none 0 0, .slice none 0 0] _ Y8 Try.underlying40 rfl szB ?_) | (at_builtin; refine wpList_append_q rfl _ _ _ rfl rfl rfl hr9 ?_))
                clear hr9 Y8
                go_wp2_with fail
                go_roundw
                case rel => exact ⟨i + 1, o9, c9, by go_num, by omega, by rw [HX9.out.2.2], HX9.out.2.1, HX9.out.1⟩
                case measure => simp [intOf]; omega
              · have hlt2 : ¬ ((db : Nat) : Int) < ((da : Nat) : Int) := by have := fun h => hin (hg.1 h); omega
                have RB8 := HT.out.2.1.below (Below.refl _ _).drew (Nat.le_refl _)
                have q8 : Qo wr.drew (lb + 1) 15 (.slice ow (rest (M.take (i + 1)) k k2).length cw) (rest (M.take (i + 1)) k k2).length (cellsK T (rest (M.take (i + 1)) k k2)) := by
                  rw [HT.out.1, rest_out (show ¬ ((⟨k4, f4, st4, ss4, d4⟩ : Pk).k < k ∨ k2 < (⟨k4, f4, st4, ss4, d4⟩ : Pk).k) from hin)]
                  exact HT.out.2.2.1.drew
                have hl9 : (rest (M.take (i + 1)) k k2).length = no := by
                  rw [HT.out.1, rest_out (show ¬ ((⟨k4, f4, st4, ss4, d4⟩ : Pk).k < k ∨ k2 < (⟨k4, f4, st4, ss4, d4⟩ : Pk).k) from hin), HNO.out]
                have HX9 := Lib.hid (And.intro RB8 (And.intro q8 hl9))
                clear RB8 q8 hl9 F2 L2 y2
                go_wp2_with fail
                go_roundw
                case rel => exact ⟨i + 1, ow, cw, by go_num, by omega, by rw [HX9.out.2.2], HX9.out.2.1, HX9.out.1⟩
                case measure => simp [intOf]; omega
            · obtain rfl : i = M.length := by omega
              rw [List.take_length] at qo ⊢
              have g3 : wr.cell? ⟨G, 3, none⟩ = some (.int .i64 (c.st : Nat)) := RB.A.C.cell 3
              have g4 : wr.cell? ⟨G, 4, none⟩ = some (.int .i64 (c.ss : Nat)) := RB.A.C.cell 4
              have g1 : wr.cell? ⟨G, 1, none⟩ = some (.int .i64 (c.f : Nat)) := RB.A.C.cell 1
              have F5 : wr.cell? ⟨fb, 5, none⟩ = some (.int .u32 (k : Nat)) := RB.A.F.cell0 5 rfl
              have hcf : c.f < 8 := h8 c hcM
              have hHG : G + 1 < wr.heap.size := RB.A.R.lt
              have qo0 := qo
              have hlw : lb < wr.heap.size := RB.L.lt
              by_cases hlo : c.f / 4 % 2 = 1
              · have hq4 : (wrap64 (((c.f : Nat) : Int) / 4)).tmod 2 = 1 := by rw [qr4 c.f hcf, hlo]; rfl
                have hq5 : ((c.f : Nat) : Int) / 4 % 2 = 1 := by omega
                have HE0 := Lib.hid (And.intro RB qo)
                clear RB qo
                go_upto_region 25 with fail
                have X4 := Blk.new wr 30 #[.int .i64 (c.st : Nat), .int .i64 ((c.ss : Nat) : Int), .bool true, .int .u32 (k : Nat), .string dt]
                have al4 := (Below.refl wr.heap.size wr).alloc (Nat.le_refl _) (.cells #[.int .i64 (c.st : Nat), .int .i64 ((c.ss : Nat) : Int), .bool true, .int .u32 (k : Nat), .string dt] 30)
                have RB4 := HE0.out.1.below al4 (Nat.le_refl _)
                have q4 := HE0.out.2.below al4 (Nat.le_refl _)
                clear al4 HE0 g3 g4 g1 F5 hq4 hq5
                obtain ⟨w4, hw4⟩ : ∃ w4, wr.alloc (.cells #[.int .i64 (c.st : Nat), .int .i64 ((c.ss : Nat) : Int), .bool true, .int .u32 (k : Nat), .string dt] 30) = w4 := ⟨_, rfl⟩
                rw [hw4] at X4 RB4 q4
                try rw [hw4]
                clear hw4
                obtain ⟨mb, hmb⟩ : ∃ mb, wr.heap.size = mb := ⟨_, rfl⟩
                have qb := fun g (hg : blkOf (.slice ow (rest M k k2).length cw) = some g) => (show g < mb from by rw [← hmb]; exact (qo0.lt hg).2)
                rw [hmb] at X4 hHG hlw
                try rw [hmb]
                have m2 : w4.cell? ⟨mb, 2, none⟩ = some (.bool true) := X4.cell 2
                have m1 : w4.cell? ⟨mb, 1, none⟩ = some (.int .i64 ((c.ss : Nat) : Int)) := X4.cell 1
                have f1 : w4.frozen? ⟨mb, 1, none⟩ = false := X4.frozen 1
                go_upto_region 27 with fail
                have X5 : Cel (w4.setCell ⟨mb, 1, none⟩ (.int .i64 0)) mb 0 #[.int .i64 (c.st : Nat), .int .i64 0, .bool true, .int .u32 (k : Nat), .string dt] := Cel.of_blk (X4.set_ 1 (.int .i64 0))
                have hs : G + 1 < w4.heap.size ∧ lb < mb := ⟨RB4.A.R.lt, by omega⟩
                have hbm : Below (lb + 1) w4 (w4.setCell ⟨mb, 1, none⟩ (.int .i64 0)) := (Below.refl (lb + 1) w4).setCell (p := ⟨mb, 1, none⟩) (show lb + 1 ≤ mb by omega) _
                have RB5 := RB4.keep hbm
                have q5 := q4.far (p := ⟨mb, 1, none⟩) (fun e => by have := (qb mb e); omega) (.int .i64 0)
                have HE := Lib.hid (And.intro RB5 q5)
                clear X4 RB4 q4 RB5 q5 m2 m1 f1 hbm qb
                obtain ⟨w5, hw5⟩ : ∃ w5, w4.setCell ⟨mb, 1, none⟩ (.int .i64 0) = w5 := ⟨_, rfl⟩
                rw [hw5] at X5 HE
                try rw [hw5]
                clear hw5
                have szZ : (Try.prog.info? 30).map (·.size) = some (#[.int .i64 (c.st : Nat), .int .i64 0, .bool true, .int .u32 (k : Nat), .string dt] : Array Value).size := by show _ = some 5; kernel_rfl
                refine wp_region_noPanic ?_
                refine begin_C (fun v => Cel v mb 0 #[.int .i64 (c.st : Nat), .int .i64 0, .bool true, .int .u32 (k : Nat), .string dt]) 4 (by kernel_rfl) ?_
                refine abs_C _ (fun b hb => ?_)
                have hsz : b.tmps.size = 156 := by rw [hb]; rfl
                have e5 : b.eval (.tmp 5) = .pointer (some ⟨G + 1, 0, none⟩) := by rw [hb]; rfl
                have e17 : b.eval (.tmp 17) = .slice ow (rest M k k2).length cw := by rw [hb]; rfl
                have e19 : b.eval (.tmp 19) = .pointer (some ⟨mb, 0, none⟩) := by rw [hb]; rfl
                have HB := Lib.hid hb
                clear hb
                have EV := And.intro @Act.eval_put_ne (And.intro @Act.eval_put_same (And.intro @Act.size_put (And.intro hsz (And.intro e5 (And.intro e17 e19)))))
                have HS := X5.drew
                have RB6 := HE.out.1.below (Below.refl _ _).drew (Nat.le_refl _)
                have q6 := HE.out.2.drew
                have hne : G + 1 ≠ mb := by omega
                refine take_Y (i := 0) (u := .slice ow (rest M k k2).length cw) rfl (by kernel_rfl) (by kernel_rfl) (by kernel_rfl) (by decide) rfl rfl (fun _ _ _ h => h) HS (fun v => run_move rfl (by simp [EV]) v) ?_
                refine take_C (i := 1) [3] (u := .agg #[.int .i64 (c.st : Nat), .int .i64 0, .bool true, .int .u32 (k : Nat), .string dt]) rfl (by kernel_rfl) (by kernel_rfl) (by kernel_rfl) (by kernel_rfl) (by kernel_rfl) (by decide) rfl rfl (fun _ _ _ h => h) HS (fun v hv => run_load_at rfl (h := mb) (off := 0) (by simp [EV]) _ Try.underlying30 rfl szZ hv) ?_
                refine val_C (i := 2) (u := .slice ow (rest M k k2).length cw) (by kernel_rfl) rfl rfl rfl (fun _ => HS) (run_assign rfl (by simp [EV]) _) ?_
                refine store_C (i := 3) (p := .pointer (some ⟨G + 1, 0, none⟩)) (u := .agg #[.int .i64 (c.st : Nat), .int .i64 0, .bool true, .int .u32 (k : Nat), .string dt]) (by kernel_rfl) rfl rfl rfl rfl (by simp [EV]) (by simp [EV]) (fun _ => HS.setCells_far (Ne.symm hne) _ _) (run_store_at 30 (cs := #[.int .i64 (c.st : Nat), .int .i64 0, .bool true, .int .u32 (k : Nat), .string dt]) (Cel.of_blk RB6.A.R) szZ rfl (by kernel_rfl)) ?_
                refine val_C (i := 4) (u := .bool true) (by kernel_rfl) rfl rfl rfl (fun h => absurd rfl h) (run_assign (x := .const (.bool true)) (u := .bool true) rfl rfl _) ?_
                refine done_C (by kernel_rfl) ?_ _
                refine NoPanic.normal ?_
                rw [HB.out]
                simp only [Act.put, List.setIfInBounds_toArray, List.set_cons_zero, List.set_cons_succ]
                have KC := (Cel.of_blk RB6.A.R).setCells_same (#[.int .i64 (c.st : Nat), .int .i64 0, .bool true, .int .u32 (k : Nat), .string dt] : Array Value).toList rfl
                have hE := ra_some HG.out RB6 q6 HX2.out.1 #[.int .i64 (c.st : Nat), .int .i64 0, .bool true, .int .u32 (k : Nat), .string dt] (by
                  obtain ⟨d1, d2, d3, d4, d5, d6⟩ := down_mem c.k hcM HX.out.1
                  have d4' : st = c.st := d4
                  have d5' : ss = c.ss := d5
                  have d6' : f / 4 % 2 = c.f / 4 % 2 := d6
                  unfold mkm
                  rw [← d4', HX2.out.2]
                  simp [d6', hlo])
                go_wp2_with fail
                refine bodyPost_ret (v := .tuple #[.slice ow (rest M k k2).length cw, .agg #[.int .i64 (c.st : Nat), .int .i64 0, .bool true, .int .u32 (k : Nat), .string dt], .bool true]) (by rw [results_tct rfl _ _ (G + 1) 0 #[.int .i64 (c.st : Nat), .int .i64 0, .bool true, .int .u32 (k : Nat), .string dt] _ rfl (KC.congr (by first | rfl | simp)) Try.underlying30 rfl szZ]; rfl) rfl ?_
                exact hE
              · have hq4 : (wrap64 (((c.f : Nat) : Int) / 4)).tmod 2 = 0 := by rw [qr4 c.f hcf, show c.f / 4 % 2 = 0 by omega]; rfl
                have hq5 : ((c.f : Nat) : Int) / 4 % 2 = 0 := by omega
                have HE0 := Lib.hid (And.intro RB qo)
                clear RB qo
                go_upto_region 25 with fail
                have X4 := Blk.new wr 30 #[.int .i64 (c.st : Nat), .int .i64 ((c.ss : Nat) : Int), .bool false, .int .u32 (k : Nat), .string dt]
                have al4 := (Below.refl wr.heap.size wr).alloc (Nat.le_refl _) (.cells #[.int .i64 (c.st : Nat), .int .i64 ((c.ss : Nat) : Int), .bool false, .int .u32 (k : Nat), .string dt] 30)
                have RB4 := HE0.out.1.below al4 (Nat.le_refl _)
                have q4 := HE0.out.2.below al4 (Nat.le_refl _)
                clear al4 HE0 g3 g4 g1 F5 hq4 hq5
                obtain ⟨w4, hw4⟩ : ∃ w4, wr.alloc (.cells #[.int .i64 (c.st : Nat), .int .i64 ((c.ss : Nat) : Int), .bool false, .int .u32 (k : Nat), .string dt] 30) = w4 := ⟨_, rfl⟩
                rw [hw4] at X4 RB4 q4
                try rw [hw4]
                clear hw4
                obtain ⟨mb, hmb⟩ : ∃ mb, wr.heap.size = mb := ⟨_, rfl⟩
                rw [hmb] at X4 hHG
                try rw [hmb]
                have m2 : w4.cell? ⟨mb, 2, none⟩ = some (.bool false) := X4.cell 2
                go_upto_region 27 with fail
                have X5 := Cel.of_blk X4
                have HE := Lib.hid (And.intro RB4 q4)
                clear X4 RB4 q4 m2
                have szZ : (Try.prog.info? 30).map (·.size) = some (#[.int .i64 (c.st : Nat), .int .i64 ((c.ss : Nat) : Int), .bool false, .int .u32 (k : Nat), .string dt] : Array Value).size := by show _ = some 5; kernel_rfl
                refine wp_region_noPanic ?_
                refine begin_C (fun v => Cel v mb 0 #[.int .i64 (c.st : Nat), .int .i64 ((c.ss : Nat) : Int), .bool false, .int .u32 (k : Nat), .string dt]) 4 (by kernel_rfl) ?_
                refine abs_C _ (fun b hb => ?_)
                have hsz : b.tmps.size = 156 := by rw [hb]; rfl
                have e5 : b.eval (.tmp 5) = .pointer (some ⟨G + 1, 0, none⟩) := by rw [hb]; rfl
                have e17 : b.eval (.tmp 17) = .slice ow (rest M k k2).length cw := by rw [hb]; rfl
                have e19 : b.eval (.tmp 19) = .pointer (some ⟨mb, 0, none⟩) := by rw [hb]; rfl
                have HB := Lib.hid hb
                clear hb
                have EV := And.intro @Act.eval_put_ne (And.intro @Act.eval_put_same (And.intro @Act.size_put (And.intro hsz (And.intro e5 (And.intro e17 e19)))))
                have HS := X5.drew
                have RB6 := HE.out.1.below (Below.refl _ _).drew (Nat.le_refl _)
                have q6 := HE.out.2.drew
                have hne : G + 1 ≠ mb := by omega
                refine take_Y (i := 0) (u := .slice ow (rest M k k2).length cw) rfl (by kernel_rfl) (by kernel_rfl) (by kernel_rfl) (by decide) rfl rfl (fun _ _ _ h => h) HS (fun v => run_move rfl (by simp [EV]) v) ?_
                refine take_C (i := 1) [3] (u := .agg #[.int .i64 (c.st : Nat), .int .i64 ((c.ss : Nat) : Int), .bool false, .int .u32 (k : Nat), .string dt]) rfl (by kernel_rfl) (by kernel_rfl) (by kernel_rfl) (by kernel_rfl) (by kernel_rfl) (by decide) rfl rfl (fun _ _ _ h => h) HS (fun v hv => run_load_at rfl (h := mb) (off := 0) (by simp [EV]) _ Try.underlying30 rfl szZ hv) ?_
                refine val_C (i := 2) (u := .slice ow (rest M k k2).length cw) (by kernel_rfl) rfl rfl rfl (fun _ => HS) (run_assign rfl (by simp [EV]) _) ?_
                refine store_C (i := 3) (p := .pointer (some ⟨G + 1, 0, none⟩)) (u := .agg #[.int .i64 (c.st : Nat), .int .i64 ((c.ss : Nat) : Int), .bool false, .int .u32 (k : Nat), .string dt]) (by kernel_rfl) rfl rfl rfl rfl (by simp [EV]) (by simp [EV]) (fun _ => HS.setCells_far (Ne.symm hne) _ _) (run_store_at 30 (cs := #[.int .i64 (c.st : Nat), .int .i64 ((c.ss : Nat) : Int), .bool false, .int .u32 (k : Nat), .string dt]) (Cel.of_blk RB6.A.R) szZ rfl (by kernel_rfl)) ?_
                refine val_C (i := 4) (u := .bool true) (by kernel_rfl) rfl rfl rfl (fun h => absurd rfl h) (run_assign (x := .const (.bool true)) (u := .bool true) rfl rfl _) ?_
                refine done_C (by kernel_rfl) ?_ _
                refine NoPanic.normal ?_
                rw [HB.out]
                simp only [Act.put, List.setIfInBounds_toArray, List.set_cons_zero, List.set_cons_succ]
                have KC := (Cel.of_blk RB6.A.R).setCells_same (#[.int .i64 (c.st : Nat), .int .i64 ((c.ss : Nat) : Int), .bool false, .int .u32 (k : Nat), .string dt] : Array Value).toList rfl
                have hE := ra_some HG.out RB6 q6 HX2.out.1 #[.int .i64 (c.st : Nat), .int .i64 ((c.ss : Nat) : Int), .bool false, .int .u32 (k : Nat), .string dt] (by
                  obtain ⟨d1, d2, d3, d4, d5, d6⟩ := down_mem c.k hcM HX.out.1
                  have d4' : st = c.st := d4
                  have d5' : ss = c.ss := d5
                  have d6' : f / 4 % 2 = c.f / 4 % 2 := d6
                  unfold mkm
                  rw [← d4', HX2.out.2]
                  simp [d6', hlo, d5'])
                go_wp2_with fail
                refine bodyPost_ret (v := .tuple #[.slice ow (rest M k k2).length cw, .agg #[.int .i64 (c.st : Nat), .int .i64 ((c.ss : Nat) : Int), .bool false, .int .u32 (k : Nat), .string dt], .bool true]) (by rw [results_tct rfl _ _ (G + 1) 0 #[.int .i64 (c.st : Nat), .int .i64 ((c.ss : Nat) : Int), .bool false, .int .u32 (k : Nat), .string dt] _ rfl (KC.congr (by first | rfl | simp)) Try.underlying30 rfl szZ]; rfl) rfl ?_
                exact hE
        · have hq : (((f2 : Nat) : Int)).tmod 2 = 0 := by have := rem2 f2 hf8'; rw [show f2 % 2 = 0 by omega] at this; exact this
          have hwr : (((ts T k2 : Nat) : Int) + 1) % 4294967296 = ((ts T (k2 + 1) : Nat) : Int) := by
            unfold ts
            omega
          obtain ⟨nt, hnt⟩ : ∃ nt, ts T (k2 + 1) = nt := ⟨_, rfl⟩
          have hat := fun (W : World) (hW : Below wr.heap.size wr W) => at_any (T := T) (RB.A.below hW (Nat.le_refl _)).q (by omega) h64 (by omega) (k2 + 1) (by omega)
          rw [hnt] at hat hwr
          have hwr' : IntKind.u32.wrap (((ts T k2 : Nat) : Int) + 1) = ((nt : Nat) : Int) := hwr
          have HN := Lib.hid (And.intro hy (And.intro hkk (And.intro hup (And.intro hall2 HPT.out))))
          clear hnt hy hkk hup hall2 HPT
          go_upto_region 14 with fail
          go_wp2_with fail
          refine (hat wr (Below.refl _ _)).mono ?_
          rintro e w3 ⟨he, hb3⟩
          have RB3 := RB.below hb3 (Nat.le_refl _)
          clear RB hb3 hat l1 l2
          rcases hp : pat M (k2 + 1) with _ | ⟨k3, f3, st3, ss3, d3⟩
          · have hnone : whole M c = none := by
              rw [whole_up hU h64 hcM HX.out.1, ← HN.out.2.2.1, up_none (c := ⟨k2, f2, st2, ss2, d2⟩) hb2 (by rw [nxt_is rfl, hp])]
            rw [hp] at he
            have he' : e = .returned (.tuple #[.agg #[.int .i64 0, .int .i64 0, .int .u32 0, .int .i64 0, .int .i64 0, .int .u32 0, .string ⟨#[]⟩, .int .u32 0, .int .u32 0, .int .i64 0, .int .i64 0, .slice none 0 0, .slice none 0 0, .slice none 0 0, .slice none 0 0], .bool false]) := he
            subst he'
            have RA4 := RB3.A.below ((Below.refl w3.heap.size w3).alloc (Nat.le_refl _) (.cells #[.int .i64 0, .int .i64 0, .int .u32 0, .int .i64 0, .int .i64 0, .int .u32 0, .string ⟨#[]⟩, .int .u32 0, .int .u32 0, .int .i64 0, .int .i64 0, .slice none 0 0, .slice none 0 0, .slice none 0 0, .slice none 0 0] 40)) (Nat.le_refl _)
            clear hp he RB3
            have HX2 := Lib.hid (And.intro RA4 hnone)
            have szZ : (Try.prog.info? 30).map (·.size) = some (#[.int .i64 0, .int .i64 0, .bool false, .int .u32 0, .string ⟨#[]⟩] : Array Value).size := by show _ = some 5; kernel_rfl
            have CR := Cel.of_blk HX2.out.1.R
            clear RA4 hnone
            go_wp2_with (refine wpList_store_at rfl 30 _ _ rfl (G + 1) 0 #[.int .i64 0, .int .i64 0, .bool false, .int .u32 0, .string ⟨#[]⟩] rfl rfl #[.int .i64 0, .int .i64 0, .bool false, .int .u32 0, .string ⟨#[]⟩] CR szZ rfl (by kernel_rfl) ?_)
            have KC := CR.setCells_same (#[.int .i64 0, .int .i64 0, .bool false, .int .u32 0, .string ⟨#[]⟩] : Array Value).toList rfl
            have hE := ra_none HG.out HX2.out.1 HX2.out.2
            refine bodyPost_ret (v := .tuple #[.slice oa M.length cp, .agg #[.int .i64 0, .int .i64 0, .bool false, .int .u32 0, .string ⟨#[]⟩], .bool false]) (by rw [results_tct rfl _ _ (G + 1) 0 #[.int .i64 0, .int .i64 0, .bool false, .int .u32 0, .string ⟨#[]⟩] _ rfl (KC.congr (by first | rfl | simp)) Try.underlying30 rfl szZ]; rfl) rfl ?_
            exact hE
          · obtain ⟨hy3, hyk⟩ := pat_some hp
            have hk3 : k3 = k2 + 1 := hyk
            have hy64 : k3 < 64 := h64 _ hy3
            have hy8 : f3 < 8 := h8 _ hy3
            have hd6 : d3.size ≤ 6 := h6 _ hy3
            rw [hp] at he
            have he' : e = .returned (.tuple #[.agg #[.int .i64 0, .int .i64 (f3 : Nat), .int .u32 ((ts T k3 : Nat) : Int), .int .i64 (st3 : Nat), .int .i64 (ss3 : Nat), .int .u32 (k3 : Nat), .string d3, .int .u32 0, .int .u32 0, .int .i64 0, .int .i64 0, .slice none 0 0, .slice none 0 0, .slice none 0 0, .slice none 0 0], .bool true]) := he
            subst he'
            have HY := Lib.hid (And.intro hk3 (And.intro hp hy3))
            clear hp he hyk hk3 hy3
            go_upto_region 15 with fail
            have Y4 := Cel.of_blk (Blk.new w3 40 (cki (f3 : Nat) (ts T k3 : Nat) (st3 : Nat) (ss3 : Nat) (k3 : Nat) d3))
            have al4 := (Below.refl w3.heap.size w3).alloc (Nat.le_refl _) (.cells (cki (f3 : Nat) (ts T k3 : Nat) (st3 : Nat) (ss3 : Nat) (k3 : Nat) d3) 40)
            have RB4 := RB3.below al4 (Nat.le_refl _)
            have hfz : lb < w3.heap.size := RB3.L.lt
            obtain ⟨w4, hw4⟩ : ∃ w4, w3.alloc (.cells (cki (f3 : Nat) (ts T k3 : Nat) (st3 : Nat) (ss3 : Nat) (k3 : Nat) d3) 40) = w4 := ⟨_, rfl⟩
            rw [hw4] at Y4 RB4
            have hw4' : w3.alloc (.cells #[.int .i64 0, .int .i64 (f3 : Nat), .int .u32 ((ts T k3 : Nat) : Int), .int .i64 (st3 : Nat), .int .i64 (ss3 : Nat), .int .u32 (k3 : Nat), .string d3, .int .u32 0, .int .u32 0, .int .i64 0, .int .i64 0, .slice none 0 0, .slice none 0 0, .slice none 0 0, .slice none 0 0] 40) = w4 := hw4
            try rw [hw4']
            clear hw4 hw4' al4 RB3
            obtain ⟨z, hz⟩ : ∃ z, w3.heap.size = z := ⟨_, rfl⟩
            rw [hz] at Y4 hfz
            try rw [hz]
            clear hz
            have y1 : w4.cell? ⟨z, 1, none⟩ = some (.int .i64 (f3 : Nat)) := Y4.cell0 1 rfl
            by_cases hfl : f3 / 2 % 2 = 1
            · have hq2 : (wrap64 (((f3 : Nat) : Int) / 2)).tmod 2 = 1 := by rw [qr2 f3 hy8, hfl]; rfl
              have hq3 : ((f3 : Nat) : Int) / 2 % 2 = 1 := by omega
              have hnone : whole M c = none := by
                rw [whole_up hU h64 hcM HX.out.1, ← HN.out.2.2.1, up_none (c := ⟨k2, f2, st2, ss2, d2⟩) hb2 (by rw [nxt_is rfl, HY.out.2.1]; simp [hfl])]
              have RA4 := RB4.A
              clear Y4 RB4
              have HX2 := Lib.hid (And.intro RA4 hnone)
              have szZ : (Try.prog.info? 30).map (·.size) = some (#[.int .i64 0, .int .i64 0, .bool false, .int .u32 0, .string ⟨#[]⟩] : Array Value).size := by show _ = some 5; kernel_rfl
              have CR := Cel.of_blk HX2.out.1.R
              clear RA4 hnone
              go_wp2_with (refine wpList_store_at rfl 30 _ _ rfl (G + 1) 0 #[.int .i64 0, .int .i64 0, .bool false, .int .u32 0, .string ⟨#[]⟩] rfl rfl #[.int .i64 0, .int .i64 0, .bool false, .int .u32 0, .string ⟨#[]⟩] CR szZ rfl (by kernel_rfl) ?_)
              have KC := CR.setCells_same (#[.int .i64 0, .int .i64 0, .bool false, .int .u32 0, .string ⟨#[]⟩] : Array Value).toList rfl
              have hE := ra_none HG.out HX2.out.1 HX2.out.2
              refine bodyPost_ret (v := .tuple #[.slice oa M.length cp, .agg #[.int .i64 0, .int .i64 0, .bool false, .int .u32 0, .string ⟨#[]⟩], .bool false]) (by rw [results_tct rfl _ _ (G + 1) 0 #[.int .i64 0, .int .i64 0, .bool false, .int .u32 0, .string ⟨#[]⟩] _ rfl (KC.congr (by first | rfl | simp)) Try.underlying30 rfl szZ]; rfl) rfl ?_
              exact hE
            · have hq2 : (wrap64 (((f3 : Nat) : Int) / 2)).tmod 2 = 0 := by rw [qr2 f3 hy8, show f3 / 2 % 2 = 0 by omega]; rfl
              have hq3 : ((f3 : Nat) : Int) / 2 % 2 = 0 := by omega
              have szA := szI (f2 : Nat) (ts T k2 : Nat) (st2 : Nat) (ss2 : Nat) (k2 : Nat) d2
              have szB := szI (f3 : Nat) (ts T k3 : Nat) (st3 : Nat) (ss3 : Nat) (k3 : Nat) d3
              have X4 : Cel w4 lb 0 (cki (f2 : Nat) (ts T k2 : Nat) (st2 : Nat) (ss2 : Nat) (k2 : Nat) d2) := RB4.L
              go_wp2_with (first | (refine wpList_load_at_g (by rfl) 40 _ rfl z 0 rfl (cki (f3 : Nat) (ts T k3 : Nat) (st3 : Nat) (ss3 : Nat) (k3 : Nat) d3) _ Y4 Try.underlying40 rfl szB ?_) | (refine wpList_load_at_g (by rfl) 40 _ rfl lb 0 rfl (cki (f2 : Nat) (ts T k2 : Nat) (st2 : Nat) (ss2 : Nat) (k2 : Nat) d2) _ X4 Try.underlying40 rfl szA ?_))
              refine (ralike T ⟨k3, f3, st3, ss3, d3⟩ ⟨k2, f2, st2, ss2, d2⟩ hy8 hf8' w4).mono ?_
              rintro e w5 ⟨he, hb5⟩
              have Y5 := Y4.below hb5 Y4.lt
              have RB5 := RB4.below hb5 (Nat.le_refl _)
              clear Y4 X4 RB4 hb5 y1
              rcases hA : alike ⟨k3, f3, st3, ss3, d3⟩ ⟨k2, f2, st2, ss2, d2⟩ with _ | _
              · have hnone : whole M c = none := by
                  rw [whole_up hU h64 hcM HX.out.1, ← HN.out.2.2.1, up_none (c := ⟨k2, f2, st2, ss2, d2⟩) hb2 (by rw [nxt_is rfl, HY.out.2.1]; simp [hA])]
                rw [hA] at he
                subst he
                have RA5 := RB5.A
                clear Y5 hA szA szB RB5
                have HX2 := Lib.hid (And.intro RA5 hnone)
                have szZ : (Try.prog.info? 30).map (·.size) = some (#[.int .i64 0, .int .i64 0, .bool false, .int .u32 0, .string ⟨#[]⟩] : Array Value).size := by show _ = some 5; kernel_rfl
                have CR := Cel.of_blk HX2.out.1.R
                clear RA5 hnone
                go_wp2_with (refine wpList_store_at rfl 30 _ _ rfl (G + 1) 0 #[.int .i64 0, .int .i64 0, .bool false, .int .u32 0, .string ⟨#[]⟩] rfl rfl #[.int .i64 0, .int .i64 0, .bool false, .int .u32 0, .string ⟨#[]⟩] CR szZ rfl (by kernel_rfl) ?_)
                have KC := CR.setCells_same (#[.int .i64 0, .int .i64 0, .bool false, .int .u32 0, .string ⟨#[]⟩] : Array Value).toList rfl
                have hE := ra_none HG.out HX2.out.1 HX2.out.2
                refine bodyPost_ret (v := .tuple #[.slice oa M.length cp, .agg #[.int .i64 0, .int .i64 0, .bool false, .int .u32 0, .string ⟨#[]⟩], .bool false]) (by rw [results_tct rfl _ _ (G + 1) 0 #[.int .i64 0, .int .i64 0, .bool false, .int .u32 0, .string ⟨#[]⟩] _ rfl (KC.congr (by first | rfl | simp)) Try.underlying30 rfl szZ]; rfl) rfl ?_
                exact hE
              · have hnx : nxt M ⟨k2, f2, st2, ss2, d2⟩ = some ⟨k3, f3, st3, ss3, d3⟩ := by
                  rw [nxt_is rfl, HY.out.2.1]
                  simp [hfl, hA]
                have hd2 := up_step hb2 hnx hy64
                rw [hA] at he
                subst he
                have X5 : Cel w5 lb 0 (cki (f2 : Nat) (ts T k2 : Nat) (st2 : Nat) (ss2 : Nat) (k2 : Nat) d2) := RB5.L
                have hcat := cat_more hU HY.out.2.2 (a := k) (by show k ≤ k3; have := HY.out.1; omega)
                have HD := Lib.hid (And.intro hnx (And.intro hd2 hcat))
                clear hnx hd2 hA hcat
                go_upto_region 17 with fail
                refine wp_region_noPanic ?_
                refine begin_C (fun v => Cel v z 0 (cki (f3 : Nat) (ts T k3 : Nat) (st3 : Nat) (ss3 : Nat) (k3 : Nat) d3)) 6 (by kernel_rfl) ?_
                refine abs_C _ (fun b hb => ?_)
                have hsz : b.tmps.size = 156 := by rw [hb]; rfl
                have e12 : b.eval (.tmp 12) = .pointer (some ⟨lb, 0, none⟩) := by rw [hb]; rfl
                have e13 : b.eval (.tmp 13) = .string dt := by rw [hb]; rfl
                have e15 : b.eval (.tmp 15) = .pointer (some ⟨z, 0, none⟩) := by rw [hb]; rfl
                have HB := Lib.hid hb
                clear hb
                have EV := And.intro @Act.eval_put_ne (And.intro @Act.eval_put_same (And.intro @Act.size_put (And.intro hsz (And.intro e12 (And.intro e13 e15)))))
                have HS := Y5.drew
                have hss : dt.size + d3.size ≤ 9223372036854775807 := by omega
                refine take_C (i := 0) [5] (u := .agg (cki (f3 : Nat) (ts T k3 : Nat) (st3 : Nat) (ss3 : Nat) (k3 : Nat) d3)) rfl (by kernel_rfl) (by kernel_rfl) (by kernel_rfl) (by kernel_rfl) (by kernel_rfl) (by decide) rfl rfl (fun _ _ _ h => h) HS (fun v hv => run_load_at rfl (h := z) (off := 0) (by simp [EV]) _ Try.underlying40 rfl szB hv) ?_
                refine take_Y (i := 1) (u := .string dt) rfl (by kernel_rfl) (by kernel_rfl) (by kernel_rfl) (by decide) rfl rfl (fun _ _ _ h => h) HS (fun v => run_move rfl (by simp [EV]) v) ?_
                refine take_Y (i := 2) (u := .pointer (some ⟨z, 6, none⟩)) rfl (by kernel_rfl) (by kernel_rfl) (by kernel_rfl) (by decide) rfl rfl (fun _ _ _ h => h) HS (fun v => run_field (s := .pointer (some ⟨z, 0, none⟩)) rfl (by simp [EV]) (by kernel_rfl)) ?_
                refine take_C (i := 3) [4] (u := .string d3) rfl (by kernel_rfl) (by kernel_rfl) (by kernel_rfl) (by kernel_rfl) (by kernel_rfl) (by decide) rfl rfl (fun _ _ _ h => h) HS (fun v hv => run_load1 (s := .pointer (some ⟨z, 6, none⟩)) rfl (by simp [EV]) (by have c := hv.cell0 6 (u := .string d3) rfl; go_simp)) ?_
                refine take_Y (i := 4) (u := .string (dt ++ d3)) rfl (by kernel_rfl) (by kernel_rfl) (by kernel_rfl) (by decide) rfl rfl (fun _ _ _ h => h) HS (fun v => run_add (s := .string dt) (j := .string d3) rfl (by simp [EV]) (by simp [EV]) (by go_simp; try omega)) ?_
                refine store_C (i := 5) (p := .pointer (some ⟨lb, 0, none⟩)) (u := .agg (cki (f3 : Nat) (ts T k3 : Nat) (st3 : Nat) (ss3 : Nat) (k3 : Nat) d3)) (w' := w5.drew.setCells lb 0 (cki (f3 : Nat) (ts T k3 : Nat) (st3 : Nat) (ss3 : Nat) (k3 : Nat) d3).toList) (by kernel_rfl) rfl rfl rfl rfl (by simp [EV]) (by simp [EV]) (fun _ => HS.setCells_far (by omega) _ _) (run_store_at 40 (cs := (cki (f3 : Nat) (ts T k3 : Nat) (st3 : Nat) (ss3 : Nat) (k3 : Nat) d3)) X5.drew szB rfl (oneI _ _ _ _ _ _)) ?_
                refine val_C (i := 6) (u := .string (dt ++ d3)) (by kernel_rfl) rfl rfl rfl (fun h => absurd rfl h) (run_assign rfl (by simp [EV]) _) ?_
                refine done_C (by kernel_rfl) ?_ _
                refine NoPanic.normal ?_
                rw [HB.out]
                simp only [Act.put, List.setIfInBounds_toArray, List.set_cons_zero, List.set_cons_succ]
                have RB6 : Rb G T M (.slice oa M.length cp) c fb ⟨k, f, st, ss, d⟩ lb ⟨k3, f3, st3, ss3, d3⟩ w (w5.drew.setCells lb 0 (cki (f3 : Nat) (ts T k3 : Nat) (st3 : Nat) (ss3 : Nat) (k3 : Nat) d3).toList) := (RB5.below (Below.refl _ _).drew (Nat.le_refl _)).setL ⟨k3, f3, st3, ss3, d3⟩
                clear HB HS EV e12 e13 e15 hsz Y5 X5 RB5 szA szB hss
                obtain ⟨w6, hw6⟩ : ∃ w6, w5.drew.setCells lb 0 (cki (f3 : Nat) (ts T k3 : Nat) (st3 : Nat) (ss3 : Nat) (k3 : Nat) d3).toList = w6 := ⟨_, rfl⟩
                rw [hw6] at RB6 ⊢
                have HR' := Lib.hid RB6
                clear hw6 RB6
                go_wp2_with fail
                go_roundw
                case rel =>
                  have h3 := HY.out.1
                  have h6 := HN9.out.1
                  refine ⟨_, HY.out.2.2, ?_, ?_, by show k ≤ k3; omega, HD.out.2.1.symm.trans HN.out.2.2.1, fun j hj1 hj2 => ?_, HR'.out⟩
                  · have h7 := HD.out.2.2
                    have h8 : k3 - k = k2 + 1 - k := by omega
                    show _ = Value.string (cat M k (k3 + 1 - k))
                    have h9 : cat M k (k3 + 1 - k) = cat M k (k3 - k) ++ d3 := h7
                    rw [h9, h8, HN9.out.2]
                  · show _ = Value.int .i64 ((k3 - k : Nat) : Int)
                    rw [show k3 - k = n9 + 1 by omega]
                    go_num
                  · have hj2' : j ≤ k3 := hj2
                    by_cases e : j = k3
                    · exact ⟨_, HY.out.2.2, e.symm⟩
                    · exact HN.out.2.2.2.1 j hj1 (by show j ≤ k2; omega)
                case measure =>
                  have h1 := ptOf_eq HR'.out.L
                  have h2 := HN.out.2.2.2.2
                  have h3 := HY.out.1
                  simp only at h1 h2
                  rw [h1, h2]
                  omega
    · have hq : (wrap64 (((f : Nat) : Int) / 2)).tmod 2 = 0 := by rw [qr2 f hf8, show f / 2 % 2 = 0 by omega]; rfl
      obtain ⟨kn, hkn⟩ : ∃ kn, (if k = 0 then 4294967295 else k - 1) = kn := ⟨_, rfl⟩
      obtain ⟨nt, hnt⟩ : ∃ nt, ts T kn = nt := ⟨_, rfl⟩
      have hkl : kn < 4294967296 := by rw [← hkn]; first | omega | (split <;> omega)
      have hwr : (((ts T k : Nat) : Int) - 1) % 4294967296 = ((nt : Nat) : Int) := by
        rw [← hnt, ← hkn]
        unfold ts
        first | omega | (split <;> omega)
      have hwr' : IntKind.u32.wrap (((ts T k : Nat) : Int) - 1) = ((nt : Nat) : Int) := hwr
      have hat := fun (W : World) (hW : Below wr.heap.size wr W) => at_any (T := T) (RA.below hW (Nat.le_refl _)).q (by omega) h64 (by omega) kn hkl
      rw [hnt] at hat
      have HN := Lib.hid (And.intro hkn (And.intro hx (And.intro hkc (And.intro hd (And.intro hall HPT.out)))))
      clear hkn hnt hx hkc hd hall HPT
      go_upto_region 6 with fail
      go_wp2_with fail
      refine (hat wr (Below.refl _ _)).mono ?_
      rintro e w3 ⟨he, hb3⟩
      have RA3 := RA.below hb3 (Nat.le_refl _)
      clear RA hb3 hat c1 c2
      rcases hp : pat M kn with _ | ⟨k2, f2, st2, ss2, d2⟩
      · have hnone : whole M c = none := whole_down (HN.out.2.2.2.1.symm.trans (down_none hb (by rw [prv_is (x := ⟨k, f, st, ss, d⟩) HN.out.1 h64, hp])))
        rw [hp] at he
        have he' : e = .returned (.tuple #[.agg #[.int .i64 0, .int .i64 0, .int .u32 0, .int .i64 0, .int .i64 0, .int .u32 0, .string ⟨#[]⟩, .int .u32 0, .int .u32 0, .int .i64 0, .int .i64 0, .slice none 0 0, .slice none 0 0, .slice none 0 0, .slice none 0 0], .bool false]) := he
        subst he'
        have RA4 := RA3.below ((Below.refl w3.heap.size w3).alloc (Nat.le_refl _) (.cells #[.int .i64 0, .int .i64 0, .int .u32 0, .int .i64 0, .int .i64 0, .int .u32 0, .string ⟨#[]⟩, .int .u32 0, .int .u32 0, .int .i64 0, .int .i64 0, .slice none 0 0, .slice none 0 0, .slice none 0 0, .slice none 0 0] 40)) (Nat.le_refl _)
        clear hp he RA3
        have HX := Lib.hid (And.intro RA4 hnone)
        have szZ : (Try.prog.info? 30).map (·.size) = some (#[.int .i64 0, .int .i64 0, .bool false, .int .u32 0, .string ⟨#[]⟩] : Array Value).size := by show _ = some 5; kernel_rfl
        have CR := Cel.of_blk HX.out.1.R
        clear RA4 hnone
        go_wp2_with (refine wpList_store_at rfl 30 _ _ rfl (G + 1) 0 #[.int .i64 0, .int .i64 0, .bool false, .int .u32 0, .string ⟨#[]⟩] rfl rfl #[.int .i64 0, .int .i64 0, .bool false, .int .u32 0, .string ⟨#[]⟩] CR szZ rfl (by kernel_rfl) ?_)
        have KC := CR.setCells_same (#[.int .i64 0, .int .i64 0, .bool false, .int .u32 0, .string ⟨#[]⟩] : Array Value).toList rfl
        have hE := ra_none HG.out HX.out.1 HX.out.2
        refine bodyPost_ret (v := .tuple #[.slice oa M.length cp, .agg #[.int .i64 0, .int .i64 0, .bool false, .int .u32 0, .string ⟨#[]⟩], .bool false]) (by rw [results_tct rfl _ _ (G + 1) 0 #[.int .i64 0, .int .i64 0, .bool false, .int .u32 0, .string ⟨#[]⟩] _ rfl (KC.congr (by first | rfl | simp)) Try.underlying30 rfl szZ]; rfl) rfl ?_
        exact hE
      · obtain ⟨hy, hyk⟩ := pat_some hp
        have hk2 : k2 = kn := hyk
        have hy64 : k2 < 64 := h64 _ hy
        have hy8 : f2 < 8 := h8 _ hy
        rw [hp] at he
        have he' : e = .returned (.tuple #[.agg #[.int .i64 0, .int .i64 (f2 : Nat), .int .u32 ((ts T k2 : Nat) : Int), .int .i64 (st2 : Nat), .int .i64 (ss2 : Nat), .int .u32 (k2 : Nat), .string d2, .int .u32 0, .int .u32 0, .int .i64 0, .int .i64 0, .slice none 0 0, .slice none 0 0, .slice none 0 0, .slice none 0 0], .bool true]) := he
        subst he'
        have HY := Lib.hid (And.intro hk2 (And.intro hp hy))
        clear hp he hyk hk2 hy
        go_upto_region 7 with fail
        have Y4 := Cel.of_blk (Blk.new w3 40 (cki (f2 : Nat) (ts T k2 : Nat) (st2 : Nat) (ss2 : Nat) (k2 : Nat) d2))
        have al4 := (Below.refl w3.heap.size w3).alloc (Nat.le_refl _) (.cells (cki (f2 : Nat) (ts T k2 : Nat) (st2 : Nat) (ss2 : Nat) (k2 : Nat) d2) 40)
        have RA4 := RA3.below al4 (Nat.le_refl _)
        have hfz : fb < w3.heap.size := RA3.F.lt
        obtain ⟨w4, hw4⟩ : ∃ w4, w3.alloc (.cells (cki (f2 : Nat) (ts T k2 : Nat) (st2 : Nat) (ss2 : Nat) (k2 : Nat) d2) 40) = w4 := ⟨_, rfl⟩
        rw [hw4] at Y4 RA4
        have hw4' : w3.alloc (.cells #[.int .i64 0, .int .i64 (f2 : Nat), .int .u32 ((ts T k2 : Nat) : Int), .int .i64 (st2 : Nat), .int .i64 (ss2 : Nat), .int .u32 (k2 : Nat), .string d2, .int .u32 0, .int .u32 0, .int .i64 0, .int .i64 0, .slice none 0 0, .slice none 0 0, .slice none 0 0, .slice none 0 0] 40) = w4 := hw4
        try rw [hw4']
        clear hw4 hw4' al4 RA3
        obtain ⟨z, hz⟩ : ∃ z, w3.heap.size = z := ⟨_, rfl⟩
        rw [hz] at Y4 hfz
        try rw [hz]
        clear hz
        have y1 : w4.cell? ⟨z, 1, none⟩ = some (.int .i64 (f2 : Nat)) := Y4.cell0 1 rfl
        by_cases hfl : f2 % 2 = 1
        · have hq2 : (((f2 : Nat) : Int)).tmod 2 = 1 := by have := rem2 f2 hy8; rw [hfl] at this; exact this
          have hnone : whole M c = none := whole_down (HN.out.2.2.2.1.symm.trans (down_none hb (by rw [prv_is (x := ⟨k, f, st, ss, d⟩) HN.out.1 h64, HY.out.2.1]; simp [hfl])))
          clear Y4
          have HX := Lib.hid (And.intro RA4 hnone)
          have szZ : (Try.prog.info? 30).map (·.size) = some (#[.int .i64 0, .int .i64 0, .bool false, .int .u32 0, .string ⟨#[]⟩] : Array Value).size := by show _ = some 5; kernel_rfl
          have CR := Cel.of_blk HX.out.1.R
          clear RA4 hnone
          go_wp2_with (refine wpList_store_at rfl 30 _ _ rfl (G + 1) 0 #[.int .i64 0, .int .i64 0, .bool false, .int .u32 0, .string ⟨#[]⟩] rfl rfl #[.int .i64 0, .int .i64 0, .bool false, .int .u32 0, .string ⟨#[]⟩] CR szZ rfl (by kernel_rfl) ?_)
          have KC := CR.setCells_same (#[.int .i64 0, .int .i64 0, .bool false, .int .u32 0, .string ⟨#[]⟩] : Array Value).toList rfl
          have hE := ra_none HG.out HX.out.1 HX.out.2
          refine bodyPost_ret (v := .tuple #[.slice oa M.length cp, .agg #[.int .i64 0, .int .i64 0, .bool false, .int .u32 0, .string ⟨#[]⟩], .bool false]) (by rw [results_tct rfl _ _ (G + 1) 0 #[.int .i64 0, .int .i64 0, .bool false, .int .u32 0, .string ⟨#[]⟩] _ rfl (KC.congr (by first | rfl | simp)) Try.underlying30 rfl szZ]; rfl) rfl ?_
          exact hE
        · have hq2 : (((f2 : Nat) : Int)).tmod 2 = 0 := by have := rem2 f2 hy8; rw [show f2 % 2 = 0 by omega] at this; exact this
          have szA := szI (f : Nat) (ts T k : Nat) (st : Nat) (ss : Nat) (k : Nat) d
          have szB := szI (f2 : Nat) (ts T k2 : Nat) (st2 : Nat) (ss2 : Nat) (k2 : Nat) d2
          have X4 : Cel w4 fb 0 (cki (f : Nat) (ts T k : Nat) (st : Nat) (ss : Nat) (k : Nat) d) := RA4.F
          go_wp2_with (first | (refine wpList_load_at_g (by rfl) 40 _ rfl z 0 rfl (cki (f2 : Nat) (ts T k2 : Nat) (st2 : Nat) (ss2 : Nat) (k2 : Nat) d2) _ Y4 Try.underlying40 rfl szB ?_) | (refine wpList_load_at_g (by rfl) 40 _ rfl fb 0 rfl (cki (f : Nat) (ts T k : Nat) (st : Nat) (ss : Nat) (k : Nat) d) _ X4 Try.underlying40 rfl szA ?_))
          refine (ralike T ⟨k2, f2, st2, ss2, d2⟩ ⟨k, f, st, ss, d⟩ hy8 hf8 w4).mono ?_
          rintro e w5 ⟨he, hb5⟩
          have Y5 := Y4.below hb5 Y4.lt
          have RA5 := RA4.below hb5 (Nat.le_refl _)
          clear Y4 X4 RA4 hb5 y1
          rcases hA : alike ⟨k2, f2, st2, ss2, d2⟩ ⟨k, f, st, ss, d⟩ with _ | _
          · have hnone : whole M c = none := whole_down (HN.out.2.2.2.1.symm.trans (down_none hb (by rw [prv_is (x := ⟨k, f, st, ss, d⟩) HN.out.1 h64, HY.out.2.1]; simp [hA])))
            rw [hA] at he
            subst he
            clear Y5 hA szA szB
            have HX := Lib.hid (And.intro RA5 hnone)
            have szZ : (Try.prog.info? 30).map (·.size) = some (#[.int .i64 0, .int .i64 0, .bool false, .int .u32 0, .string ⟨#[]⟩] : Array Value).size := by show _ = some 5; kernel_rfl
            have CR := Cel.of_blk HX.out.1.R
            clear RA5 hnone
            go_wp2_with (refine wpList_store_at rfl 30 _ _ rfl (G + 1) 0 #[.int .i64 0, .int .i64 0, .bool false, .int .u32 0, .string ⟨#[]⟩] rfl rfl #[.int .i64 0, .int .i64 0, .bool false, .int .u32 0, .string ⟨#[]⟩] CR szZ rfl (by kernel_rfl) ?_)
            have KC := CR.setCells_same (#[.int .i64 0, .int .i64 0, .bool false, .int .u32 0, .string ⟨#[]⟩] : Array Value).toList rfl
            have hE := ra_none HG.out HX.out.1 HX.out.2
            refine bodyPost_ret (v := .tuple #[.slice oa M.length cp, .agg #[.int .i64 0, .int .i64 0, .bool false, .int .u32 0, .string ⟨#[]⟩], .bool false]) (by rw [results_tct rfl _ _ (G + 1) 0 #[.int .i64 0, .int .i64 0, .bool false, .int .u32 0, .string ⟨#[]⟩] _ rfl (KC.congr (by first | rfl | simp)) Try.underlying30 rfl szZ]; rfl) rfl ?_
            exact hE
          · have hnx : prv M ⟨k, f, st, ss, d⟩ = some ⟨k2, f2, st2, ss2, d2⟩ := by
              rw [prv_is (x := ⟨k, f, st, ss, d⟩) HN.out.1 h64, HY.out.2.1]
              simp [hfl, hA]
            have hd2 := down_step hb hnx
            rw [hA] at he
            subst he
            have X5 : Cel w5 fb 0 (cki (f : Nat) (ts T k : Nat) (st : Nat) (ss : Nat) (k : Nat) d) := RA5.F
            have HD := Lib.hid (And.intro hnx hd2)
            clear hnx hd2 hA
            go_upto_region 9 with fail
            go_upto_region 5 with (first | (refine wpList_load_at rfl 40 _ rfl z 0 rfl (cki (f2 : Nat) (ts T k2 : Nat) (st2 : Nat) (ss2 : Nat) (k2 : Nat) d2) _ Y5 Try.underlying40 rfl szB ?_) | (refine wpList_store_at rfl 40 _ _ rfl fb 0 (cki (f2 : Nat) (ts T k2 : Nat) (st2 : Nat) (ss2 : Nat) (k2 : Nat) d2) rfl rfl (cki (f : Nat) (ts T k : Nat) (st : Nat) (ss : Nat) (k : Nat) d) X5 szB rfl (oneI _ _ _ _ _ _) ?_))
            have RA6 : Ra G T M (.slice oa M.length cp) c fb ⟨k2, f2, st2, ss2, d2⟩ w (w5.setCells fb 0 (cki (f2 : Nat) (ts T k2 : Nat) (st2 : Nat) (ss2 : Nat) (k2 : Nat) d2).toList) := RA5.setF ⟨k2, f2, st2, ss2, d2⟩
            clear Y5 X5 RA5 szA szB
            obtain ⟨w6, hw6⟩ : ∃ w6, w5.setCells fb 0 (cki (f2 : Nat) (ts T k2 : Nat) (st2 : Nat) (ss2 : Nat) (k2 : Nat) d2).toList = w6 := ⟨_, rfl⟩
            rw [hw6] at RA6
            try rw [hw6]
            have HR' := Lib.hid RA6
            clear hw6 RA6
            simp only [Act.put, List.setIfInBounds_toArray, List.set_cons_zero, List.set_cons_succ]
            go_wp2_with fail
            go_roundw
            case rel =>
              have h3 := HY.out.1
              have h4 := HN.out.1
              have h5 : ¬ k = 0 := fun e => by rw [if_pos e] at h4; omega
              rw [if_neg h5] at h4
              have h6 := HN9.out
              refine ⟨_, HY.out.2.2, ?_, by show k2 ≤ c.k; omega, HD.out.2.symm.trans HN.out.2.2.2.1, fun j hj1 hj2 => ?_, HR'.out⟩
              · show _ = Value.int .i64 ((c.k - k2 : Nat) : Int)
                rw [show c.k - k2 = n9 + 1 by omega]
                go_num
              · have hj1' : k2 ≤ j := hj1
                by_cases e : j = k2
                · exact ⟨_, HY.out.2.2, e.symm⟩
                · exact HN.out.2.2.2.2.1 j (by show k ≤ j; omega) hj2
            case measure =>
              have h1 := ptOf_eq HR'.out.F
              have h2 := HN.out.2.2.2.2.2
              have h3 := HY.out.1
              have h4 := HN.out.1
              have h5 : ¬ k = 0 := fun e => by rw [if_pos e] at h4; omega
              rw [if_neg h5] at h4
              simp only at h1 h2
              rw [h1, h2]
              omega
end Go.Proofs.Ythddacgdmngfhaa.rea
