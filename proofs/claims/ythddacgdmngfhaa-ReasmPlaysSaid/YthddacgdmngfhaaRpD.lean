/- Layer 17: whatever part let come (gen-rpd.py wrote this). -/
import Derived.Test.YthddacgdmngfhaaRpC
import Derived.Test.YthddacgdmngfhaaReaE
namespace Go.Proofs.Ythddacgdmngfhaa.rea
open Go.Sort (grow)
open Go.ChangeShapes Go.WideShapes Go.ChangeAt Go.RowKit kit
open del (ms szM)
set_option maxRecDepth 100000

/-- The first and the last part of the message that is whole by one. -/
def whole (L : List Pk) (c : Pk) : Option (Pk × Pk) := match down L c.k c with
  | none => none
  | some F => match up L (64 - c.k) c with
    | none => none
    | some La => some (F, La)
/-- What is told of it. -/
def amsg (L : List Pk) : Option (Pk × Pk) → Array Value
  | none => #[.int .i64 0, .int .i64 0, .bool false, .int .u32 0, .string ⟨#[]⟩]
  | some (F, La) => mkm F (cat L F.k (La.k + 1 - F.k))
/-- What is left. -/
def aleft (L : List Pk) : Option (Pk × Pk) → List Pk
  | none => L
  | some (F, La) => rest L F.k La.k
def APost (b0 g m T : Nat) (L : List Pk) (o : Option (Pk × Pk)) (w : World) (e : Ending) (w' : World) : Prop :=
  e = .returned (.tuple #[.agg (amsg L o), .bool o.isSome]) ∧ (∃ es' c', Pa b0 g m es' c' (btk (aleft L o) : Nat) w' ∧ EntK T es'.toList (aleft L o)) ∧ Below b0 w w' ∧ Kp g m w w'
theorem whole_span {L : List Pk} (hU : Uq L) (h64 : ∀ x ∈ L, x.k < 64) {c F La : Pk} (hc : c ∈ L) (hd : down L c.k c = some F) (hu : up L (64 - c.k) c = some La) : F ∈ L ∧ F.k ≤ La.k ∧ La.k < 64 ∧ ∀ j, F.k ≤ j → j ≤ La.k → ∃ x ∈ L, x.k = j := by
  obtain ⟨h1, h2, _⟩ := down_mem c.k hc hd
  have h3 := up_down hU h64 c.k hc rfl hd
  rw [hu] at h3
  obtain ⟨q1, q2, _, q4⟩ := up_mem h64 _ h1 rfl h3
  exact ⟨h1, q2, h64 _ q1, q4⟩
set_option maxHeartbeats 8000000 in
theorem add_any (b0 g m cc T : Nat) (es : Array MapEntry) (L0 : List Pk) (c : Pk) (E : EntK T es.toList L0) (hN : Nd (L0 ++ [c])) (h64 : ∀ x ∈ L0 ++ [c], x.k < 64) (h8 : ∀ x ∈ L0 ++ [c], x.f < 8) (h6 : ∀ x ∈ L0 ++ [c], x.d.size ≤ 6) (hB : btk (L0 ++ [c]) ≤ 1000000) (w : World) (q : Pa b0 g m es cc (btk L0 : Nat) w) (hb0 : b0 ≤ w.heap.size) : Calls Try.prog 60 #[.pointer (some ⟨g, 0, none⟩), .agg (pkc T c)] w (APost b0 g m T (L0 ++ [c]) (whole (L0 ++ [c]) c) w) := by
  obtain ⟨k, f, st, ss, d⟩ := c
  have hcm : (⟨k, f, st, ss, d⟩ : Pk) ∈ L0 ++ [(⟨k, f, st, ss, d⟩ : Pk)] := by simp
  have hk64 : k < 64 := h64 _ hcm
  have hnone : pat L0 k = none := by
    refine pat_none.2 fun y hy e => ?_
    unfold Nd at hN
    rw [List.map_append, List.nodup_append] at hN
    exact hN.2.2 y.k (List.mem_map.2 ⟨y, hy, rfl⟩) k (by simp) e
  have hf : Instr.findNow (.int .u32) (.int .u32 (ts T k : Nat)) es.toList 0 = some none := (entK_find (show k < 4294967296 by omega) E (fun x hx => h64 x (by simp [hx])) 0).1 hnone
  obtain ⟨es1, hes1⟩ : ∃ es1, es.push ⟨.int .u32 (ts T k : Nat), .agg (cki (f : Nat) (ts T k : Nat) (st : Nat) (ss : Nat) (k : Nat) d), cc⟩ = es1 := ⟨_, rfl⟩
  have hE1 : EntK T es1.toList (L0 ++ [(⟨k, f, st, ss, d⟩ : Pk)]) := by
    rw [← hes1, Array.toList_push]
    exact entK_snoc rfl rfl E
  have HE := Lib.hid (And.intro hE1 (And.intro hN (And.intro h64 (And.intro h8 (And.intro h6 (And.intro hB hcm))))))
  have hbt : btk L0 + d.size = btk (L0 ++ [(⟨k, f, st, ss, d⟩ : Pk)]) := by rw [btk_append]; rfl
  have HBT := Lib.hid (And.intro hbt hB)
  have HES := Lib.hid hes1
  clear hE1 hN h64 h8 h6 hB hcm hbt E hnone hes1
  have hgw := q.B.lt
  have hmw := q.M.lt
  have X1 := (Blk.new w 40 (cki (f : Nat) (ts T k : Nat) (st : Nat) (ss : Nat) (k : Nat) d)).alloc (.cells #[.int .i64 0, .int .i64 0, .bool false, .int .u32 0, .string ⟨#[]⟩] 30)
  have S1 : Blk ((w.alloc (.cells (cki (f : Nat) (ts T k : Nat) (st : Nat) (ss : Nat) (k : Nat) d) 40)).alloc (.cells #[.int .i64 0, .int .i64 0, .bool false, .int .u32 0, .string ⟨#[]⟩] 30)) (w.heap.size + 1) 30 #[.int .i64 0, .int .i64 0, .bool false, .int .u32 0, .string ⟨#[]⟩] := blk_new2 _ _ _ _
  have bel1 := ((Below.refl b0 w).alloc hb0 (.cells (cki (f : Nat) (ts T k : Nat) (st : Nat) (ss : Nat) (k : Nat) d) 40)).alloc (by simp; omega) (.cells #[.int .i64 0, .int .i64 0, .bool false, .int .u32 0, .string ⟨#[]⟩] 30)
  have K1 : Kp g m w ((w.alloc (.cells (cki (f : Nat) (ts T k : Nat) (st : Nat) (ss : Nat) (k : Nat) d) 40)).alloc (.cells #[.int .i64 0, .int .i64 0, .bool false, .int .u32 0, .string ⟨#[]⟩] 30)) := (Kp.refl g m w).below (((Below.refl w.heap.size w).alloc (Nat.le_refl _) _).alloc (by simp) _) (Nat.le_refl _)
  have q1 := (q.alloc (.cells (cki (f : Nat) (ts T k : Nat) (st : Nat) (ss : Nat) (k : Nat) d) 40)).alloc (.cells #[.int .i64 0, .int .i64 0, .bool false, .int .u32 0, .string ⟨#[]⟩] 30)
  rw [pkc_eq]
  go_enter Try.func60, Try.ntmps60
  go_upto_region 1 with (fail)
  clear q
  have hw0 : (w.alloc (.cells (cki (f : Nat) (ts T k : Nat) (st : Nat) (ss : Nat) (k : Nat) d) 40)).alloc (.cells #[.int .i64 0, .int .i64 0, .bool false, .int .u32 0, .string ⟨#[]⟩] 30) = (w.alloc (.cells #[.int .i64 0, .int .i64 (f : Nat), .int .u32 ((ts T k : Nat) : Int), .int .i64 (st : Nat), .int .i64 (ss : Nat), .int .u32 (k : Nat), .string d, .int .u32 0, .int .u32 0, .int .i64 0, .int .i64 0, .slice none 0 0, .slice none 0 0, .slice none 0 0, .slice none 0 0] 40)).alloc (.cells #[.int .i64 0, .int .i64 0, .bool false, .int .u32 0, .string ⟨#[]⟩] 30) := rfl
  first | rw [← hw0] | skip
  clear hw0
  obtain ⟨w1, hw1⟩ : ∃ w1, (w.alloc (.cells (cki (f : Nat) (ts T k : Nat) (st : Nat) (ss : Nat) (k : Nat) d) 40)).alloc (.cells #[.int .i64 0, .int .i64 0, .bool false, .int .u32 0, .string ⟨#[]⟩] 30) = w1 := ⟨_, rfl⟩
  rw [hw1] at X1 S1 bel1 K1 q1 ⊢
  clear hw1
  obtain ⟨cb, hcb⟩ : ∃ cb, w.heap.size = cb := ⟨_, rfl⟩
  have HCB := Lib.hid hcb
  rw [hcb] at X1 S1 hb0 hgw hmw ⊢
  clear hcb
  obtain ⟨mb, hmb⟩ : ∃ mb, cb + 1 = mb := ⟨_, rfl⟩
  rw [hmb] at S1
  try rw [hmb]
  have hgl := q1.B.lt
  have hml := q1.M.lt
  have hcl := X1.lt
  have hsl := S1.lt
  have g0 : w1.cell? ⟨g, 0, none⟩ = some (.map (some m)) := q1.B.cell 0
  have x2 : w1.cell? ⟨cb, 2, none⟩ = some (.int .u32 (ts T k : Nat)) := X1.cell 2
  have lk1 : (Instr.lookup 205 (.map (some m)) (.int .u32 (ts T k : Nat)) true).run Try.prog w1 = .ok (.tuple #[.agg #[.int .i64 0, .int .i64 0, .int .u32 0, .int .i64 0, .int .i64 0, .int .u32 0, .string ⟨#[]⟩, .int .u32 0, .int .u32 0, .int .i64 0, .int .i64 0, .slice none 0 0, .slice none 0 0, .slice none 0 0, .slice none 0 0], .bool false]) w1 := lk_none uM uK q1.M (zeroC _) hf
  have lk2 : ∀ o, (Instr.lookup 205 (.map (some m)) (.int .u32 (ts T k : Nat)) true).run Try.prog (w1.alloc o) = .ok (.tuple #[.agg #[.int .i64 0, .int .i64 0, .int .u32 0, .int .i64 0, .int .i64 0, .int .u32 0, .string ⟨#[]⟩, .int .u32 0, .int .u32 0, .int .i64 0, .int .i64 0, .slice none 0 0, .slice none 0 0, .slice none 0 0, .slice none 0 0], .bool false]) (w1.alloc o) := fun o => lk_none uM uK (q1.M.alloc o) (zeroC _) hf
  have lk3 : ∀ o, (Instr.lookup 205 (.map (some m)) (.int .u32 (ts T k : Nat)) true).run Try.prog (w1.alloc o).drew = .ok (.tuple #[.agg #[.int .i64 0, .int .i64 0, .int .u32 0, .int .i64 0, .int .i64 0, .int .u32 0, .string ⟨#[]⟩, .int .u32 0, .int .u32 0, .int .i64 0, .int .i64 0, .slice none 0 0, .slice none 0 0, .slice none 0 0, .slice none 0 0], .bool false]) (w1.alloc o).drew := fun o => lk_none uM uK (q1.M.alloc o).drew (zeroC _) hf
  have lk4 : (Instr.lookup 205 (.map (some m)) (.int .u32 (ts T k : Nat)) true).run Try.prog w1.drew = .ok (.tuple #[.agg #[.int .i64 0, .int .i64 0, .int .u32 0, .int .i64 0, .int .i64 0, .int .u32 0, .string ⟨#[]⟩, .int .u32 0, .int .u32 0, .int .i64 0, .int .i64 0, .slice none 0 0, .slice none 0 0, .slice none 0 0, .slice none 0 0], .bool false]) w1.drew := lk_none uM uK q1.M.drew (zeroC _) hf
  go_upto_region 3 with (fail)
  go_region
  have q3 := (q1.alloc (.cells #[.int .i64 0, .int .i64 0, .int .u32 0, .int .i64 0, .int .i64 0, .int .u32 0, .string ⟨#[]⟩, .int .u32 0, .int .u32 0, .int .i64 0, .int .i64 0, .slice none 0 0, .slice none 0 0, .slice none 0 0, .slice none 0 0] 40)).drew
  have X3 := (X1.alloc (.cells #[.int .i64 0, .int .i64 0, .int .u32 0, .int .i64 0, .int .i64 0, .int .u32 0, .string ⟨#[]⟩, .int .u32 0, .int .u32 0, .int .i64 0, .int .i64 0, .slice none 0 0, .slice none 0 0, .slice none 0 0, .slice none 0 0] 40)).drew
  have S3 := (S1.alloc (.cells #[.int .i64 0, .int .i64 0, .int .u32 0, .int .i64 0, .int .i64 0, .int .u32 0, .string ⟨#[]⟩, .int .u32 0, .int .u32 0, .int .i64 0, .int .i64 0, .slice none 0 0, .slice none 0 0, .slice none 0 0, .slice none 0 0] 40)).drew
  have bel3 := (bel1.alloc (by omega) (.cells #[.int .i64 0, .int .i64 0, .int .u32 0, .int .i64 0, .int .i64 0, .int .u32 0, .string ⟨#[]⟩, .int .u32 0, .int .u32 0, .int .i64 0, .int .i64 0, .slice none 0 0, .slice none 0 0, .slice none 0 0, .slice none 0 0] 40)).drew
  have K3 : Kp g m w (w1.alloc (.cells #[.int .i64 0, .int .i64 0, .int .u32 0, .int .i64 0, .int .i64 0, .int .u32 0, .string ⟨#[]⟩, .int .u32 0, .int .u32 0, .int .i64 0, .int .i64 0, .slice none 0 0, .slice none 0 0, .slice none 0 0, .slice none 0 0] 40)).drew := K1.below ((Below.refl w1.heap.size w1).alloc (Nat.le_refl _) (.cells #[.int .i64 0, .int .i64 0, .int .u32 0, .int .i64 0, .int .i64 0, .int .u32 0, .string ⟨#[]⟩, .int .u32 0, .int .u32 0, .int .i64 0, .int .i64 0, .slice none 0 0, .slice none 0 0, .slice none 0 0, .slice none 0 0] 40)).drew K1.size
  clear q1 X1 S1 bel1 K1 g0 x2 lk1 lk2 lk3 lk4 hgl hml hcl hsl
  obtain ⟨w3, hw3⟩ : ∃ w3, (w1.alloc (.cells #[.int .i64 0, .int .i64 0, .int .u32 0, .int .i64 0, .int .i64 0, .int .u32 0, .string ⟨#[]⟩, .int .u32 0, .int .u32 0, .int .i64 0, .int .i64 0, .slice none 0 0, .slice none 0 0, .slice none 0 0, .slice none 0 0] 40)).drew = w3 := ⟨_, rfl⟩
  rw [hw3] at q3 X3 S3 bel3 K3 ⊢
  clear hw3
  have g0 : w3.cell? ⟨g, 0, none⟩ = some (.map (some m)) := q3.B.cell 0
  have hnm : ∀ w, (binOp .eql 205 (.map (some m)) (.map none)).run Try.prog w = .ok (.bool false) w := fun w => run_eql_map_nil w _ _ _ (some m) uM
  go_upto_region 8 with (fail)
  clear g0 hnm
  go_cut [42] (fun _ wx => Pa b0 g m es1 (cc + 1) (btk L0 : Nat) wx ∧ Blk wx cb 40 (cki (f : Nat) (ts T k : Nat) (st : Nat) (ss : Nat) (k : Nat) d) ∧ Blk wx mb 30 #[.int .i64 0, .int .i64 0, .bool false, .int .u32 0, .string ⟨#[]⟩] ∧ Below b0 w wx ∧ Kp g m w wx)
  case first =>
    have g0 : w3.cell? ⟨g, 0, none⟩ = some (.map (some m)) := q3.B.cell 0
    have y0 : w3.cell? ⟨cb, 0, none⟩ = some (.int .i64 0) := X3.cell 0
    have y1 : w3.cell? ⟨cb, 1, none⟩ = some (.int .i64 (f : Nat)) := X3.cell 1
    have x2 : w3.cell? ⟨cb, 2, none⟩ = some (.int .u32 (ts T k : Nat)) := X3.cell 2
    have szR := szI (f : Nat) (ts T k : Nat) (st : Nat) (ss : Nat) (k : Nat) d
    have y3 : w3.cell? ⟨cb, 3, none⟩ = some (.int .i64 (st : Nat)) := X3.cell 3
    have y4 : w3.cell? ⟨cb, 4, none⟩ = some (.int .i64 (ss : Nat)) := X3.cell 4
    have y5 : w3.cell? ⟨cb, 5, none⟩ = some (.int .u32 (k : Nat)) := X3.cell 5
    have y6 : w3.cell? ⟨cb, 6, none⟩ = some (.string d) := X3.cell 6
    have y7 : w3.cell? ⟨cb, 7, none⟩ = some (.int .u32 0) := X3.cell 7
    have y8 : w3.cell? ⟨cb, 8, none⟩ = some (.int .u32 0) := X3.cell 8
    have y9 : w3.cell? ⟨cb, 9, none⟩ = some (.int .i64 0) := X3.cell 9
    have y10 : w3.cell? ⟨cb, 10, none⟩ = some (.int .i64 0) := X3.cell 10
    have y11 : w3.cell? ⟨cb, 11, none⟩ = some (.slice none 0 0) := X3.cell 11
    have y12 : w3.cell? ⟨cb, 12, none⟩ = some (.slice none 0 0) := X3.cell 12
    have y13 : w3.cell? ⟨cb, 13, none⟩ = some (.slice none 0 0) := X3.cell 13
    have y14 : w3.cell? ⟨cb, 14, none⟩ = some (.slice none 0 0) := X3.cell 14
    have hbw : b0 ≤ w3.heap.size := by have := q3.hg; have := q3.B.lt; omega
    go_region_law ((refine step_call2 (by rfl) 105 Try.f105 _ _ (by rfl) Try.func105 (by kernel_rfl) (by kernel_rfl) #[.agg (cki (f : Nat) (ts T k : Nat) (st : Nat) (ss : Nat) (k : Nat) d)] (by simp [Act.eval, Act.put, cki]) (clone_part (f : Nat) (ts T k : Nat) (st : Nat) (ss : Nat) (k : Nat) d _) ?_; rintro e w9 ⟨rfl, hb9⟩; refine ⟨_, rfl, ?_⟩; have q9 := q3.drew.below hb9 (Nat.le_refl _); have X9 := X3.drew.below hb9 X3.lt; have S9 := S3.drew.below hb9 S3.lt; have bel9 := bel3.drew.trans (hb9.mono hbw); have K9 : Kp g m w w9 := Kp.below (w' := w3.drew) ⟨K3.size, K3.block⟩ hb9 K3.size; have g9 : w9.cell? ⟨g, 0, none⟩ = some (.map (some m)) := q9.B.cell 0; have x9 : w9.cell? ⟨cb, 2, none⟩ = some (.int .u32 (ts T k : Nat)) := X9.cell 2; have u9 : (Instr.mapUpdate 205 (.map (some m)) (.int .u32 (ts T k : Nat)) (.agg (cki (f : Nat) (ts T k : Nat) (st : Nat) (ss : Nat) (k : Nat) d))).run Try.prog w9 = .ok () (Go.ChangeMaps.setBlock w9 m (.map es1 (cc + 1))) := (up_new uM uK q9.M (.agg (cki (f : Nat) (ts T k : Nat) (st : Nat) (ss : Nat) (k : Nat) d)) hf).trans (by rw [HES.out])))
    all_goals
      go_wp2_with fail
      go_meet
      exact ⟨q9.map _ _, blk_map q9.M X9 _ _, blk_map q9.M S9 _ _, q9.M.bel bel9 q9.hm _ _, K9.map q9.M _ _⟩
  case rest =>
  obtain ⟨q10, X10, S10, bel10, K10⟩ := hcut
  clear q3 X3 S3 bel3 K3 hf
  have g1 : wc.cell? ⟨g, 1, none⟩ = some (.int .i64 (btk L0 : Nat)) := q10.B.cell 1
  have g1f : wc.frozen? ⟨g, 1, none⟩ = false := q10.B.frozen 1
  have x6 : wc.cell? ⟨cb, 6, none⟩ = some (.string d) := X10.cell 6
  have hgl := q10.B.lt
  have hcl := X10.lt
  have hbx : ((btk L0 : Nat) : Int) + ((d.size : Nat) : Int) ≤ 9223372036854775807 := by have := HBT.out; omega
  have hby : (0 : Int) ≤ ((btk L0 : Nat) : Int) + ((d.size : Nat) : Int) := by omega
  go_upto_region 9 with (fail)
  go_region
  rw [show ((btk L0 : Nat) : Int) + ((d.size : Nat) : Int) = ((btk (L0 ++ [(⟨k, f, st, ss, d⟩ : Pk)]) : Nat) : Int) by have := HBT.out.1; omega]
  have q11 := (q10.byt (btk (L0 ++ [(⟨k, f, st, ss, d⟩ : Pk)]) : Nat)).drew
  have X11 := (X10.far (p := ⟨g, 1, none⟩) (by show cb ≠ g; omega) (.int .i64 (btk (L0 ++ [(⟨k, f, st, ss, d⟩ : Pk)]) : Nat))).drew
  have S11 := (S10.far (p := ⟨g, 1, none⟩) (by show mb ≠ g; omega) (.int .i64 (btk (L0 ++ [(⟨k, f, st, ss, d⟩ : Pk)]) : Nat))).drew
  have bel11 := (bel10.setCell (p := ⟨g, 1, none⟩) q10.hg (.int .i64 (btk (L0 ++ [(⟨k, f, st, ss, d⟩ : Pk)]) : Nat))).drew
  have K10' := K10.set ⟨g, 1, none⟩ (.inl rfl) (.int .i64 (btk (L0 ++ [(⟨k, f, st, ss, d⟩ : Pk)]) : Nat))
  have K11 : Kp g m w (wc.setCell ⟨g, 1, none⟩ (.int .i64 (btk (L0 ++ [(⟨k, f, st, ss, d⟩ : Pk)]) : Nat))).drew := ⟨K10'.size, K10'.block⟩
  clear q10 X10 S10 bel10 g1 g1f x6 hgl hcl K10 K10' hbx hby
  obtain ⟨w11, hw11⟩ : ∃ w11, (wc.setCell ⟨g, 1, none⟩ (.int .i64 (btk (L0 ++ [(⟨k, f, st, ss, d⟩ : Pk)]) : Nat))).drew = w11 := ⟨_, rfl⟩
  rw [hw11] at q11 X11 S11 bel11 K11 ⊢
  clear hw11
  have szR := szI (f : Nat) (ts T k : Nat) (st : Nat) (ss : Nat) (k : Nat) d
  have hbw : b0 ≤ w11.heap.size := by have := q11.hg; have := q11.B.lt; omega
  have hcw : w.heap.size ≤ w11.heap.size := K11.size
  go_upto_region 10 with (fail)
  go_wp2_with (refine wpList_load_at rfl 40 _ rfl cb 0 rfl (cki (f : Nat) (ts T k : Nat) (st : Nat) (ss : Nat) (k : Nat) d) _ (Cel.of_blk X11) Try.underlying40 rfl szR ?_)
  refine (reach_down b0 g m (cc + 1) T _ es1 _ HE.out.1 (uq_of_nd HE.out.2.1) HE.out.2.2.1 HE.out.2.2.2.1 ⟨k, f, st, ss, d⟩ HE.out.2.2.2.2.2.2 _ q11).mono ?_
  rintro e w12 ⟨he, hb12⟩
  have q12 := q11.below hb12 (Nat.le_refl _)
  have X12 := X11.below hb12 X11.lt
  have S12 := S11.below hb12 S11.lt
  have bel12 := bel11.trans (hb12.mono hbw)
  have K12 := K11.below hb12 hcw
  have hbw12 : b0 ≤ w12.heap.size := Nat.le_trans hbw hb12.size
  have hcw12 : w.heap.size ≤ w12.heap.size := K12.size
  clear q11 X11 S11 bel11 K11 hb12 hbw hcw
  rcases hd : down (L0 ++ [(⟨k, f, st, ss, d⟩ : Pk)]) k ⟨k, f, st, ss, d⟩ with _ | F
  · rw [show (⟨k, f, st, ss, d⟩ : Pk).k = k from rfl, hd] at he
    have he' : e = .returned (.tuple #[.int .u32 0, .bool false]) := he
    subst he'
    have hwn : whole (L0 ++ [(⟨k, f, st, ss, d⟩ : Pk)]) ⟨k, f, st, ss, d⟩ = none := by unfold whole; rw [show (⟨k, f, st, ss, d⟩ : Pk).k = k from rfl, hd]
    clear he hd X12
    have sz : (Try.prog.info? 30).map (·.size) = some (#[.int .i64 0, .int .i64 0, .bool false, .int .u32 0, .string ⟨#[]⟩] : Array Value).size := szM
    have HX := Lib.hid (And.intro q12 (And.intro bel12 (And.intro K12 hwn)))
    clear q12 bel12 K12
    go_wp2_with (refine wpList_store_at rfl 30 _ _ rfl mb 0 #[.int .i64 0, .int .i64 0, .bool false, .int .u32 0, .string ⟨#[]⟩] rfl rfl #[.int .i64 0, .int .i64 0, .bool false, .int .u32 0, .string ⟨#[]⟩] (Cel.of_blk S12) sz rfl (by kernel_rfl) ?_)
    have KC := (Cel.of_blk S12).setCells_same (#[.int .i64 0, .int .i64 0, .bool false, .int .u32 0, .string ⟨#[]⟩] : Array Value).toList rfl
    have bel13 := below_setCells HX.out.2.1 (show b0 ≤ mb by omega) 0 (#[.int .i64 0, .int .i64 0, .bool false, .int .u32 0, .string ⟨#[]⟩] : Array Value).toList
    have q13 : Pa b0 g m es1 (cc + 1) (btk (L0 ++ [(⟨k, f, st, ss, d⟩ : Pk)]) : Nat) (w12.setCells mb 0 (#[.int .i64 0, .int .i64 0, .bool false, .int .u32 0, .string ⟨#[]⟩] : Array Value).toList) := ⟨blk_setCells HX.out.1.B (by omega) 0 _, mapb_setCells HX.out.1.M (by omega) 0 _, HX.out.1.hg, HX.out.1.hm, HX.out.1.ne⟩
    have K13 := HX.out.2.2.1.setCells (h := mb) (by have := HCB.out; omega) 0 (#[.int .i64 0, .int .i64 0, .bool false, .int .u32 0, .string ⟨#[]⟩] : Array Value).toList
    refine bodyPost_ret (v := .tuple #[.agg #[.int .i64 0, .int .i64 0, .bool false, .int .u32 0, .string ⟨#[]⟩], .bool false]) (by rw [results_cell_tmp_at rfl _ _ mb 0 #[.int .i64 0, .int .i64 0, .bool false, .int .u32 0, .string ⟨#[]⟩] _ rfl (KC.congr (by simp)) Try.underlying30 rfl sz]; rfl) rfl ?_
    unfold APost
    rw [HX.out.2.2.2]
    exact ⟨rfl, ⟨es1, cc + 1, q13, HE.out.1⟩, bel13, K13⟩
  · rw [show (⟨k, f, st, ss, d⟩ : Pk).k = k from rfl, hd] at he
    have he' : e = .returned (.tuple #[.int .u32 (ts T F.k : Nat), .bool true]) := he
    subst he'
    clear he
    go_upto_region 13 with (fail)
    go_wp2_with (refine wpList_load_at rfl 40 _ rfl cb 0 rfl (cki (f : Nat) (ts T k : Nat) (st : Nat) (ss : Nat) (k : Nat) d) _ (Cel.of_blk X12) Try.underlying40 rfl szR ?_)
    refine (reach_up b0 g m (cc + 1) T _ es1 _ HE.out.1 (uq_of_nd HE.out.2.1) HE.out.2.2.1 HE.out.2.2.2.1 ⟨k, f, st, ss, d⟩ HE.out.2.2.2.2.2.2 _ q12).mono ?_
    rintro e w14 ⟨he, hb14⟩
    have q14 := q12.below hb14 (Nat.le_refl _)
    have S14 := S12.below hb14 S12.lt
    have bel14 := bel12.trans (hb14.mono hbw12)
    have K14 := K12.below hb14 hcw12
    have hbw14 : b0 ≤ w14.heap.size := Nat.le_trans hbw12 hb14.size
    clear q12 X12 S12 bel12 K12 hb14 szR
    rcases hu : up (L0 ++ [(⟨k, f, st, ss, d⟩ : Pk)]) (64 - k) ⟨k, f, st, ss, d⟩ with _ | La
    · rw [show (⟨k, f, st, ss, d⟩ : Pk).k = k from rfl, hu] at he
      have he' : e = .returned (.tuple #[.int .u32 0, .bool false]) := he
      subst he'
      have hwn : whole (L0 ++ [(⟨k, f, st, ss, d⟩ : Pk)]) ⟨k, f, st, ss, d⟩ = none := by unfold whole; simp only [show (⟨k, f, st, ss, d⟩ : Pk).k = k from rfl, hd, hu]
      clear he hd hu
      have sz : (Try.prog.info? 30).map (·.size) = some (#[.int .i64 0, .int .i64 0, .bool false, .int .u32 0, .string ⟨#[]⟩] : Array Value).size := szM
      have HX := Lib.hid (And.intro q14 (And.intro bel14 (And.intro K14 hwn)))
      clear q14 bel14 K14
      go_wp2_with (refine wpList_store_at rfl 30 _ _ rfl mb 0 #[.int .i64 0, .int .i64 0, .bool false, .int .u32 0, .string ⟨#[]⟩] rfl rfl #[.int .i64 0, .int .i64 0, .bool false, .int .u32 0, .string ⟨#[]⟩] (Cel.of_blk S14) sz rfl (by kernel_rfl) ?_)
      have KC := (Cel.of_blk S14).setCells_same (#[.int .i64 0, .int .i64 0, .bool false, .int .u32 0, .string ⟨#[]⟩] : Array Value).toList rfl
      have bel13 := below_setCells HX.out.2.1 (show b0 ≤ mb by omega) 0 (#[.int .i64 0, .int .i64 0, .bool false, .int .u32 0, .string ⟨#[]⟩] : Array Value).toList
      have q13 : Pa b0 g m es1 (cc + 1) (btk (L0 ++ [(⟨k, f, st, ss, d⟩ : Pk)]) : Nat) (w14.setCells mb 0 (#[.int .i64 0, .int .i64 0, .bool false, .int .u32 0, .string ⟨#[]⟩] : Array Value).toList) := ⟨blk_setCells HX.out.1.B (by omega) 0 _, mapb_setCells HX.out.1.M (by omega) 0 _, HX.out.1.hg, HX.out.1.hm, HX.out.1.ne⟩
      have K13 := HX.out.2.2.1.setCells (h := mb) (by have := HCB.out; omega) 0 (#[.int .i64 0, .int .i64 0, .bool false, .int .u32 0, .string ⟨#[]⟩] : Array Value).toList
      refine bodyPost_ret (v := .tuple #[.agg #[.int .i64 0, .int .i64 0, .bool false, .int .u32 0, .string ⟨#[]⟩], .bool false]) (by rw [results_cell_tmp_at rfl _ _ mb 0 #[.int .i64 0, .int .i64 0, .bool false, .int .u32 0, .string ⟨#[]⟩] _ rfl (KC.congr (by simp)) Try.underlying30 rfl sz]; rfl) rfl ?_
      unfold APost
      rw [HX.out.2.2.2]
      exact ⟨rfl, ⟨es1, cc + 1, q13, HE.out.1⟩, bel13, K13⟩
    · rw [show (⟨k, f, st, ss, d⟩ : Pk).k = k from rfl, hu] at he
      have he' : e = .returned (.tuple #[.int .u32 (ts T La.k : Nat), .bool true]) := he
      subst he'
      clear he
      have hwn : whole (L0 ++ [(⟨k, f, st, ss, d⟩ : Pk)]) ⟨k, f, st, ss, d⟩ = some (F, La) := by unfold whole; simp only [show (⟨k, f, st, ss, d⟩ : Pk).k = k from rfl, hd, hu]
      obtain ⟨s1, s2, s3, s4⟩ := whole_span (uq_of_nd HE.out.2.1) HE.out.2.2.1 HE.out.2.2.2.2.2.2 hd hu
      have HS := Lib.hid (And.intro hwn (And.intro s1 (And.intro s2 (And.intro s3 s4))))
      clear hd hu hwn s1 s2 s3 s4
      have hmg : mb ≠ g := by omega
      have hmm : mb ≠ m := by omega
      have hcm2 : cb ≤ mb := by omega
      go_upto_region 16 with (fail)
      go_wp2_with fail
      refine (taken_any b0 g m (cc + 1) T es1 _ HE.out.1 HE.out.2.1 HE.out.2.2.1 HE.out.2.2.2.1 HE.out.2.2.2.2.1 HE.out.2.2.2.2.2.1 F HS.out.2.1 La.k HS.out.2.2.1 HS.out.2.2.2.1 HS.out.2.2.2.2 w14 q14 hbw14).mono ?_
      rintro e w16 ⟨rfl, ⟨es2, c2, q16, E16⟩, bel16, K16⟩
      have S16 : Blk w16 mb 30 #[.int .i64 0, .int .i64 0, .bool false, .int .u32 0, .string ⟨#[]⟩] := (K16.block mb S14.lt hmg hmm).trans S14
      obtain ⟨MM, hMM⟩ : ∃ MM, mkm F (cat (L0 ++ [(⟨k, f, st, ss, d⟩ : Pk)]) F.k (La.k + 1 - F.k)) = MM := ⟨_, rfl⟩
      have hMs : (Try.prog.info? 30).map (·.size) = some MM.size := by rw [← hMM]; show _ = some 5; kernel_rfl
      have hMo : MM.all (·.oneCell') = true := by rw [← hMM]; kernel_rfl
      have hM5 : (#[.int .i64 0, .int .i64 0, .bool false, .int .u32 0, .string ⟨#[]⟩] : Array Value).size = MM.size := by rw [← hMM]; rfl
      have HX := Lib.hid (And.intro hMM (And.intro (bel14.trans bel16) (And.intro (K14.trans K16) (And.intro q16 E16))))
      rw [hMM]
      clear hMM bel14 K14 bel16 K16 q16 E16 S14
      go_wp2_with (refine wpList_store_at rfl 30 _ _ rfl mb 0 MM rfl rfl #[.int .i64 0, .int .i64 0, .bool false, .int .u32 0, .string ⟨#[]⟩] (Cel.of_blk S16) hMs hM5 hMo ?_)
      have KC := (Cel.of_blk S16).setCells_same MM.toList (by rw [Array.length_toList, ← hM5])
      have bel18 := below_setCells HX.out.2.1 (show b0 ≤ mb by omega) 0 MM.toList
      have K18 := HX.out.2.2.1.setCells (h := mb) (by have := HCB.out; omega) 0 MM.toList
      have q18 : Pa b0 g m es2 c2 (btk (rest (L0 ++ [(⟨k, f, st, ss, d⟩ : Pk)]) F.k La.k) : Nat) (w16.setCells mb 0 MM.toList) := ⟨blk_setCells HX.out.2.2.2.1.B (fun e => hmg e.symm) 0 _, mapb_setCells HX.out.2.2.2.1.M (fun e => hmm e.symm) 0 _, HX.out.2.2.2.1.hg, HX.out.2.2.2.1.hm, HX.out.2.2.2.1.ne⟩
      refine bodyPost_ret (v := .tuple #[.agg MM, .bool true]) (by rw [results_cell_tmp_at rfl _ _ mb 0 MM _ rfl (KC.congr (by simp)) Try.underlying30 rfl hMs]; rfl) rfl ?_
      unfold APost
      rw [HS.out.1]
      refine ⟨?_, ⟨es2, c2, q18, HX.out.2.2.2.2⟩, bel18, K18⟩
      rw [← HX.out.1]
      rfl
end Go.Proofs.Ythddacgdmngfhaa.rea
