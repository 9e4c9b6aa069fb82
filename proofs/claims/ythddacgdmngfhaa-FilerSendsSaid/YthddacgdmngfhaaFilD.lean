/- Layer 40: receivers; the bytes of a message taken. -/
import Derived.Test.YthddacgdmngfhaaFilC
namespace Go.Proofs.Ythddacgdmngfhaa.fil
open Go.Sort (grow)
open Go.ChangeShapes Go.WideShapes Go.ChangeAt Go.RowKit kit oct byt
open Go.ChangeMaps (setBlock)
set_option maxRecDepth 100000

theorem uMO : Try.prog.underlying 173 = some (.map 28 182) := by kernel_rfl
theorem uU : Try.prog.underlying 28 = some (.int .u32) := by kernel_rfl
theorem zR (w : World) : (zeroValue 182).run Try.prog w = .ok (.agg #[.int .i64 0, .map none]) w := by kernel_rfl
theorem szO (i : Int) (d : ByteArray) : (Try.prog.info? 57).map (·.size) = some (#[.int .u32 i, .string d] : Array Value).size := by show _ = some 2; kernel_rfl
section
variable {P : Program}
/-- Three results, the first of which lies in memory. -/
theorem results_cell_tmp2_at {fn : Func} {p u v : Tmp} {ty : TypeId} (hr : fn.results = #[.cell p ty, .tmp u, .tmp v]) (tmps : Array Value) (w : World) (h o : Nat) (cs : Array Value) (d : TypeDesc)
    (hp : tmps.getD p undef = .pointer (some ⟨h, o, none⟩)) (C : Cel w h o cs)
    (hu : P.underlying ty = some d) (hd : (match d with | .struct _ | .array _ _ => true | _ => false) = true) (hi : (P.info? ty).map (·.size) = some cs.size) :
    (results fn tmps).run P w = .ok (.tuple #[.agg cs, tmps.getD u undef, tmps.getD v undef]) w := by
  have hp' : tmps[p]?.getD undef = .pointer (some ⟨h, o, none⟩) := by simpa using hp
  simp [results, hr, hp', asAddr, run_loadVar_at ty d C hu hd hi]
theorem del_none {T K E : TypeId} {q : IntKind} {w : World} {B c : Nat} {es : Array MapEntry} {a : Int} (ht : P.underlying T = some (.map K E)) (hk : P.underlying K = some (.int q)) (hb : w.heap[B]? = some (.map es c)) (ts : Array TypeId) (hts : ts[0]? = some T) (ty : TypeId) (hf : Instr.findNow (.int q) (.int q a) es.toList 0 = some none) :
    (Builtin.delete_ ts ty #[.map (some B), .int q a]).run P w = .ok (.tuple #[]) (setBlock w B (.map es c)) := by
  simp [Builtin.delete_, hts, run_underlying ht, Go.MapKept.run_getObj_map hb, Go.MapKept.run_checkKey hk (isKey_int q a), Go.MapKept.run_findKey hk hf, Go.MapKept.run_setObj_map _ hb, Result.andThen, setBlock]
end
/-- A receiver in memory. -/
structure Rv (b0 g m : Nat) (es : Array MapEntry) (c : Nat) (w : World) : Prop where
  B : Blk w g 175 #[.map (some m)]
  M : MapB w m es c
  hg : b0 ≤ g
  hm : b0 ≤ m
  ne : m ≠ g
section
variable {b0 g m c : Nat} {es : Array MapEntry} {w w' : World}
theorem Rv.below {k : Nat} (q : Rv b0 g m es c w) (hb : Below k w w') (hk : w.heap.size ≤ k) : Rv b0 g m es c w' :=
  ⟨q.B.below hb (Nat.lt_of_lt_of_le q.B.lt hk), q.M.below hb (Nat.lt_of_lt_of_le q.M.lt hk), q.hg, q.hm, q.ne⟩
theorem Rv.alloc (q : Rv b0 g m es c w) (o : Obj) : Rv b0 g m es c (w.alloc o) := q.below ((Below.refl w.heap.size w).alloc (Nat.le_refl _) o) (Nat.le_refl _)
theorem Rv.drew (q : Rv b0 g m es c w) : Rv b0 g m es c w.drew := ⟨q.B, q.M, q.hg, q.hm, q.ne⟩
theorem Rv.far (q : Rv b0 g m es c w) {p : Addr} (h1 : g ≠ p.block) (h2 : m ≠ p.block) (v : Value) : Rv b0 g m es c (w.setCell p v) := ⟨q.B.far h1 v, q.M.far h2 v, q.hg, q.hm, q.ne⟩
end
theorem new_rv (w : World) : Calls Try.prog 33 #[] w fun e w' => e = .returned (.pointer (some ⟨w.heap.size + 1, 0, none⟩)) ∧ Rv w.heap.size (w.heap.size + 1) w.heap.size #[] 0 w' ∧ Below w.heap.size w w' := by
  have hmk : ∀ w, (Instr.makeMap 173 none).run Try.prog w = .ok (.map (some w.heap.size)) (w.alloc (.map #[] 0)) := fun w => rfl
  have q : Rv w.heap.size (w.heap.size + 1) w.heap.size #[] 0 ((w.alloc (.map #[] 0)).alloc (.cells #[.map (some w.heap.size)] 175)) := ⟨blk_new2 _ _ _ _, (MapB.new w).alloc _, by omega, Nat.le_refl _, by omega⟩
  have bel := ((Below.refl w.heap.size w).alloc (Nat.le_refl _) (.map #[] 0)).alloc (by simp) (.cells #[.map (some w.heap.size)] 175)
  go_enter Try.func33, Try.ntmps33
  go_wp2_with fail
  go_ret
  exact ⟨by simp, q, bel⟩
theorem len_rv {b0 g m c : Nat} {es : Array MapEntry} (w : World) (q : Rv b0 g m es c w) : Calls Try.prog 36 #[.pointer (some ⟨g, 0, none⟩)] w fun e w' => e = .returned (.int .i64 es.size) ∧ w' = w := by
  have g0 : w.cell? ⟨g, 0, none⟩ = some (.map (some m)) := q.B.cell 0
  have hl : ∀ ty, (Builtin.len_ #[173] ty #[.map (some m)]).run Try.prog w = .ok (.int .i64 es.size) w := fun ty => len_map uMO q.M #[173] rfl ty
  go_enter Try.func36, Try.ntmps36
  go_wp2_with fail
  go_ret
  exact ⟨rfl, rfl⟩
theorem len_nil (w : World) : Calls Try.prog 36 #[.pointer none] w fun e w' => e = .returned (.int .i64 0) ∧ w' = w := by
  go_enter Try.func36, Try.ntmps36
  go_wp2_with fail
  go_ret
  exact ⟨rfl, rfl⟩
theorem pcR_cells (s : ByteArray) : ∃ i z a d, pcR s = #[.int .u32 i, .int .i64 z, .int .i64 a, .string d] := by
  unfold pcR
  split
  · exact ⟨_, _, _, _, rfl⟩
  · exact ⟨_, _, _, _, rfl⟩
/-- Nobody takes; nor is taken what says no piece. -/
theorem take_bad (p : Option Addr) (s : ByteArray) (w : World) (hl : s.size ≤ maxLen) (h : p = none ∨ (∃ a, p = some a) ∧ okR s = false) :
    Calls Try.prog 34 #[.pointer p, .string s] w fun e w' => e = .returned (.tuple #[.agg #[.int .u32 0, .string ⟨#[]⟩], .bool false, .int .i64 3]) ∧ Below w.heap.size w w' := by
  obtain ⟨i, z, a, d, hpc⟩ := pcR_cells s
  have hrd := fun W => read_any s W hl
  rw [hpc] at hrd
  clear hpc
  generalize okR s = ok at *
  have O0 := Blk.new w 57 #[.int .u32 0, .string ⟨#[]⟩]
  have bel0 := (Below.refl w.heap.size w).alloc (Nat.le_refl _) (.cells #[.int .u32 0, .string ⟨#[]⟩] 57)
  go_enter Try.func34, Try.ntmps34
  go_upto_region 1 with (fail)
  generalize w.alloc (.cells #[.int .u32 0, .string ⟨#[]⟩] 57) = w0 at *
  go_wp2_with fail
  refine (hrd _).mono ?_
  rintro e w1 ⟨rfl, hb1⟩
  have O1 := O0.below hb1 O0.lt
  have bel1 := bel0.trans (hb1.mono bel0.size)
  clear O0 bel0 hb1 hrd
  go_upto_region 2 with (fail)
  have O2 := O1.alloc (.cells #[.int .u32 i, .int .i64 z, .int .i64 a, .string d] 177)
  have bel2 := bel1.alloc bel1.size (.cells #[.int .u32 i, .int .i64 z, .int .i64 a, .string d] 177)
  clear O1 bel1
  generalize w1.alloc (.cells #[.int .u32 i, .int .i64 z, .int .i64 a, .string d] 177) = w2 at *
  have o0 : w2.cell? ⟨w.heap.size, 0, none⟩ = some (.int .u32 0) := O2.cell 0
  have o1 : w2.cell? ⟨w.heap.size, 1, none⟩ = some (.string ⟨#[]⟩) := O2.cell 1
  have f0 : w2.frozen? ⟨w.heap.size, 0, none⟩ = false := O2.frozen 0
  have f1 : w2.frozen? ⟨w.heap.size, 1, none⟩ = false := O2.frozen 1
  have O3 : Blk ((w2.setCell ⟨w.heap.size, 0, none⟩ (.int .u32 0)).setCell ⟨w.heap.size, 1, none⟩ (.string ⟨#[]⟩)) w.heap.size 57 #[.int .u32 0, .string ⟨#[]⟩] := by
    have := (O2.set_ 0 (.int .u32 0)).set_ 1 (.string ⟨#[]⟩)
    simpa using this
  have bel3 := (bel2.setCell (p := ⟨w.heap.size, 0, none⟩) (Nat.le_refl _) (.int .u32 0)).setCell (p := ⟨w.heap.size, 1, none⟩) (Nat.le_refl _) (.string ⟨#[]⟩)
  rcases h with rfl | ⟨⟨a', rfl⟩, rfl⟩
  all_goals
    go_wp2_with fail
    exact bodyPost_ret (v := .tuple #[.agg #[.int .u32 0, .string ⟨#[]⟩], .bool false, .int .i64 3]) (by rw [results_cell_tmp2_at rfl _ _ w.heap.size 0 #[.int .u32 0, .string ⟨#[]⟩] _ rfl (Cel.of_blk O3) Try.underlying57 rfl (szO _ _)]; rfl) rfl ⟨rfl, bel3⟩
theorem keep_any {b0 g m : Nat} (id : Int) (n : Int) (k : Nat) (w : World) (q : Rv b0 g m #[] 0 w) : Calls Try.prog 93 #[.pointer (some ⟨g, 0, none⟩), .int .u32 id, .agg #[.int .i64 n, .map (some k)]] w fun e w' => e = .returned (.tuple #[]) ∧ (∃ es c, MapB w' m es c) ∧ (∀ b, b < w.heap.size → b ≠ m → w'.heap[b]? = w.heap[b]?) ∧ Below b0 w w' := by
  have hb0 : b0 ≤ w.heap.size := by have := q.B.lt; have := q.hg; omega
  have X1 := Blk.new w 182 #[.int .i64 n, .map (some k)]
  have q1 := q.alloc (.cells #[.int .i64 n, .map (some k)] 182)
  have bel1 := (Below.refl b0 w).alloc hb0 (.cells #[.int .i64 n, .map (some k)] 182)
  have al := (Below.refl w.heap.size w).alloc (Nat.le_refl _) (.cells #[.int .i64 n, .map (some k)] 182)
  have qT : ∀ (w : World) (r : Option Nat), (binOp .eql 173 (.map r) (.map none)).run Try.prog w = .ok (.bool r.isNone) w := fun w r => run_eql_map_nil w _ _ _ r Try.underlying173
  go_enter Try.func93, Try.ntmps93
  go_upto_region 1 with (fail)
  have hml : m < w.heap.size := q.M.lt
  clear q
  generalize w.alloc (.cells #[.int .i64 n, .map (some k)] 182) = w1 at *
  have g0 : w1.cell? ⟨g, 0, none⟩ = some (.map (some m)) := q1.B.cell 0
  have x0 : w1.cell? ⟨w.heap.size, 0, none⟩ = some (.int .i64 n) := X1.cell 0
  have x1 : w1.cell? ⟨w.heap.size, 1, none⟩ = some (.map (some k)) := X1.cell 1
  have up := up_new (P := Try.prog) (a := id) uMO uU q1.drew.M (.agg #[.int .i64 n, .map (some k)]) rfl
  go_wp2_with fail
  go_region
  go_wp2_with fail
  go_end0
  exact ⟨rfl, ⟨_, _, q1.drew.M.set_ _ _⟩, fun b hb hbm => (q1.drew.M.other _ _ hbm).trans (al.block b hb), q1.drew.M.bel bel1.drew q1.hm _ _⟩
end Go.Proofs.Ythddacgdmngfhaa.fil
