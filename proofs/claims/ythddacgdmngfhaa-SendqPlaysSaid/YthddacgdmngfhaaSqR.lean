/- Layer 20: what a message is made of in the statement: a region that draws its order, over any act (gen-sqr.py wrote this). -/
import Derived.Test.YthddacgdmngfhaaSqH
import Derived.Test.YthddacgdmngfhaaKitT
namespace Go.Proofs.Ythddacgdmngfhaa.fra
open Go.Sort (grow)
open Go.ChangeShapes Go.WideShapes Go.ChangeAt Go.RowKit kit byt fil
set_option maxRecDepth 1000000
section
variable {P : Program}
theorem run_rem {oi : Oper} {a : Act} {x y : Operand} {tx ty : TypeId} {s j u : Value} {v : World} (ho : oi.op = .binOp .rem tx x y ty) (hx : a.eval x = s) (hy : a.eval y = j) (hr : (binOp .rem tx s j).run P v = .ok u v) : (execOp a.eval oi).run P v = .ok (.value u) v := by
  unfold execOp
  simp [ho, hx, hy, eqGuard, hr]
theorem run_and {oi : Oper} {a : Act} {x y : Operand} {tx ty : TypeId} {s j u : Value} {v : World} (ho : oi.op = .binOp .and tx x y ty) (hx : a.eval x = s) (hy : a.eval y = j) (hr : (binOp .and tx s j).run P v = .ok u v) : (execOp a.eval oi).run P v = .ok (.value u) v := by
  unfold execOp
  simp [ho, hx, hy, eqGuard, hr]
theorem run_len1 {oi : Oper} {a : Act} {x : Operand} {tx : TypeId} {s u : Value} {v : World} (ho : oi.op = .call { callee := .builtin .len, args := #[x], argTypes := #[tx] }) (hx : a.eval x = s) (hr : ∀ cs, (builtin .len #[tx] oi.type cs #[s]).run P v = .ok (.value u) v) : (execOp a.eval oi).run P v = .ok (.value u) v := by
  unfold execOp
  simp [ho, resolve, invoke, hx, hr]
theorem run_min2 {oi : Oper} {a : Act} {x y : Operand} {tx ty : TypeId} {s j u : Value} {v : World} (ho : oi.op = .call { callee := .builtin .min, args := #[x, y], argTypes := #[tx, ty] }) (hx : a.eval x = s) (hy : a.eval y = j) (hr : ∀ cs, (builtin .min #[tx, ty] oi.type cs #[s, j]).run P v = .ok (.value u) v) : (execOp a.eval oi).run P v = .ok (.value u) v := by
  unfold execOp
  simp [ho, resolve, invoke, hx, hy, hr]
theorem run_slice_hiS {oi : Oper} {a : Act} {x h : Operand} {ty : TypeId} {s j u : Value} {v : World} (ho : oi.op = .slice ty x none (some h) none) (hx : a.eval x = s) (hh : a.eval h = j) (hr : (Instr.sliceAt ty s none (some j) none).run P v = .ok u v) : (execOp a.eval oi).run P v = .ok (.value u) v := by
  unfold execOp
  simp [ho, hx, hh, hr]
end
/-- The world within the region. -/
structure St12 (w0 : World) (ab mb : Nat) (X Y : Array Value) (v : World) : Prop where
  A : Blk v ab 32 X
  M : Blk v mb 30 Y
  S : w0.heap.size ≤ v.heap.size
  F : ∀ k, k ≠ mb → k < w0.heap.size → v.heap[k]? = w0.heap[k]?
  E : Below mb w0 v
theorem St12.mz {w0 v : World} {ab mb : Nat} {X Y : Array Value} (s : St12 w0 ab mb X Y v) (m : Nat) : St12 w0 ab mb X Y (fil.mz m v) := by
  have hB : Below v.heap.size v (fil.mz m v) := mz_below m _
  exact ⟨Blk.below s.A hB s.A.lt, Blk.below s.M hB s.M.lt, Nat.le_trans s.S hB.size, fun k h1 h2 => (hB.block k (Nat.lt_of_lt_of_le h2 s.S)).trans (s.F k h1 h2), s.E.trans (hB.mono (Nat.le_of_lt s.M.lt))⟩
theorem St12.store {w0 v : World} {ab mb : Nat} {X Y : Array Value} (s : St12 w0 ab mb X Y v) (hne : ab ≠ mb) (k : Nat) (u : Value) : St12 w0 ab mb X (Y.setIfInBounds k u) (v.setCell ⟨mb, k, none⟩ u) :=
  ⟨Blk.far (p := ⟨mb, k, none⟩) s.A hne u, s.M.set_ k u, by simpa [World.setCell] using s.S, fun j h1 h2 => (Below.heap_setCell v ⟨mb, k, none⟩ u j h1).trans (s.F j h1 h2), s.E.setCell (p := ⟨mb, k, none⟩) (Nat.le_refl _) u⟩
theorem St12.store0 {w0 v : World} {ab mb : Nat} {X : Array Value} {a b c d e : Value} (s : St12 w0 ab mb X #[a, b, c, d, e] v) (hne : ab ≠ mb) (u : Value) : St12 w0 ab mb X #[u, b, c, d, e] (v.setCell ⟨mb, 0, none⟩ u) := s.store hne 0 u
theorem St12.store4 {w0 v : World} {ab mb : Nat} {X : Array Value} {a b c d e : Value} (s : St12 w0 ab mb X #[a, b, c, d, e] v) (hne : ab ≠ mb) (u : Value) : St12 w0 ab mb X #[a, b, c, d, u] (v.setCell ⟨mb, 4, none⟩ u) := s.store hne 4 u
theorem bytes_far {w : World} {g : Nat} {l : List UInt8} (h : IsBytes w g l) {p : Addr} (hp : p.block ≠ g) (u : Value) : IsBytes (w.setCell p u) g l := by
  obtain ⟨h1, h2⟩ := h
  refine ⟨by simpa [World.setCell] using h1, fun j hj => ⟨?_, ?_⟩⟩
  · rw [World.cell?_setCell_other w _ _ _ (by intro e; exact hp (by rw [e]))]
    exact (h2 j hj).1
  · rw [World.frozen?_setCell]
    exact (h2 j hj).2
section
variable {P : Program} {ops : Array Oper} {Q : Exit → Act → World → Prop} {S : World → Prop}
theorem step_two {i j : Nat} {fuel : Nat} {L : Array Bool} {a : Act} {w : World} (hr : Region.ready .any ops L = [i, j])
    (h1 : wpOp P ops Q i (fun a' w' => S w' ∧ wpAnyH P .any ops Q S fuel (L.setIfInBounds i true) a' w') a w) (h2 : wpOp P ops Q j (fun a' w' => S w' ∧ wpAnyH P .any ops Q S fuel (L.setIfInBounds j true) a' w') a w) : wpAnyH P .any ops Q S (fuel + 1) L a w :=
  wpAnyH_step hr (by simp) fun k hk => by
    rcases List.mem_cons.1 hk with rfl | hk
    · exact h1
    · obtain rfl : k = j := by simpa using hk
      exact h2
theorem op_val {i : Nat} {o : Oper} {u : Value} {d fuel : Nat} {L : Array Bool} {a : Act} {w w' : World} (hi : ops[i]? = some o) (hg : o.guard = none) (hd : o.dst = some d) (hS : S w') (hrun : (execOp a.eval o).run P w = .ok (.value u) w')
    (h : wpAnyH P .any ops Q S fuel (L.setIfInBounds i true) (a.put (some d) u) w') : wpOp P ops Q i (fun a' w' => S w' ∧ wpAnyH P .any ops Q S fuel (L.setIfInBounds i true) a' w') a w := wpOp_of hi hg (wp_val hrun hd ⟨hS, h⟩)
theorem op_store {i : Nat} {o : Oper} {x y : Operand} {ty : TypeId} {p u : Value} {fuel : Nat} {L : Array Bool} {a : Act} {w w' : World} (hi : ops[i]? = some o) (hg : o.guard = none) (ho : o.op = .store ty x y) (hd : o.dst = none) (hx : a.eval x = p) (hy : a.eval y = u) (hS : S w') (hrun : (Instr.storeAt ty p u).run P w = .ok () w')
    (h : wpAnyH P .any ops Q S fuel (L.setIfInBounds i true) a w') : wpOp P ops Q i (fun a' w' => S w' ∧ wpAnyH P .any ops Q S fuel (L.setIfInBounds i true) a' w') a w := wpOp_of hi hg (wp_store1 ho hd hx hy hrun ⟨hS, h⟩)
theorem run_mk {oi : Oper} {a : Act} {x : Operand} {ty : TypeId} {j u : Value} {v v' : World} (ho : oi.op = .makeSlice ty x x) (hx : a.eval x = j) (hr : (Instr.makeSlice ty j j).run P v = .ok u v') : (execOp a.eval oi).run P v = .ok (.value u) v' := by
  unfold execOp
  simp [ho, hx, hr]
theorem st_int {w : World} {h o : Nat} {v0 : Value} (x : Int) (c : w.cell? ⟨h, o, none⟩ = some v0) (f : w.frozen? ⟨h, o, none⟩ = false) : (Instr.storeAt 3 (.pointer (some ⟨h, o, none⟩)) (.int .i64 x)).run Try.prog w = .ok () (w.setCell ⟨h, o, none⟩ (.int .i64 x)) := by go_simp
theorem st_str {w : World} {h o : Nat} {v0 : Value} (x : ByteArray) (c : w.cell? ⟨h, o, none⟩ = some v0) (f : w.frozen? ⟨h, o, none⟩ = false) : (Instr.storeAt 9 (.pointer (some ⟨h, o, none⟩)) (.string x)).run Try.prog w = .ok () (w.setCell ⟨h, o, none⟩ (.string x)) := by go_simp
theorem run_cv {oi : Oper} {a : Act} {x : Operand} {t1 t2 : TypeId} {s u : Value} {v v' : World} (ho : oi.op = .convert t1 t2 x) (hx : a.eval x = s) (hr : (convert t1 t2 s).run P v = .ok u v') : (execOp a.eval oi).run P v = .ok (.value u) v' := by
  unfold execOp
  simp [ho, hx, hr]
end
def findReg (k : Nat) : Code → Option Code
  | .region i o d => if i = k then some (.region i o d) else none
  | .loop c => findReg k c
  | .seq a b => match findReg k a with
    | some c => some c
    | none => findReg k b
  | .block _ c => findReg k c
  | .scope c => findReg k c
  | .cond _ a b => match findReg k a with
    | some c => some c
    | none => findReg k b
  | _ => none
noncomputable def reg12 : Code := (Try.f3.body.bind (findReg 12)).getD .skip
set_option maxHeartbeats 4000000 in
theorem r12 (a : Act) (w : World) (ab mb m q : Nat) (aw st ss pr lg un : Int) (lo : Bool) (d : ByteArray) (hne : ab ≠ mb) (hq : min d.size 5 = q) (hm : bits .and .i64 lg 4095 = (m : Int)) (hm1 : m ≤ 4095) (hd : d.size ≤ maxLen)
    (A5 : Blk w ab 32 #[.int .i64 aw, .int .i64 st, .int .i64 ss, .bool lo, .int .u32 pr, .string d, .int .i64 lg, .int .i64 un]) (M5 : Blk w mb 30 #[.int .i64 st, .int .i64 ss, .bool lo, .int .u32 pr, .string d])
    (hsz : a.tmps.size = 231) (h11 : a.eval (.tmp 11) = .pointer (some ⟨ab, 0, none⟩)) (h17 : a.eval (.tmp 17) = .pointer (some ⟨mb, 0, none⟩))
    (Q : Exit → Act → World → Prop) (hfin : ∀ (u66 : Value) (w' : World), Blk w' mb 30 #[.int .i64 (st.tmod 20), .int .i64 ss, .bool lo, .int .u32 pr, .string (d.extract 0 q ++ Zs m)] → w.heap.size ≤ w'.heap.size → (∀ k, k ≠ mb → k < w.heap.size → w'.heap[k]? = w.heap[k]?) → Below mb w w' →
      Q .normal (((((((((((((((((((((a.put (some 50) (.pointer (some ⟨ab, 1, none⟩))).put (some 51) (.pointer (some ⟨ab, 1, none⟩))).put (some 52) (.int .i64 st)).put (some 53) (.int .i64 (st.tmod 20))).put (some 54) (.pointer (some ⟨ab, 1, none⟩))).put (some 55) (.pointer (some ⟨ab, 5, none⟩))).put (some 56) (.string d)).put (some 57) (.pointer (some ⟨ab, 1, none⟩))).put (some 58) (.pointer (some ⟨ab, 5, none⟩))).put (some 59) (.string d)).put (some 60) (.int .i64 d.size)).put (some 61) (.int .i64 q)).put (some 62) (.string (d.extract 0 q))).put (some 63) (.pointer (some ⟨ab, 6, none⟩))).put (some 64) (.int .i64 lg)).put (some 65) (.int .i64 m)).put (some 69) (.pointer (some ⟨mb, 0, none⟩))).put (some 66) u66).put (some 67) (.string (Zs m))).put (some 68) (.string (d.extract 0 q ++ Zs m))).put (some 70) (.pointer (some ⟨mb, 4, none⟩))) w')
    (c : Code) (hc : c = reg12) : Code.wp Try.prog c Q a w := by
  subst hc
  conv => arg 2; whnf
  have HF := Lib.hid hfin
  clear hfin
  unfold maxLen at hd
  have hrem : ∀ v, (binOp .rem 3 (.int .i64 st) (.int .i64 20)).run Try.prog v = .ok (.int .i64 (st.tmod 20)) v := fun v => by go_simp
  have hand : ∀ v, (binOp .and 3 (.int .i64 lg) (.int .i64 4095)).run Try.prog v = .ok (.int .i64 m) v := fun v => by go_simp; try simp [hm]
  have hlen : ∀ v cs, (builtin .len #[9] 3 cs #[.string d]).run Try.prog v = .ok (.value (.int .i64 d.size)) v := fun v cs => by go_simp
  have hmin : ∀ v cs, (builtin .min #[3, 3] 3 cs #[.int .i64 d.size, .int .i64 5]).run Try.prog v = .ok (.value (.int .i64 q)) v := fun v cs => by
    unfold builtin
    by_cases h5 : (d.size : Int) ≤ 5
    · obtain rfl : d.size = q := by omega
      first | (go_simp; done) | (go_simp; omega)
    · obtain rfl : q = 5 := by omega
      first | (go_simp; done) | (go_simp; omega)
  have hsl : ∀ v, (Instr.sliceAt 9 (.string d) none (some (.int .i64 q)) none).run Try.prog v = .ok (.string (d.extract 0 q)) v := fun v => by
    have h1 : (q : Int) ≤ (d.size : Int) := by omega
    have h2 : q ≤ d.size := by omega
    go_simp
  have HC := Lib.hid (show ∀ v : World, Blk v ab 32 #[.int .i64 aw, .int .i64 st, .int .i64 ss, .bool lo, .int .u32 pr, .string d, .int .i64 lg, .int .i64 un] → (v.cell? ⟨ab, 1, none⟩ = some (.int .i64 st) ∧ v.cell? ⟨ab, 5, none⟩ = some (.string d) ∧ v.cell? ⟨ab, 6, none⟩ = some (.int .i64 lg)) from fun v B => ⟨B.cell 1, B.cell 5, B.cell 6⟩)
  have HS0 := Lib.hid (show Blk w.drew ab 32 #[.int .i64 aw, .int .i64 st, .int .i64 ss, .bool lo, .int .u32 pr, .string d, .int .i64 lg, .int .i64 un] from A5)
  have HM := Lib.hid M5
  clear A5 M5 hd hm
  refine wp_region_noPanic ?_
  refine wp_region_held_drew (S := fun v => Blk v ab 32 #[.int .i64 aw, .int .i64 st, .int .i64 ss, .bool lo, .int .u32 pr, .string d, .int .i64 lg, .int .i64 un]) (by kernel_rfl) HS0.out (fun _ => ?_)
  refine take_run (i := 0) (u := (.pointer (some ⟨ab, 1, none⟩))) rfl (by kernel_rfl) (by kernel_rfl) (by kernel_rfl) rfl rfl (fun _ _ _ h => h) HS0.out (fun v hv => run_field (s := .pointer (some ⟨ab, 0, none⟩)) rfl (by simp [h11]) (by kernel_rfl)) ?_
  refine take_run (i := 1) (u := (.pointer (some ⟨ab, 1, none⟩))) rfl (by kernel_rfl) (by kernel_rfl) (by kernel_rfl) rfl rfl (fun _ _ _ h => h) HS0.out (fun v hv => run_field (s := .pointer (some ⟨ab, 1, none⟩)) rfl (by simp [Act.eval_put_same, hsz]) (by kernel_rfl)) ?_
  refine take_run (i := 2) (u := (.int .i64 st)) rfl (by kernel_rfl) (by kernel_rfl) (by kernel_rfl) rfl rfl (fun _ _ _ h => h) HS0.out (fun v hv => run_load1 (s := .pointer (some ⟨ab, 1, none⟩)) rfl (by simp [Act.eval_put_same, Act.size_put, hsz]) (by have c := HC.out v hv; obtain ⟨c1, c5, c6⟩ := c; go_simp)) ?_
  refine take_run (i := 3) (u := (.int .i64 (st.tmod 20))) rfl (by kernel_rfl) (by kernel_rfl) (by kernel_rfl) rfl rfl (fun _ _ _ h => h) HS0.out (fun v hv => run_rem (s := .int .i64 st) (j := .int .i64 20) rfl (by simp [Act.eval_put_same, Act.size_put, hsz]) rfl (hrem v)) ?_
  refine take_run (i := 4) (u := (.pointer (some ⟨ab, 1, none⟩))) rfl (by kernel_rfl) (by kernel_rfl) (by kernel_rfl) rfl rfl (fun _ _ _ h => h) HS0.out (fun v hv => run_field (s := .pointer (some ⟨ab, 0, none⟩)) rfl (by simp [Act.eval_put_ne, h11]) (by kernel_rfl)) ?_
  refine take_run (i := 5) (u := (.pointer (some ⟨ab, 5, none⟩))) rfl (by kernel_rfl) (by kernel_rfl) (by kernel_rfl) rfl rfl (fun _ _ _ h => h) HS0.out (fun v hv => run_field (s := .pointer (some ⟨ab, 1, none⟩)) rfl (by simp [Act.eval_put_same, Act.size_put, hsz]) (by kernel_rfl)) ?_
  refine take_run (i := 6) (u := (.string d)) rfl (by kernel_rfl) (by kernel_rfl) (by kernel_rfl) rfl rfl (fun _ _ _ h => h) HS0.out (fun v hv => run_load1 (s := .pointer (some ⟨ab, 5, none⟩)) rfl (by simp [Act.eval_put_same, Act.size_put, hsz]) (by have c := HC.out v hv; obtain ⟨c1, c5, c6⟩ := c; go_simp)) ?_
  refine take_run (i := 7) (u := (.pointer (some ⟨ab, 1, none⟩))) rfl (by kernel_rfl) (by kernel_rfl) (by kernel_rfl) rfl rfl (fun _ _ _ h => h) HS0.out (fun v hv => run_field (s := .pointer (some ⟨ab, 0, none⟩)) rfl (by simp [Act.eval_put_ne, h11]) (by kernel_rfl)) ?_
  refine take_run (i := 8) (u := (.pointer (some ⟨ab, 5, none⟩))) rfl (by kernel_rfl) (by kernel_rfl) (by kernel_rfl) rfl rfl (fun _ _ _ h => h) HS0.out (fun v hv => run_field (s := .pointer (some ⟨ab, 1, none⟩)) rfl (by simp [Act.eval_put_same, Act.size_put, hsz]) (by kernel_rfl)) ?_
  refine take_run (i := 9) (u := (.string d)) rfl (by kernel_rfl) (by kernel_rfl) (by kernel_rfl) rfl rfl (fun _ _ _ h => h) HS0.out (fun v hv => run_load1 (s := .pointer (some ⟨ab, 5, none⟩)) rfl (by simp [Act.eval_put_same, Act.size_put, hsz]) (by have c := HC.out v hv; obtain ⟨c1, c5, c6⟩ := c; go_simp)) ?_
  refine take_run (i := 10) (u := (.int .i64 d.size)) rfl (by kernel_rfl) (by kernel_rfl) (by kernel_rfl) rfl rfl (fun _ _ _ h => h) HS0.out (fun v hv => run_len1 rfl (by simp [Act.eval_put_same, Act.size_put, hsz]) (hlen v)) ?_
  refine take_run (i := 11) (u := (.int .i64 q)) rfl (by kernel_rfl) (by kernel_rfl) (by kernel_rfl) rfl rfl (fun _ _ _ h => h) HS0.out (fun v hv => run_min2 (s := .int .i64 d.size) (j := .int .i64 5) rfl (by simp [Act.eval_put_same, Act.size_put, hsz]) rfl (hmin v)) ?_
  refine take_run (i := 12) (u := (.string (d.extract 0 q))) rfl (by kernel_rfl) (by kernel_rfl) (by kernel_rfl) rfl rfl (fun _ _ _ h => h) HS0.out (fun v hv => run_slice_hiS (s := .string d) (j := .int .i64 q) rfl (by simp [Act.eval_put_ne, Act.eval_put_same, Act.size_put, hsz]) (by simp [Act.eval_put_same, Act.size_put, hsz]) (hsl v)) ?_
  refine take_run (i := 13) (u := (.pointer (some ⟨ab, 6, none⟩))) rfl (by kernel_rfl) (by kernel_rfl) (by kernel_rfl) rfl rfl (fun _ _ _ h => h) HS0.out (fun v hv => run_field (s := .pointer (some ⟨ab, 0, none⟩)) rfl (by simp [Act.eval_put_ne, h11]) (by kernel_rfl)) ?_
  refine take_run (i := 14) (u := (.int .i64 lg)) rfl (by kernel_rfl) (by kernel_rfl) (by kernel_rfl) rfl rfl (fun _ _ _ h => h) HS0.out (fun v hv => run_load1 (s := .pointer (some ⟨ab, 6, none⟩)) rfl (by simp [Act.eval_put_same, Act.size_put, hsz]) (by have c := HC.out v hv; obtain ⟨c1, c5, c6⟩ := c; go_simp)) ?_
  refine take_run (i := 15) (u := (.int .i64 m)) rfl (by kernel_rfl) (by kernel_rfl) (by kernel_rfl) rfl rfl (fun _ _ _ h => h) HS0.out (fun v hv => run_and (s := .int .i64 lg) (j := .int .i64 4095) rfl (by simp [Act.eval_put_same, Act.size_put, hsz]) rfl (hand v)) ?_
  refine take_run (i := 19) (u := (.pointer (some ⟨mb, 0, none⟩))) rfl (by kernel_rfl) (by kernel_rfl) (by kernel_rfl) rfl rfl (fun _ _ _ h => h) HS0.out (fun v hv => run_field (s := .pointer (some ⟨mb, 0, none⟩)) rfl (by simp [Act.eval_put_ne, h17]) (by kernel_rfl)) ?_
  refine wpAnyH_abs _ (fun b hb => ?_)
  have bsz : b.tmps.size = 231 := by rw [hb]; simp [Act.size_put, hsz]
  have b17 : b.eval (.tmp 17) = .pointer (some ⟨mb, 0, none⟩) := by rw [hb]; simp [Act.eval_put_ne, h17]
  have b53 : b.eval (.tmp 53) = .int .i64 (st.tmod 20) := by rw [hb]; simp [Act.eval_put_ne, Act.eval_put_same, Act.size_put, hsz]
  have b62 : b.eval (.tmp 62) = .string (d.extract 0 q) := by rw [hb]; simp [Act.eval_put_ne, Act.eval_put_same, Act.size_put, hsz]
  have b65 : b.eval (.tmp 65) = .int .i64 m := by rw [hb]; simp [Act.eval_put_ne, Act.eval_put_same, Act.size_put, hsz]
  have b69 : b.eval (.tmp 69) = .pointer (some ⟨mb, 0, none⟩) := by rw [hb]; simp [Act.eval_put_ne, Act.eval_put_same, Act.size_put, hsz]
  have HB := Lib.hid hb
  clear hb
  have hcat : ∀ v, (binOp .add 9 (.string (d.extract 0 q)) (.string (Zs m))).run Try.prog v = .ok (.string (d.extract 0 q ++ Zs m)) v := fun v => by
    have h1 : (d.extract 0 q).size + (Zs m).size ≤ 10000 := by rw [Zs_size, ByteArray.size_extract]; omega
    rw [ByteArray.size_extract] at h1
    go_simp
    omega
  have s0 : St12 w ab mb #[.int .i64 aw, .int .i64 st, .int .i64 ss, .bool lo, .int .u32 pr, .string d, .int .i64 lg, .int .i64 un] #[.int .i64 st, .int .i64 ss, .bool lo, .int .u32 pr, .string d] w.drew := ⟨HS0.out, HM.out, Nat.le_refl _, fun _ _ _ => rfl, (Below.refl mb w).drew⟩
  have hmlt : mb < w.heap.size := HM.out.lt
  clear HS0 HM HC hrem hand hlen hmin hsl
  refine step_two (i := 16) (j := 20) (by kernel_rfl) ?_ ?_
  · skip
    have t0 := s0.mz m
    have hy0 : IsBytes (mz m w.drew) w.drew.heap.size (List.replicate m 0) := mz_bytes m _
    refine op_val (i := 16) (u := .slice (some ⟨w.drew.heap.size, 0, none⟩) m m) (w' := (mz m w.drew))  rfl rfl rfl t0.A (run_mk (j := .int .i64 m) rfl (by simp [b65]) (mz_run m _ (by omega))) ?_
    refine step_two (i := 17) (j := 20) (by kernel_rfl) ?_ ?_
    · skip
      refine op_val (i := 17) (u := .string (Zs m)) (w' := (mz m w.drew))  rfl rfl rfl t0.A (run_cv (s := .slice (some ⟨w.drew.heap.size, 0, none⟩) m m) rfl (by simp [Act.eval_put_same, bsz]) (conv_bytes Try.underlying45 Try.underlying5 Try.underlying9 hy0 m m (by simp))) ?_
      refine take_run (i := 18) (u := .string (d.extract 0 q ++ Zs m)) rfl (by kernel_rfl) (by kernel_rfl) (by kernel_rfl) rfl rfl (fun _ _ _ h => h) t0.A (fun v _ => run_add (s := .string (d.extract 0 q)) (j := .string (Zs m)) rfl (by simp [Act.eval_put_ne, b62]) (by simp [Act.eval_put_same, Act.size_put, bsz]) (hcat v)) ?_
      have t3 := t0.store0 hne (.int .i64 (st.tmod 20))
      have c3 : (mz m w.drew).cell? ⟨mb, 0, none⟩ = some (.int .i64 st) := t0.M.cell 0
      have f3 : (mz m w.drew).frozen? ⟨mb, 0, none⟩ = false := t0.M.frozen 0
      have hy3 : IsBytes ((mz m w.drew).setCell ⟨mb, 0, none⟩ (.int .i64 (st.tmod 20))) w.drew.heap.size (List.replicate m 0) := bytes_far hy0 (by have := hmlt; simp; omega) _
      refine step_store (i := 20) (p := .pointer (some ⟨mb, 0, none⟩)) (u := .int .i64 (st.tmod 20)) (w' := ((mz m w.drew).setCell ⟨mb, 0, none⟩ (.int .i64 (st.tmod 20)))) (by kernel_rfl) rfl rfl rfl rfl (by simp [Act.eval_put_ne, b69]) (by simp [Act.eval_put_ne, b53]) t3.A (st_int _ c3 f3) ?_
      refine take_run (i := 21) (u := .pointer (some ⟨mb, 4, none⟩)) rfl (by kernel_rfl) (by kernel_rfl) (by kernel_rfl) rfl rfl (fun _ _ _ h => h) t3.A (fun v _ => run_field (s := .pointer (some ⟨mb, 0, none⟩)) rfl (by simp [Act.eval_put_ne, b17]) (by kernel_rfl)) ?_
      have t5 := t3.store4 hne (.string (d.extract 0 q ++ Zs m))
      have c5 : ((mz m w.drew).setCell ⟨mb, 0, none⟩ (.int .i64 (st.tmod 20))).cell? ⟨mb, 4, none⟩ = some (.string d) := t3.M.cell 4
      have f5 : ((mz m w.drew).setCell ⟨mb, 0, none⟩ (.int .i64 (st.tmod 20))).frozen? ⟨mb, 4, none⟩ = false := t3.M.frozen 4
      refine step_store (i := 22) (p := .pointer (some ⟨mb, 4, none⟩)) (u := .string (d.extract 0 q ++ Zs m)) (w' := (((mz m w.drew).setCell ⟨mb, 0, none⟩ (.int .i64 (st.tmod 20))).setCell ⟨mb, 4, none⟩ (.string (d.extract 0 q ++ Zs m)))) (by kernel_rfl) rfl rfl rfl rfl (by simp [Act.eval_put_same, Act.size_put, bsz]) (by simp [Act.eval_put_ne, Act.eval_put_same, Act.size_put, bsz]) t5.A (st_str _ c5 f5) ?_
      refine wpAnyH_done (by kernel_rfl) ?_ _
      refine NoPanic.normal ?_
      rw [HB.out]
      exact HF.out _ _ t5.M t5.S t5.F t5.E
    · skip
      have t1 := t0.store0 hne (.int .i64 (st.tmod 20))
      have c1 : (mz m w.drew).cell? ⟨mb, 0, none⟩ = some (.int .i64 st) := t0.M.cell 0
      have f1 : (mz m w.drew).frozen? ⟨mb, 0, none⟩ = false := t0.M.frozen 0
      have hy1 : IsBytes ((mz m w.drew).setCell ⟨mb, 0, none⟩ (.int .i64 (st.tmod 20))) w.drew.heap.size (List.replicate m 0) := bytes_far hy0 (by have := hmlt; simp; omega) _
      refine op_store (i := 20) (p := .pointer (some ⟨mb, 0, none⟩)) (u := .int .i64 (st.tmod 20)) (w' := ((mz m w.drew).setCell ⟨mb, 0, none⟩ (.int .i64 (st.tmod 20))))  rfl rfl rfl rfl (by simp [Act.eval_put_ne, b69]) (by simp [Act.eval_put_ne, b53]) t1.A (st_int _ c1 f1) ?_
      refine step_val (i := 17) (u := .string (Zs m)) (w' := ((mz m w.drew).setCell ⟨mb, 0, none⟩ (.int .i64 (st.tmod 20)))) (by kernel_rfl) rfl rfl rfl t1.A (run_cv (s := .slice (some ⟨w.drew.heap.size, 0, none⟩) m m) rfl (by simp [Act.eval_put_same, bsz]) (conv_bytes Try.underlying45 Try.underlying5 Try.underlying9 hy1 m m (by simp))) ?_
      refine take_run (i := 18) (u := .string (d.extract 0 q ++ Zs m)) rfl (by kernel_rfl) (by kernel_rfl) (by kernel_rfl) rfl rfl (fun _ _ _ h => h) t1.A (fun v _ => run_add (s := .string (d.extract 0 q)) (j := .string (Zs m)) rfl (by simp [Act.eval_put_ne, b62]) (by simp [Act.eval_put_same, Act.size_put, bsz]) (hcat v)) ?_
      refine take_run (i := 21) (u := .pointer (some ⟨mb, 4, none⟩)) rfl (by kernel_rfl) (by kernel_rfl) (by kernel_rfl) rfl rfl (fun _ _ _ h => h) t1.A (fun v _ => run_field (s := .pointer (some ⟨mb, 0, none⟩)) rfl (by simp [Act.eval_put_ne, b17]) (by kernel_rfl)) ?_
      have t5 := t1.store4 hne (.string (d.extract 0 q ++ Zs m))
      have c5 : ((mz m w.drew).setCell ⟨mb, 0, none⟩ (.int .i64 (st.tmod 20))).cell? ⟨mb, 4, none⟩ = some (.string d) := t1.M.cell 4
      have f5 : ((mz m w.drew).setCell ⟨mb, 0, none⟩ (.int .i64 (st.tmod 20))).frozen? ⟨mb, 4, none⟩ = false := t1.M.frozen 4
      refine step_store (i := 22) (p := .pointer (some ⟨mb, 4, none⟩)) (u := .string (d.extract 0 q ++ Zs m)) (w' := (((mz m w.drew).setCell ⟨mb, 0, none⟩ (.int .i64 (st.tmod 20))).setCell ⟨mb, 4, none⟩ (.string (d.extract 0 q ++ Zs m)))) (by kernel_rfl) rfl rfl rfl rfl (by simp [Act.eval_put_same, Act.size_put, bsz]) (by simp [Act.eval_put_ne, Act.eval_put_same, Act.size_put, bsz]) t5.A (st_str _ c5 f5) ?_
      refine wpAnyH_done (by kernel_rfl) ?_ _
      refine NoPanic.normal ?_
      rw [HB.out]
      exact HF.out _ _ t5.M t5.S t5.F t5.E
  · skip
    have t0 := s0.store0 hne (.int .i64 (st.tmod 20))
    have c0 : w.drew.cell? ⟨mb, 0, none⟩ = some (.int .i64 st) := s0.M.cell 0
    have f0 : w.drew.frozen? ⟨mb, 0, none⟩ = false := s0.M.frozen 0
    refine op_store (i := 20) (p := .pointer (some ⟨mb, 0, none⟩)) (u := .int .i64 (st.tmod 20)) (w' := (w.drew.setCell ⟨mb, 0, none⟩ (.int .i64 (st.tmod 20))))  rfl rfl rfl rfl (by simp [b69]) (by simp [b53]) t0.A (st_int _ c0 f0) ?_
    have t1 := t0.mz m
    have hy1 : IsBytes (mz m (w.drew.setCell ⟨mb, 0, none⟩ (.int .i64 (st.tmod 20)))) (w.drew.setCell ⟨mb, 0, none⟩ (.int .i64 (st.tmod 20))).heap.size (List.replicate m 0) := mz_bytes m _
    refine step_val (i := 16) (u := .slice (some ⟨(w.drew.setCell ⟨mb, 0, none⟩ (.int .i64 (st.tmod 20))).heap.size, 0, none⟩) m m) (w' := (mz m (w.drew.setCell ⟨mb, 0, none⟩ (.int .i64 (st.tmod 20))))) (by kernel_rfl) rfl rfl rfl t1.A (run_mk (j := .int .i64 m) rfl (by simp [b65]) (mz_run m _ (by omega))) ?_
    refine step_val (i := 17) (u := .string (Zs m)) (w' := (mz m (w.drew.setCell ⟨mb, 0, none⟩ (.int .i64 (st.tmod 20))))) (by kernel_rfl) rfl rfl rfl t1.A (run_cv (s := .slice (some ⟨(w.drew.setCell ⟨mb, 0, none⟩ (.int .i64 (st.tmod 20))).heap.size, 0, none⟩) m m) rfl (by simp [Act.eval_put_same, bsz]) (conv_bytes Try.underlying45 Try.underlying5 Try.underlying9 hy1 m m (by simp))) ?_
    refine take_run (i := 18) (u := .string (d.extract 0 q ++ Zs m)) rfl (by kernel_rfl) (by kernel_rfl) (by kernel_rfl) rfl rfl (fun _ _ _ h => h) t1.A (fun v _ => run_add (s := .string (d.extract 0 q)) (j := .string (Zs m)) rfl (by simp [Act.eval_put_ne, b62]) (by simp [Act.eval_put_same, Act.size_put, bsz]) (hcat v)) ?_
    refine take_run (i := 21) (u := .pointer (some ⟨mb, 4, none⟩)) rfl (by kernel_rfl) (by kernel_rfl) (by kernel_rfl) rfl rfl (fun _ _ _ h => h) t1.A (fun v _ => run_field (s := .pointer (some ⟨mb, 0, none⟩)) rfl (by simp [Act.eval_put_ne, b17]) (by kernel_rfl)) ?_
    have t5 := t1.store4 hne (.string (d.extract 0 q ++ Zs m))
    have c5 : (mz m (w.drew.setCell ⟨mb, 0, none⟩ (.int .i64 (st.tmod 20)))).cell? ⟨mb, 4, none⟩ = some (.string d) := t1.M.cell 4
    have f5 : (mz m (w.drew.setCell ⟨mb, 0, none⟩ (.int .i64 (st.tmod 20)))).frozen? ⟨mb, 4, none⟩ = false := t1.M.frozen 4
    refine step_store (i := 22) (p := .pointer (some ⟨mb, 4, none⟩)) (u := .string (d.extract 0 q ++ Zs m)) (w' := ((mz m (w.drew.setCell ⟨mb, 0, none⟩ (.int .i64 (st.tmod 20)))).setCell ⟨mb, 4, none⟩ (.string (d.extract 0 q ++ Zs m)))) (by kernel_rfl) rfl rfl rfl rfl (by simp [Act.eval_put_same, Act.size_put, bsz]) (by simp [Act.eval_put_ne, Act.eval_put_same, Act.size_put, bsz]) t5.A (st_str _ c5 f5) ?_
    refine wpAnyH_done (by kernel_rfl) ?_ _
    refine NoPanic.normal ?_
    rw [HB.out]
    exact HF.out _ _ t5.M t5.S t5.F t5.E

end Go.Proofs.Ythddacgdmngfhaa.fra
