/- Layer 18: the document's own words of streams: its world. -/
import Derived.Test.YthddacgdmngfhaaDvF
import Derived.Test.YthddacgdmngfhaaKitDq
import Derived.Test.YthddacgdmngfhaaKitS
namespace Go.Proofs.Ythddacgdmngfhaa.del
open Go.Sort (grow)
open Go.ChangeShapes Go.WideShapes Go.ChangeAt Go.RowKit kit
set_option maxRecDepth 100000

def cellsN (P : List Nat) : List Value := P.map fun (p : Nat) => Value.int .i64 (p : Int)
theorem cellsN_one (P : List Nat) : ∀ u ∈ cellsN P, u.oneCell' = true := by
  intro u hu
  obtain ⟨p, _, rfl⟩ := List.mem_map.1 hu
  rfl
theorem cellsN_zero (P : List Nat) (m : Nat) : cellsN P ++ List.replicate m (.int .i64 0) = cellsN (P ++ List.replicate m 0) := by simp [cellsN]
theorem cellsN_get (P : List Nat) (k : Nat) (h : k < P.length) : (cellsN P)[k]? = some (.int .i64 (P[k] : Int)) := by simp [cellsN, h]
theorem cellsN_set (P : List Nat) (k p : Nat) : (cellsN P).set k (.int .i64 (p : Int)) = cellsN (P.set k p) := by simp [cellsN, List.map_set]
theorem infoI : (Try.prog.info? 3).map (fun i => (i.zero, i.size, i.bytes)) = some (some (.int .i64 0), 1, 8) := by kernel_rfl
theorem szR (a b c : Value) : (Try.prog.info? 87).map (·.size) = some (#[a, b, c] : Array Value).size := by show _ = some 3; kernel_rfl
theorem szX (x : Mg) : (Try.prog.info? 30).map (·.size) = some (mgc x).size := szM
/-- How far the walk through those that wait has come: was one taken, the others, what can be read. -/
def part (k n : Nat) (P Oc : List Mg) : Bool × List Mg × List Mg :=
  match pick k n P with
  | none => (false, P, Oc)
  | some (y, r) => (true, r, Oc ++ [y])
theorem pick_snoc {k n : Nat} {y : Mg} : ∀ {P : List Mg}, pick k n (P ++ [y]) = match pick k n P with | some (a, r) => some (a, r ++ [y]) | none => if hit k n y = true then some (y, P) else none
  | [] => by simp only [List.nil_append, pick]; split <;> simp_all
  | z :: P => by
    have ih := pick_snoc (k := k) (n := n) (y := y) (P := P)
    simp only [List.cons_append, pick]
    by_cases hz : hit k n z = true
    · rw [if_pos hz, if_pos hz]
    · rw [if_neg hz, if_neg hz, ih]
      cases pick k n P with
      | some q => rfl
      | none => by_cases hy : hit k n y = true <;> simp [hy]
theorem part_take {k n : Nat} {P Oc R Oi : List Mg} {y : Mg} (h : part k n P Oc = (false, R, Oi)) (hy : hit k n y = true) : part k n (P ++ [y]) Oc = (true, R, Oi ++ [y]) := by
  unfold part at *
  rw [pick_snoc]
  cases hp : pick k n P with
  | none => rw [hp] at h; cases h; simp [hy]
  | some q => rw [hp] at h; cases h
theorem part_leave {k n : Nat} {P Oc R Oi : List Mg} {y : Mg} {D : Bool} (h : part k n P Oc = (D, R, Oi)) (hy : D = true ∨ hit k n y = false) : part k n (P ++ [y]) Oc = (D, R ++ [y], Oi) := by
  unfold part at *
  rw [pick_snoc]
  cases hp : pick k n P with
  | none =>
    rw [hp] at h
    cases h
    have hy' : hit k n y = false := hy.resolve_left (by decide)
    simp [hy']
  | some q => rw [hp] at h; cases h; rfl
theorem part_pass {k n : Nat} {Wc Oc R Oi : List Mg} {D : Bool} (h : part k n Wc Oc = (D, R, Oi)) : pass k (n, Wc, Oc) = (if D then (n + 1) % 65536 else n, R, Oi) := by
  unfold part at h
  unfold pass
  cases hp : pick k n Wc with
  | none => rw [hp] at h; cases h; simp [hp]
  | some q => rw [hp] at h; cases h; simp [hp]
theorem part_len {k n : Nat} {P Oc R Oi : List Mg} {D : Bool} (h : part k n P Oc = (D, R, Oi)) : R.length + Oi.length = P.length + Oc.length := by
  unfold part at h
  cases hp : pick k n P with
  | none => rw [hp] at h; cases h; rfl
  | some q =>
    obtain ⟨y, r⟩ := q
    rw [hp] at h; cases h
    have := pick_len hp
    simp; omega
/-- The world of the document's Put: its streams, the message, what is answered; and its rows. -/
structure Rp (b0 bx : Nat) (nv wv ov : Value) (N : List Nat) (W O : List Mg) (x : Mg) (w : World) : Prop where
  B : Blk w bx 87 #[nv, wv, ov]
  M : Blk w (bx + 1) 30 (mgc x)
  Z : Blk w (bx + 2) 87 #[.slice none 0 0, .slice none 0 0, .slice none 0 0]
  n : Qo w b0 1 nv N.length (cellsN N)
  v : Qo w b0 5 wv W.length (cellsM W)
  o : Qo w b0 5 ov O.length (cellsM O)
  hn : ∀ k, blkOf nv = some k → k < bx ∨ bx + 2 < k
  hv : ∀ k, blkOf wv = some k → k < bx ∨ bx + 2 < k
  ho : ∀ k, blkOf ov = some k → k < bx ∨ bx + 2 < k
section
variable {b0 bx : Nat} {nv wv ov : Value} {N : List Nat} {W O : List Mg} {x : Mg} {w w' : World}
theorem Rp.below {k : Nat} (h : Rp b0 bx nv wv ov N W O x w) (hb : Below k w w') (hk : w.heap.size ≤ k) : Rp b0 bx nv wv ov N W O x w' :=
  ⟨h.B.below hb (Nat.lt_of_lt_of_le h.B.lt hk), h.M.below hb (Nat.lt_of_lt_of_le h.M.lt hk), h.Z.below hb (Nat.lt_of_lt_of_le h.Z.lt hk), h.n.below hb hk, h.v.below hb hk, h.o.below hb hk, h.hn, h.hv, h.ho⟩
theorem Rp.same (h : Rp b0 bx nv wv ov N W O x w) (hh : w'.heap = w.heap) : Rp b0 bx nv wv ov N W O x w' := by
  have e : ∀ k : Nat, w'.heap[k]? = w.heap[k]? := fun k => by rw [hh]
  have hs : w.heap.size ≤ w'.heap.size := by rw [hh]; exact Nat.le_refl _
  exact ⟨(e _).trans h.B, (e _).trans h.M, (e _).trans h.Z, h.n.block hs fun k _ => e k, h.v.block hs fun k _ => e k, h.o.block hs fun k _ => e k, h.hn, h.hv, h.ho⟩
theorem Rp.drew (h : Rp b0 bx nv wv ov N W O x w) : Rp b0 bx nv wv ov N W O x w.drew := h.same rfl
/-- Another row of what can be read. -/
theorem Rp.setO {b1 : Nat} {ov' : Value} {O' : List Mg} (h : Rp b0 bx nv wv ov N W O x w) (q : Qo w b1 5 ov' O'.length (cellsM O')) (hb : b0 ≤ b1) (hx : bx + 2 < b1) : Rp b0 bx nv wv ov' N W O' x (w.setCell ⟨bx, 2, none⟩ ov') := by
  have ho : ∀ k, blkOf ov' = some k → k < bx ∨ bx + 2 < k := fun k hk => by have := (q.lt hk).1; omega
  exact ⟨h.B.set_ 2 _, h.M.far (p := ⟨bx, 2, none⟩) (by show bx + 1 ≠ bx; omega) _, h.Z.far (p := ⟨bx, 2, none⟩) (by show bx + 2 ≠ bx; omega) _, h.n.far (p := ⟨bx, 2, none⟩) (fun e => by have := h.hn bx e; omega) _, h.v.far (p := ⟨bx, 2, none⟩) (fun e => by have := h.hv bx e; omega) _, (q.weaken hb).far (p := ⟨bx, 2, none⟩) (fun e => by have := ho bx e; omega) _, h.hn, h.hv, ho⟩
/-- Another row of those that wait. -/
theorem Rp.setV {b1 : Nat} {wv' : Value} {W' : List Mg} (h : Rp b0 bx nv wv ov N W O x w) (q : Qo w b1 5 wv' W'.length (cellsM W')) (hb : b0 ≤ b1) (hx : bx + 2 < b1) : Rp b0 bx nv wv' ov N W' O x (w.setCell ⟨bx, 1, none⟩ wv') := by
  have ho : ∀ k, blkOf wv' = some k → k < bx ∨ bx + 2 < k := fun k hk => by have := (q.lt hk).1; omega
  exact ⟨h.B.set_ 1 _, h.M.far (p := ⟨bx, 1, none⟩) (by show bx + 1 ≠ bx; omega) _, h.Z.far (p := ⟨bx, 1, none⟩) (by show bx + 2 ≠ bx; omega) _, h.n.far (p := ⟨bx, 1, none⟩) (fun e => by have := h.hn bx e; omega) _, (q.weaken hb).far (p := ⟨bx, 1, none⟩) (fun e => by have := ho bx e; omega) _, h.o.far (p := ⟨bx, 1, none⟩) (fun e => by have := h.ho bx e; omega) _, h.hn, ho, h.ho⟩
/-- Another row of next places. -/
theorem Rp.setP {b1 : Nat} {nv' : Value} {N' : List Nat} (h : Rp b0 bx nv wv ov N W O x w) (q : Qo w b1 1 nv' N'.length (cellsN N')) (hb : b0 ≤ b1) (hx : bx + 2 < b1) : Rp b0 bx nv' wv ov N' W O x (w.setCell ⟨bx, 0, none⟩ nv') := by
  have ho : ∀ k, blkOf nv' = some k → k < bx ∨ bx + 2 < k := fun k hk => by have := (q.lt hk).1; omega
  exact ⟨h.B.set_ 0 _, h.M.far (p := ⟨bx, 0, none⟩) (by show bx + 1 ≠ bx; omega) _, h.Z.far (p := ⟨bx, 0, none⟩) (by show bx + 2 ≠ bx; omega) _, (q.weaken hb).far (p := ⟨bx, 0, none⟩) (fun e => by have := ho bx e; omega) _, h.v.far (p := ⟨bx, 0, none⟩) (fun e => by have := h.hv bx e; omega) _, h.o.far (p := ⟨bx, 0, none⟩) (fun e => by have := h.ho bx e; omega) _, ho, h.hv, h.ho⟩
/-- What is answered with, behind its store. -/
theorem Rp.told (h : Rp b0 bx nv wv ov N W O x w) : Cel (w.setCells (bx + 2) 0 [nv, wv, ov]) (bx + 2) 0 #[nv, wv, ov] ∧ Qo (w.setCells (bx + 2) 0 [nv, wv, ov]) b0 1 nv N.length (cellsN N) ∧ Qo (w.setCells (bx + 2) 0 [nv, wv, ov]) b0 5 wv W.length (cellsM W) ∧ Qo (w.setCells (bx + 2) 0 [nv, wv, ov]) b0 5 ov O.length (cellsM O) ∧ Below bx w (w.setCells (bx + 2) 0 [nv, wv, ov]) := by
  have hs : ∀ k : Nat, k ≠ bx + 2 → (w.setCells (bx + 2) 0 [nv, wv, ov]).heap[k]? = w.heap[k]? := fun k hk => heap_setCells' hk _ _ _
  have hz : w.heap.size ≤ (w.setCells (bx + 2) 0 [nv, wv, ov]).heap.size := by rw [size_setCells (w := w)]; exact Nat.le_refl _
  exact ⟨(Cel.of_blk h.Z).setCells_same [nv, wv, ov] rfl, h.n.block hz fun k hk => hs k (fun e => by have := h.hn k hk; omega), h.v.block hz fun k hk => hs k (fun e => by have := h.hv k hk; omega), h.o.block hz fun k hk => hs k (fun e => by have := h.ho k hk; omega), below_setCells (Below.refl _ _) (by omega) _ _⟩
end
/-- What the document's Put answers with. -/
def RPut (b0 : Nat) (nv wv ov : Value) (w : World) (ok : Bool) (N' : List Nat) (W' O' : List Mg) (e : Ending) (w' : World) : Prop :=
  ∃ nv' wv' ov', e = .returned (.tuple #[.agg #[nv', wv', ov'], .bool ok]) ∧ Qo w' b0 1 nv' N'.length (cellsN N') ∧ Qo w' b0 5 wv' W'.length (cellsM W') ∧ Qo w' b0 5 ov' O'.length (cellsM O')
    ∧ (∀ k, blkOf nv' = some k ∨ blkOf wv' = some k ∨ blkOf ov' = some k → (blkOf nv = some k ∨ blkOf wv = some k ∨ blkOf ov = some k) ∨ w.heap.size ≤ k) ∧ Below w.heap.size w w'
theorem rp_new {b0 : Nat} {nv wv ov : Value} {N : List Nat} {W O : List Mg} (x : Mg) {w : World} (n : Qo w b0 1 nv N.length (cellsN N)) (v : Qo w b0 5 wv W.length (cellsM W)) (o : Qo w b0 5 ov O.length (cellsM O)) :
    Rp b0 w.heap.size nv wv ov N W O x (((w.alloc (.cells #[nv, wv, ov] 87)).alloc (.cells (mgc x) 30)).alloc (.cells #[.slice none 0 0, .slice none 0 0, .slice none 0 0] 87)) ∧ Below w.heap.size w (((w.alloc (.cells #[nv, wv, ov] 87)).alloc (.cells (mgc x) 30)).alloc (.cells #[.slice none 0 0, .slice none 0 0, .slice none 0 0] 87)) := by
  have al := (((Below.refl w.heap.size w).alloc (Nat.le_refl _) (.cells #[nv, wv, ov] 87)).alloc (by simp) (.cells (mgc x) 30)).alloc (by simp; omega) (.cells #[.slice none 0 0, .slice none 0 0, .slice none 0 0] 87)
  have h1 := ((Blk.new w 87 #[nv, wv, ov]).alloc (.cells (mgc x) 30)).alloc (.cells #[.slice none 0 0, .slice none 0 0, .slice none 0 0] 87)
  have h2 := (Blk.new (w.alloc (.cells #[nv, wv, ov] 87)) 30 (mgc x)).alloc (.cells #[.slice none 0 0, .slice none 0 0, .slice none 0 0] 87)
  have h3 := Blk.new ((w.alloc (.cells #[nv, wv, ov] 87)).alloc (.cells (mgc x) 30)) 87 #[.slice none 0 0, .slice none 0 0, .slice none 0 0]
  rw [show (w.alloc (.cells #[nv, wv, ov] 87)).heap.size = w.heap.size + 1 by simp] at h2
  rw [show ((w.alloc (.cells #[nv, wv, ov] 87)).alloc (.cells (mgc x) 30)).heap.size = w.heap.size + 2 by simp] at h3
  exact ⟨⟨h1, h2, h3, n.below al (Nat.le_refl _), v.below al (Nat.le_refl _), o.below al (Nat.le_refl _), fun k hk => .inl (n.lt hk).2, fun k hk => .inl (v.lt hk).2, fun k hk => .inl (o.lt hk).2⟩, al⟩
set_option maxHeartbeats 4000000 in
theorem rput_out {b0 : Nat} {nv wv ov : Value} {N : List Nat} {W O : List Mg} {w : World} (n : Qo w b0 1 nv N.length (cellsN N)) (v : Qo w b0 5 wv W.length (cellsM W)) (o : Qo w b0 5 ov O.length (cellsM O)) (K ss pr : Int) (lo : Bool) (d : ByteArray) (hk : K < 0 ∨ (N.length : Int) ≤ K) :
    Calls Try.prog 53 #[.agg #[nv, wv, ov], .agg (mgc ⟨K, ss, lo, pr, d⟩)] w (RPut b0 nv wv ov w false N W O) := by
  obtain ⟨on, cn, hnv, _, _⟩ := n.shape
  obtain ⟨owv, cw, hwv, _, _⟩ := v.shape
  obtain ⟨oo, co, hov, _, _⟩ := o.shape
  subst hnv
  subst hwv
  subst hov
  obtain ⟨R, al⟩ := rp_new ⟨K, ss, lo, pr, d⟩ n v o
  clear n v o
  go_enter Try.func53, Try.ntmps53
  go_upto_region 1 with fail
  obtain ⟨w1, hw1⟩ : ∃ w1, ((w.alloc (.cells #[.slice on N.length cn, .slice owv W.length cw, .slice oo O.length co] 87)).alloc (.cells (mgc ⟨K, ss, lo, pr, d⟩) 30)).alloc (.cells #[.slice none 0 0, .slice none 0 0, .slice none 0 0] 87) = w1 := ⟨_, rfl⟩
  rw [hw1] at R al ⊢
  obtain ⟨bx, hbx⟩ : ∃ bx, w.heap.size = bx := ⟨_, rfl⟩
  have hs1 : (w.alloc (.cells #[.slice on N.length cn, .slice owv W.length cw, .slice oo O.length co] 87)).heap.size = bx + 1 := by simp [hbx]
  have hs2 : ((w.alloc (.cells #[.slice on N.length cn, .slice owv W.length cw, .slice oo O.length co] 87)).alloc (.cells (mgc ⟨K, ss, lo, pr, d⟩) 30)).heap.size = bx + 2 := by simp [hbx]
  try rw [hs1]
  try rw [hs2]
  rw [hbx] at R al ⊢
  try rw [show bx + 1 + 1 = bx + 2 from rfl]
  clear hw1 hs1 hs2
  have HBX := Lib.hid hbx
  clear hbx
  have x0 : w1.cell? ⟨bx + 1, 0, none⟩ = some (.int .i64 K) := R.M.cell 0
  have s0 : w1.cell? ⟨bx, 0, none⟩ = some (.slice on N.length cn) := R.B.cell 0
  have n0 : (0 : Int) ≤ (N.length : Int) := by omega
  have HR := Lib.hid (And.intro R al)
  have RC := R.Z
  have RB := R.B
  clear R al
  rcases (by omega : K < 0 ∨ (0 ≤ K ∧ (N.length : Int) ≤ K)) with q | ⟨q, q2⟩
  · have hd : decide (K < 0) = true := decide_eq_true q
    go_wp2_with (first | (refine wpList_load_at rfl 87 _ rfl bx 0 rfl #[.slice on N.length cn, .slice owv W.length cw, .slice oo O.length co] _ (Cel.of_blk RB) Try.underlying87 rfl (szR _ _ _) ?_) | (refine wpList_store_at rfl 87 _ _ rfl (bx + 2) 0 #[.slice on N.length cn, .slice owv W.length cw, .slice oo O.length co] rfl rfl _ (Cel.of_blk RC) (szR _ _ _) rfl (by kernel_rfl) ?_))
    obtain ⟨KK, o1, o2, o3, b3⟩ := HR.out.1.told
    exact bodyPost_ret (v := .tuple #[.agg #[.slice on N.length cn, .slice owv W.length cw, .slice oo O.length co], .bool false]) (by rw [results_cell_tmp_at rfl _ _ (bx + 2) 0 #[.slice on N.length cn, .slice owv W.length cw, .slice oo O.length co] _ rfl KK Try.underlying87 rfl (szR _ _ _)]; rfl) rfl ⟨_, _, _, rfl, o1, o2, o3, fun k hk => .inl hk, by rw [HBX.out]; exact HR.out.2.trans b3⟩
  · have hd : decide (K < 0) = false := decide_eq_false (by omega)
    have hd2 : decide ((N.length : Int) ≤ K) = true := decide_eq_true q2
    go_wp2_with (first | (refine wpList_load_at rfl 87 _ rfl bx 0 rfl #[.slice on N.length cn, .slice owv W.length cw, .slice oo O.length co] _ (Cel.of_blk RB) Try.underlying87 rfl (szR _ _ _) ?_) | (refine wpList_store_at rfl 87 _ _ rfl (bx + 2) 0 #[.slice on N.length cn, .slice owv W.length cw, .slice oo O.length co] rfl rfl _ (Cel.of_blk RC) (szR _ _ _) rfl (by kernel_rfl) ?_))
    obtain ⟨KK, o1, o2, o3, b3⟩ := HR.out.1.told
    exact bodyPost_ret (v := .tuple #[.agg #[.slice on N.length cn, .slice owv W.length cw, .slice oo O.length co], .bool false]) (by rw [results_cell_tmp_at rfl _ _ (bx + 2) 0 #[.slice on N.length cn, .slice owv W.length cw, .slice oo O.length co] _ rfl KK Try.underlying87 rfl (szR _ _ _)]; rfl) rfl ⟨_, _, _, rfl, o1, o2, o3, fun k hk => .inl hk, by rw [HBX.out]; exact HR.out.2.trans b3⟩
end Go.Proofs.Ythddacgdmngfhaa.del
