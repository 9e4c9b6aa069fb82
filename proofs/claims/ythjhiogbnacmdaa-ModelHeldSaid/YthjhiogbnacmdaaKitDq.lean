/- General words, over any program: 'append(append([]T{}, q...), item)' in a region that draws its order, q a row wherever it begins (KitX's way). -/
import Derived.Test.YthjhiogbnacmdaaKitX
import Derived.Test.YthjhiogbnacmdaaKitV
namespace Go.Proofs.Ythjhiogbnacmdaa.kit
open Go.ChangeShapes Go.WideShapes Go.ChangeAt Go.RowKit
section
variable {P : Program} {ops : Array Oper} {Q : Exit → Act → World → Prop} {S : World → Prop} {cc : Nat}
theorem src_item {SL T : TypeId} {sz : Nat} {ITEM : Array Value} {v : World} {bI : Nat} (ht : P.underlying SL = some (.slice T)) (B : Blk v bI T ITEM) (oneI : ∀ u ∈ ITEM.toList, u.oneCell' = true) (hIT : ITEM.toList.length = 1 * sz) : Src P sz SL (.slice (some ⟨bI, 0, none⟩) 1 1) 1 ITEM.toList v :=
  Src.ofSlice v ht _ 1 1 ITEM.toList hIT (fun j u hu => by rw [add_some, Nat.zero_add, B.cell j]; rwa [Array.getElem?_toList] at hu) oneI
theorem dappq_C {T SL : TypeId} {i0 : TypeInfo} {z : Value} {sz bytes m bq : Nat} {sv xv : Value} {cells : List Value} {ITEM : Array Value} {fuel : Nat} {L0 : Array Bool} {a : Act} {w : World}
    (iE iM iB iA : Nat) (oE oM oB oA : Oper) (tE tM tB tA t1 tx : Nat)
    (hd : dappCB ops L0 iE iM iB iA = true) (htm : dappCT tE tM tB tA t1 tx a.tmps.size = true)
    (hE : ops[iE]? = some oE) (hM : ops[iM]? = some oM) (hB : ops[iB]? = some oB) (hA : ops[iA]? = some oA)
    (gE : oE.guard = none ∧ oE.dst = some tE) (gM : oM.guard = none ∧ oM.dst = some tM) (gB : oB.guard = none ∧ oB.dst = some tB) (gA : oA.guard = none ∧ oA.dst = some tA)
    (oM' : oM.op = .call { callee := .builtin .append, args := #[.tmp tE, .tmp t1], argTypes := #[SL, SL] }) (oA' : oA.op = .call { callee := .builtin .append, args := #[.tmp tM, .tmp tB], argTypes := #[SL, SL] })
    (rE : ∀ (b : Act) (v : World), (execOp b.eval oE).run P v = .ok (.value (.slice (some ⟨v.heap.size, 0, none⟩) 0 0)) (v.alloc (.cells #[] T)))
    (rB : ∀ (b : Act) (v : World), b.eval (.tmp tx) = xv → (execOp b.eval oB).run P v = .ok (.value (.slice (some ⟨v.heap.size, 0, none⟩) 1 1)) (v.alloc (.cells ITEM T)))
    (ht : P.underlying SL = some (.slice T)) (hi : P.info? T = some i0) (hz : i0.zero = some z) (hsize : i0.size = sz) (hby : i0.bytes = bytes) (hzs : z.cells.size = sz)
    (h1 : a.eval (.tmp t1) = sv) (hx : a.eval (.tmp tx) = xv) (src : Qo w bq sz sv m cells) (one1 : ∀ u ∈ cells, u.oneCell' = true) (oneI : ∀ u ∈ ITEM.toList, u.oneCell' = true) (hIT : ITEM.toList.length = 1 * sz)
    (h63 : m + 1 ≤ maxLen) (hbytes : (m + 1) * bytes ≤ 140737488355328) (hS : ∀ v : World, Below w.heap.size w v → S v)
    (fin : ∀ (vE vM vB : Value) (oa : Option Addr) (c : Nat) (v : World), Qo v w.heap.size sz (.slice oa (m + 1) c) (m + 1) (cells ++ ITEM.toList) → Below w.heap.size w v →
      wpAnyC P .any ops Q S cc fuel ((((L0.setIfInBounds iE true).setIfInBounds iM true).setIfInBounds iB true).setIfInBounds iA true) ((((a.put (some tE) vE).put (some tM) vM).put (some tB) vB).put (some tA) (.slice oa (m + 1) c)) v) :
    wpAnyC P .any ops Q S cc (fuel + 4) L0 a w := by
  simp only [dappCB, Bool.and_eq_true, beq_iff_eq, bne_iff_ne, ne_eq] at hd
  obtain ⟨⟨⟨⟨⟨⟨⟨⟨r0, r1⟩, r2⟩, r3⟩, r4⟩, r5⟩, nEM⟩, nEB⟩, nMB⟩ := hd
  simp only [dappCT, Bool.and_eq_true, bne_iff_ne, ne_eq, decide_eq_true_eq] at htm
  obtain ⟨⟨⟨⟨⟨⟨⟨⟨⟨uEM, uEB⟩, uMB⟩, uE1⟩, uEx⟩, uMx⟩, uB1⟩, lE⟩, lM⟩, lB⟩ := htm
  -- what comes last
  have tail : ∀ (vE vM : Value) (bI : Nat) (v : World), Qo v w.heap.size sz vM m cells → Blk v bI T ITEM → Below w.heap.size w v →
      wpAnyC P .any ops Q S cc (fuel + 1) (((L0.setIfInBounds iE true).setIfInBounds iM true).setIfInBounds iB true) (((a.put (some tE) vE).put (some tM) vM).put (some tB) (.slice (some ⟨bI, 0, none⟩) 1 1)) v := by
    intro vE vM bI v own B bel
    refine wpAnyC_step r5 (by simp) fun i hi' => ?_
    obtain rfl : i = iA := by simpa using hi'
    refine wpOp_of hA gA.1 ?_
    obtain ⟨v', w', hr, q', grow, hat⟩ := qo_append (P := P) (ty := oA.type) ht hi hz hsize hby hzs own (src_item (sz := sz) ht B oneI hIT) h63 hbytes bel.size
    obtain ⟨oa, c, rfl, _, _⟩ := q'.shape
    have bel' : Below w.heap.size w w' := bel.grown grow bel.size (fun k hk => (own.lt hk).1)
    refine wp_append_src (.tmp tM) (.tmp tB) SL oA' (by rw [Act.eval_put_ne _ _ _ _ (Ne.symm uMB), Act.eval_put_same _ _ _ (by rw [Act.size_put]; exact lM)]) (Act.eval_put_same _ _ _ (by rw [Act.size_put, Act.size_put]; exact lB)) hr ?_
    rw [gA.2]
    exact ⟨hS _ bel', fin _ _ _ oa c w' q' bel'⟩
  have refl := Below.refl w.heap.size w
  have belE : Below w.heap.size w (w.alloc (.cells #[] T)) := refl.alloc (Nat.le_refl _) _
  have belB : Below w.heap.size w (w.alloc (.cells ITEM T)) := refl.alloc (Nat.le_refl _) _
  have hm1 : 0 + m ≤ maxLen := by omega
  have hm2 : (0 + m) * bytes ≤ 140737488355328 := Nat.le_trans (Nat.mul_le_mul_right _ (by omega)) hbytes
  -- the first append, wherever it comes
  have first : ∀ (e : Nat) (v : World), Below w.heap.size w v → ∃ vM v', (Builtin.append_ #[SL, SL] oM.type #[.slice (some ⟨e, 0, none⟩) 0 0, sv]).run P v = .ok vM v' ∧ Qo v' w.heap.size sz vM m cells ∧ (∀ k, k < v.heap.size → v'.heap[k]? = v.heap[k]?) ∧ Below w.heap.size w v' := by
    intro e v bel
    obtain ⟨vM, v', hr, q', grow, hat⟩ := qo_append (P := P) (ty := oM.type) ht hi hz hsize hby hzs (Qo.empty v w.heap.size sz (some ⟨e, 0, none⟩)) ((src.below bel (Nat.le_refl _)).src ht one1) hm1 hm2 bel.size
    refine ⟨vM, v', hr, by simpa using q', fun k hk => grow.block k hk (fun h => by rw [blkOf_zero] at h; cases h), bel.grown grow bel.size (fun q hq => by rw [blkOf_zero] at hq; cases hq)⟩
  refine wpAnyC_step r0 (by simp) fun i hi' => ?_
  simp only [List.mem_cons, List.not_mem_nil, or_false] at hi'
  rcases hi' with rfl | rfl
  · -- the first slice first
    refine wpOp_of hE gE.1 ?_
    unfold Oper.wp
    rw [rE]
    simp only [Oper.upon]
    rw [gE.2]
    refine ⟨hS _ belE, wpAnyC_step r1 (by simp) fun j hj => ?_⟩
    simp only [List.mem_cons, List.not_mem_nil, or_false] at hj
    rcases hj with rfl | rfl
    · refine wpOp_of hM gM.1 ?_
      obtain ⟨vM, v', hr, own', grow, bel'⟩ := first w.heap.size _ belE
      refine wp_append_src (.tmp tE) (.tmp t1) SL oM' (Act.eval_put_same _ _ _ lE) (by rw [Act.eval_put_ne _ _ _ _ uE1]; exact h1) hr ?_
      rw [gM.2]
      refine ⟨hS _ bel', wpAnyC_step r2 (by simp) fun j hj => ?_⟩
      obtain rfl : j = iB := by simpa using hj
      refine wpOp_of hB gB.1 ?_
      unfold Oper.wp
      rw [rB _ _ (by rw [Act.eval_put_ne _ _ _ _ uMx, Act.eval_put_ne _ _ _ _ uEx]; exact hx)]
      simp only [Oper.upon]
      rw [gB.2]
      have bel'' := bel'.alloc bel'.size (.cells ITEM T)
      exact ⟨hS _ bel'', tail _ _ _ _ (own'.alloc _) (Blk.new _ _ _) bel''⟩
    · refine wpOp_of hB gB.1 ?_
      unfold Oper.wp
      rw [rB _ _ (by rw [Act.eval_put_ne _ _ _ _ uEx]; exact hx)]
      simp only [Oper.upon]
      rw [gB.2]
      have bel1 := belE.alloc (by simp) (.cells ITEM T)
      refine ⟨hS _ bel1, wpAnyC_step r3 (by simp) fun j hj => ?_⟩
      obtain rfl : j = iM := by simpa using hj
      refine wpOp_of hM gM.1 ?_
      obtain ⟨vM, v', hr, own', grow, bel'⟩ := first w.heap.size _ bel1
      have B2 : Blk v' (w.alloc (.cells #[] T)).heap.size T ITEM := (grow _ (by simp)).trans (Blk.new (w.alloc (.cells #[] T)) T ITEM)
      refine wp_append_src (.tmp tE) (.tmp t1) SL oM' (by rw [Act.eval_put_ne _ _ _ _ (Ne.symm uEB)]; exact Act.eval_put_same _ _ _ lE) (by rw [Act.eval_put_ne _ _ _ _ uB1, Act.eval_put_ne _ _ _ _ uE1]; exact h1) hr ?_
      rw [gM.2, Array.setIfInBounds_comm _ _ (Ne.symm nMB), Act.put_comm _ _ _ (fun d hd q => by cases hd; cases q; exact uMB rfl)]
      exact ⟨hS _ bel', tail _ _ _ _ own' B2 bel'⟩
  · -- the item's slice first
    refine wpOp_of hB gB.1 ?_
    unfold Oper.wp
    rw [rB _ _ hx]
    simp only [Oper.upon]
    rw [gB.2]
    refine ⟨hS _ belB, wpAnyC_step r4 (by simp) fun j hj => ?_⟩
    obtain rfl : j = iE := by simpa using hj
    refine wpOp_of hE gE.1 ?_
    unfold Oper.wp
    rw [rE]
    simp only [Oper.upon]
    rw [gE.2]
    have bel1 := belB.alloc (by simp) (.cells #[] T)
    rw [Array.setIfInBounds_comm _ _ (Ne.symm nEB)]
    refine ⟨hS _ bel1, wpAnyC_step r3 (by simp) fun j hj => ?_⟩
    obtain rfl : j = iM := by simpa using hj
    refine wpOp_of hM gM.1 ?_
    obtain ⟨vM, v', hr, own', grow, bel'⟩ := first (w.alloc (.cells ITEM T)).heap.size _ bel1
    have B2 : Blk v' w.heap.size T ITEM := (grow _ (by simp; omega)).trans ((Blk.new w T ITEM).alloc (.cells #[] T))
    refine wp_append_src (.tmp tE) (.tmp t1) SL oM' (Act.eval_put_same _ _ _ (by rw [Act.size_put]; exact lE)) (by rw [Act.eval_put_ne _ _ _ _ uE1, Act.eval_put_ne _ _ _ _ uB1]; exact h1) hr ?_
    rw [gM.2, Array.setIfInBounds_comm _ _ (Ne.symm nMB), Act.put_comm a _ _ (fun d hd q => by cases hd; cases q; exact uEB rfl), Act.put_comm (a.put _ _) _ _ (fun d hd q => by cases hd; cases q; exact uMB rfl)]
    exact ⟨hS _ bel', tail _ _ _ _ own' B2 bel'⟩
end
end Go.Proofs.Ythjhiogbnacmdaa.kit
