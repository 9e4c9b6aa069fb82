/- General words, over any program: two appends in a region that draws its order and then stores what came (KitU's way). -/
import Derived.Test.YthjhiogbnacmdaaKitU
namespace Go.Proofs.Ythjhiogbnacmdaa.kit
open Go.ChangeShapes Go.WideShapes Go.ChangeAt Go.RowKit
section
variable {P : Program} {ops : Array Oper} {Q : Exit → Act → World → Prop} {S : World → Prop} {cc : Nat}
def dappCB (ops : Array Oper) (L0 : Array Bool) (iE iM iB iA : Nat) : Bool :=
  Region.ready .any ops L0 == [iE, iB] && Region.ready .any ops (L0.setIfInBounds iE true) == [iM, iB] && Region.ready .any ops ((L0.setIfInBounds iE true).setIfInBounds iM true) == [iB]
    && Region.ready .any ops ((L0.setIfInBounds iE true).setIfInBounds iB true) == [iM] && Region.ready .any ops (L0.setIfInBounds iB true) == [iE]
    && Region.ready .any ops (((L0.setIfInBounds iE true).setIfInBounds iM true).setIfInBounds iB true) == [iA]
    && iE != iM && iE != iB && iM != iB
def dappCT (tE tM tB tA t1 tx n : Nat) : Bool :=
  tE != tM && tE != tB && tM != tB && tE != t1 && tE != tx && tM != tx && tB != t1 && decide (tE < n) && decide (tM < n) && decide (tB < n)
theorem wpAnyC_step {rs : List Nat} {fuel : Nat} {listed : Array Bool} {a : Act} {w : World} (hr : Region.ready .any ops listed = rs) (hne : rs ≠ [])
    (h : ∀ i ∈ rs, wpOp P ops Q i (fun a' w' => S w' ∧ wpAnyC P .any ops Q S cc fuel (listed.setIfInBounds i true) a' w') a w) : wpAnyC P .any ops Q S cc (fuel + 1) listed a w := by
  refine ⟨fun h0 => absurd (hr ▸ h0) hne, fun i hi => ?_⟩
  exact wpOp_mono (fun a' w' h' => ⟨fun _ _ => h'.1, h'.2⟩) (h i (hr ▸ hi))
theorem dapp_C {T SL : TypeId} {i0 : TypeInfo} {z : Value} {sz bytes g m bq : Nat} {sv xv : Value} {cells : List Value} {ITEM : Array Value} {fuel : Nat} {L0 : Array Bool} {a : Act} {w : World}
    (iE iM iB iA : Nat) (oE oM oB oA : Oper) (tE tM tB tA t1 tx : Nat)
    (hd : dappCB ops L0 iE iM iB iA = true) (htm : dappCT tE tM tB tA t1 tx a.tmps.size = true)
    (hE : ops[iE]? = some oE) (hM : ops[iM]? = some oM) (hB : ops[iB]? = some oB) (hA : ops[iA]? = some oA)
    (gE : oE.guard = none ∧ oE.dst = some tE) (gM : oM.guard = none ∧ oM.dst = some tM) (gB : oB.guard = none ∧ oB.dst = some tB) (gA : oA.guard = none ∧ oA.dst = some tA)
    (oM' : oM.op = .call { callee := .builtin .append, args := #[.tmp tE, .tmp t1], argTypes := #[SL, SL] }) (oA' : oA.op = .call { callee := .builtin .append, args := #[.tmp tM, .tmp tB], argTypes := #[SL, SL] })
    (rE : ∀ (b : Act) (v : World), (execOp b.eval oE).run P v = .ok (.value (.slice (some ⟨v.heap.size, 0, none⟩) 0 0)) (v.alloc (.cells #[] T)))
    (rB : ∀ (b : Act) (v : World), b.eval (.tmp tx) = xv → (execOp b.eval oB).run P v = .ok (.value (.slice (some ⟨v.heap.size, 0, none⟩) 1 1)) (v.alloc (.cells ITEM T)))
    (ht : P.underlying SL = some (.slice T)) (hi : P.info? T = some i0) (hz : i0.zero = some z) (hsize : i0.size = sz) (hby : i0.bytes = bytes) (hzs : z.cells.size = sz) (hsz : 0 < sz)
    (h1 : a.eval (.tmp t1) = sv) (hx : a.eval (.tmp tx) = xv) (src : w.ownsRow bq T sz sv m cells) (one1 : ∀ u ∈ cells, u.oneCell' = true) (oneI : ∀ u ∈ ITEM.toList, u.oneCell' = true) (hIT : ITEM.toList.length = 1 * sz)
    (h63 : m + 1 ≤ maxLen) (hbytes : (m + 1) * bytes ≤ 140737488355328) (hg : g ≤ w.heap.size) (hS : ∀ v : World, Below w.heap.size w v → S v)
    (fin : ∀ (vE vM vB : Value) (h c : Nat) (v : World), v.ownsRow g T sz (.slice (some ⟨h, 0, none⟩) (m + 1) c) (m + 1) (cells ++ ITEM.toList) → w.heap.size ≤ h → Below w.heap.size w v →
      wpAnyC P .any ops Q S cc fuel ((((L0.setIfInBounds iE true).setIfInBounds iM true).setIfInBounds iB true).setIfInBounds iA true) ((((a.put (some tE) vE).put (some tM) vM).put (some tB) vB).put (some tA) (.slice (some ⟨h, 0, none⟩) (m + 1) c)) v) :
    wpAnyC P .any ops Q S cc (fuel + 4) L0 a w := by
  simp only [dappCB, Bool.and_eq_true, beq_iff_eq, bne_iff_ne, ne_eq] at hd
  obtain ⟨⟨⟨⟨⟨⟨⟨⟨r0, r1⟩, r2⟩, r3⟩, r4⟩, r5⟩, nEM⟩, nEB⟩, nMB⟩ := hd
  simp only [dappCT, Bool.and_eq_true, bne_iff_ne, ne_eq, decide_eq_true_eq] at htm
  obtain ⟨⟨⟨⟨⟨⟨⟨⟨⟨uEM, uEB⟩, uMB⟩, uE1⟩, uEx⟩, uMx⟩, uB1⟩, lE⟩, lM⟩, lB⟩ := htm
  -- what comes last
  have tail : ∀ (vE vM : Value) (bI : Nat) (v : World), v.ownsRow g T sz vM m cells → (∀ k, vM.ownBlock = some k → w.heap.size ≤ k) → Blk v bI T ITEM → Below w.heap.size w v →
      wpAnyC P .any ops Q S cc (fuel + 1) (((L0.setIfInBounds iE true).setIfInBounds iM true).setIfInBounds iB true) (((a.put (some tE) vE).put (some tM) vM).put (some tB) (.slice (some ⟨bI, 0, none⟩) 1 1)) v := by
    intro vE vM bI v own hge B bel
    refine wpAnyC_step r5 (by simp) fun i hi' => ?_
    obtain rfl : i = iA := by simpa using hi'
    refine wpOp_of hA gA.1 ?_
    obtain ⟨h, c, v', hr, own', grow, hat, hlt⟩ := run_append_lies (P := P) v SL oA.type g T i0 z sz bytes ht hi hz hsize hby hzs hsz vM m cells own ⟨bI, 0, none⟩ 1 1 ITEM.toList hIT (World.news_of_block B) oneI (by omega) h63 hbytes (by have := bel.size; omega) v.heap.size rfl
    have bel' : Below w.heap.size w v' := bel.grown grow (by have := bel.size; omega) hge
    refine wp_append_src (.tmp tM) (.tmp tB) SL oA' (by rw [Act.eval_put_ne _ _ _ _ (Ne.symm uMB), Act.eval_put_same _ _ _ (by rw [Act.size_put]; exact lM)]) (Act.eval_put_same _ _ _ (by rw [Act.size_put, Act.size_put]; exact lB)) hr ?_
    rw [gA.2]
    refine ⟨hS _ bel', ?_⟩
    exact fin _ _ _ h c v' own' (hat.elim (hge h) (fun q => q ▸ bel.size)) bel'
  have refl := Below.refl w.heap.size w
  have belE : Below w.heap.size w (w.alloc (.cells #[] T)) := refl.alloc (Nat.le_refl _) _
  have belB : Below w.heap.size w (w.alloc (.cells ITEM T)) := refl.alloc (Nat.le_refl _) _
  have hm1 : 0 + m ≤ maxLen := by omega
  have hm2 : (0 + m) * bytes ≤ 140737488355328 := Nat.le_trans (Nat.mul_le_mul_right _ (by omega)) hbytes
  -- the first append, wherever it comes
  have first : ∀ (e : Nat) (v : World), Blk v e T #[] → w.heap.size ≤ e → Below w.heap.size w v → ∃ vM v', (Builtin.append_ #[SL, SL] oM.type #[.slice (some ⟨e, 0, none⟩) 0 0, sv]).run P v = .ok vM v' ∧ v'.ownsRow g T sz vM m cells ∧ v.grownBy v' (some e) ∧ (∀ k, vM.ownBlock = some k → w.heap.size ≤ k) ∧ Below w.heap.size w v' := by
    intro e v B he bel
    have own0 : v.ownsRow g T sz (.slice (some ⟨e, 0, none⟩) 0 0) 0 [] := own_none B (by omega) (by unfold maxLen; omega) (by simp)
    obtain ⟨vM, v', hr, own', grow, hat⟩ := run_append_src (P := P) SL oM.type ht hi hz hsize hby hzs hsz own0 (own_all src bel) one1 hm1 hm2 (by have := bel.size; omega)
    refine ⟨vM, v', hr, by simpa using own', grow, fun k hk => ?_, bel.grown grow (by have := bel.size; omega) (fun q hq => by simp [Value.ownBlock] at hq; omega)⟩
    rcases hat with q | q
    · rw [q] at hk; simp [Value.ownBlock] at hk; omega
    · rw [q] at hk; have := bel.size; simp at hk; omega
  refine wpAnyC_step r0 (by simp) fun i hi' => ?_
  simp only [List.mem_cons, List.not_mem_nil, or_false] at hi'
  rcases hi' with rfl | rfl
  · -- the first slice first
    refine wpOp_of hE gE.1 ?_
    unfold Oper.wp
    rw [rE]
    simp only [Oper.upon]
    rw [gE.2]
    refine ⟨hS _ belE, wpAnyC_step r1 (by simp) fun j hj => ?_⟩
    have B1 := Blk.new w T #[]
    simp only [List.mem_cons, List.not_mem_nil, or_false] at hj
    rcases hj with rfl | rfl
    · refine wpOp_of hM gM.1 ?_
      obtain ⟨vM, v', hr, own', grow, hge, bel'⟩ := first w.heap.size _ B1 (Nat.le_refl _) belE
      refine wp_append_src (.tmp tE) (.tmp t1) SL oM' (Act.eval_put_same _ _ _ lE) (by rw [Act.eval_put_ne _ _ _ _ uE1]; exact h1) hr ?_
      rw [gM.2]
      refine ⟨hS _ bel', wpAnyC_step r2 (by simp) fun j hj => ?_⟩
      obtain rfl : j = iB := by simpa using hj
      refine wpOp_of hB gB.1 ?_
      unfold Oper.wp
      rw [rB _ _ (by rw [Act.eval_put_ne _ _ _ _ uMx, Act.eval_put_ne _ _ _ _ uEx]; exact hx)]
      simp only [Oper.upon]
      rw [gB.2]
      have bel'' := bel'.alloc (by have := bel'.size; omega) (.cells ITEM T)
      exact ⟨hS _ bel'', tail _ _ _ _ (own_all own' ((Below.refl _ _).alloc (Nat.le_refl _) _)) hge (Blk.new _ _ _) bel''⟩
    · refine wpOp_of hB gB.1 ?_
      unfold Oper.wp
      rw [rB _ _ (by rw [Act.eval_put_ne _ _ _ _ uEx]; exact hx)]
      simp only [Oper.upon]
      rw [gB.2]
      have bel1 := belE.alloc (by simp) (.cells ITEM T)
      refine ⟨hS _ bel1, wpAnyC_step r3 (by simp) fun j hj => ?_⟩
      obtain rfl : j = iM := by simpa using hj
      refine wpOp_of hM gM.1 ?_
      obtain ⟨vM, v', hr, own', grow, hge, bel'⟩ := first w.heap.size _ (B1.alloc (.cells ITEM T)) (Nat.le_refl _) bel1
      have B2 : Blk v' (w.alloc (.cells #[] T)).heap.size T ITEM := (grow.block _ (by simp) (by simp)).trans (Blk.new (w.alloc (.cells #[] T)) T ITEM)
      refine wp_append_src (.tmp tE) (.tmp t1) SL oM' (by rw [Act.eval_put_ne _ _ _ _ (Ne.symm uEB)]; exact Act.eval_put_same _ _ _ lE) (by rw [Act.eval_put_ne _ _ _ _ uB1, Act.eval_put_ne _ _ _ _ uE1]; exact h1) hr ?_
      rw [gM.2, Array.setIfInBounds_comm _ _ (Ne.symm nMB), Act.put_comm _ _ _ (fun d hd q => by cases hd; cases q; exact uMB rfl)]
      exact ⟨hS _ bel', tail _ _ _ _ own' hge B2 bel'⟩
  · -- the item's slice first
    refine wpOp_of hB gB.1 ?_
    unfold Oper.wp
    rw [rB _ _ hx]
    simp only [Oper.upon]
    rw [gB.2]
    refine ⟨hS _ belB, wpAnyC_step r4 (by simp) fun j hj => ?_⟩
    obtain rfl : j = iE := by simpa using hj
    refine wpOp_of hE gE.1 ?_
    unfold Oper.wp
    rw [rE]
    simp only [Oper.upon]
    rw [gE.2]
    have bel1 := belB.alloc (by simp) (.cells #[] T)
    rw [Array.setIfInBounds_comm _ _ (Ne.symm nEB)]
    refine ⟨hS _ bel1, wpAnyC_step r3 (by simp) fun j hj => ?_⟩
    obtain rfl : j = iM := by simpa using hj
    refine wpOp_of hM gM.1 ?_
    obtain ⟨vM, v', hr, own', grow, hge, bel'⟩ := first _ _ (Blk.new (w.alloc (.cells ITEM T)) T #[]) (by simp) bel1
    have B2 : Blk v' w.heap.size T ITEM := (grow.block _ (by simp; omega) (by simp)).trans ((Blk.new w T ITEM).alloc (.cells #[] T))
    refine wp_append_src (.tmp tE) (.tmp t1) SL oM' (Act.eval_put_same _ _ _ (by rw [Act.size_put]; exact lE)) (by rw [Act.eval_put_ne _ _ _ _ uE1, Act.eval_put_ne _ _ _ _ uB1]; exact h1) hr ?_
    rw [gM.2, Array.setIfInBounds_comm _ _ (Ne.symm nMB), Act.put_comm a _ _ (fun d hd q => by cases hd; cases q; exact uEB rfl), Act.put_comm (a.put _ _) _ _ (fun d hd q => by cases hd; cases q; exact uMB rfl)]
    exact ⟨hS _ bel', tail _ _ _ _ own' hge B2 bel'⟩
/-- 'append(append([]T{}, src...), item)' in order. -/
theorem app2_run {T SL ty1 ty2 : TypeId} {i0 : TypeInfo} {z : Value} {sz bytes m bq : Nat} {sv : Value} {cells : List Value} (ITEM : Array Value) {w : World}
    (ht : P.underlying SL = some (.slice T)) (hi : P.info? T = some i0) (hz : i0.zero = some z) (hsize : i0.size = sz) (hby : i0.bytes = bytes) (hzs : z.cells.size = sz) (hsz : 0 < sz)
    (src : w.ownsRow bq T sz sv m cells) (one1 : ∀ u ∈ cells, u.oneCell' = true) (oneI : ∀ u ∈ ITEM.toList, u.oneCell' = true) (hIT : ITEM.toList.length = 1 * sz)
    (h63 : m + 1 ≤ maxLen) (hbytes : (m + 1) * bytes ≤ 140737488355328) :
    ∃ vM w9 h c w11, (Builtin.append_ #[SL, SL] ty1 #[.slice (some ⟨w.heap.size, 0, none⟩) 0 0, sv]).run P (w.alloc (.cells #[] T)) = .ok vM w9 ∧ (Builtin.append_ #[SL, SL] ty2 #[vM, .slice (some ⟨w9.heap.size, 0, none⟩) 1 1]).run P (w9.alloc (.cells ITEM T)) = .ok (.slice (some ⟨h, 0, none⟩) (m + 1) c) w11
      ∧ w11.ownsRow w.heap.size T sz (.slice (some ⟨h, 0, none⟩) (m + 1) c) (m + 1) (cells ++ ITEM.toList) ∧ w.heap.size ≤ h ∧ h < w11.heap.size ∧ Below w.heap.size w w9 ∧ Below w.heap.size w w11 := by
  have refl := Below.refl w.heap.size w
  have belE : Below w.heap.size w (w.alloc (.cells #[] T)) := refl.alloc (Nat.le_refl _) _
  have hm1 : 0 + m ≤ maxLen := by omega
  have hm2 : (0 + m) * bytes ≤ 140737488355328 := Nat.le_trans (Nat.mul_le_mul_right _ (by omega)) hbytes
  have own0 : (w.alloc (.cells #[] T)).ownsRow w.heap.size T sz (.slice (some ⟨w.heap.size, 0, none⟩) 0 0) 0 [] := own_none (Blk.new w T #[]) (Nat.le_refl _) (by unfold maxLen; omega) (by simp)
  obtain ⟨vM, w9, hr, own', grow, hat⟩ := run_append_src (P := P) SL ty1 ht hi hz hsize hby hzs hsz own0 (own_all src belE) one1 hm1 hm2 (by have := belE.size; omega)
  have hge : ∀ k, vM.ownBlock = some k → w.heap.size ≤ k := fun k hk => by
    rcases hat with q | q
    · rw [q] at hk; simp [Value.ownBlock] at hk; omega
    · rw [q] at hk; have := belE.size; simp at hk; omega
  have bel9 : Below w.heap.size w w9 := belE.grown grow (by have := belE.size; omega) (fun q hq => by simp [Value.ownBlock] at hq; omega)
  have bel10 := bel9.alloc bel9.size (.cells ITEM T)
  have own9 : (w9.alloc (.cells ITEM T)).ownsRow w.heap.size T sz vM m cells := own_all (by simpa using own') ((Below.refl _ _).alloc (Nat.le_refl _) _)
  obtain ⟨h, c, w11, hr2, own11, grow2, hat2, hlt⟩ := run_append_lies (P := P) (w9.alloc (.cells ITEM T)) SL ty2 w.heap.size T i0 z sz bytes ht hi hz hsize hby hzs hsz vM m cells own9 ⟨w9.heap.size, 0, none⟩ 1 1 ITEM.toList hIT (World.news_of_block (Blk.new _ _ _)) oneI (by omega) h63 hbytes (by have := bel10.size; omega) _ rfl
  exact ⟨vM, w9, h, c, w11, hr, hr2, own11, hat2.elim (hge h) (fun q => q ▸ bel10.size), hlt, bel9, bel10.grown grow2 (by have := bel10.size; omega) hge⟩
end
end Go.Proofs.Ythjhiogbnacmdaa.kit
