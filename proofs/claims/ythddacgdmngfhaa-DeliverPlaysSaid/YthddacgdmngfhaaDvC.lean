/- Layer 18: those messages of a stream that are in order now can be read. -/
import Derived.Test.YthddacgdmngfhaaDvB
namespace Go.Proofs.Ythddacgdmngfhaa.del
open Go.Sort (grow)
open Go.ChangeShapes Go.WideShapes Go.ChangeAt Go.RowKit kit
set_option maxRecDepth 100000

/-- An append of which the run is known, in a region that draws its order. -/
theorem step_append_q {P : Program} {ops : Array Oper} {o : Oper} {a : Act} {w : World} {K : Act → World → Prop} {Q : Exit → Act → World → Prop} {E : Prop} (hg : o.guard = none) (s x : Operand) (t : TypeId)
    (ho : o.op = .call { callee := .builtin .append, args := #[s, x], argTypes := #[t, t] }) {v sv v' : Value} {w' : World} (hs : a.eval s = v) (hx : a.eval x = sv)
    (hr : (Builtin.append_ #[t, t] o.type #[v, sv]).run P w = .ok v' w') (h : K (a.put o.dst v') w') : if Region.wanted o (yielded ops a.tmps) = true then Oper.wp P o a w K Q else E := by
  rw [if_pos (by simp [Region.wanted, hg])]
  exact wp_append_src s x t ho hs hx hr h
/-- One item in new memory. -/
theorem qo_item (w : World) (t : TypeId) (cs : Array Value) : Qo (w.alloc (.cells cs t)) w.heap.size cs.size (.slice (some ⟨w.heap.size, 0, none⟩) 1 1) 1 cs.toList := by
  have B := Blk.new w t cs
  refine ⟨by simp, _, 1, rfl, Nat.le_refl _, by unfold maxLen; omega, fun _ => ⟨w.heap.size, 0, rfl, Nat.le_refl _, B.lt, fun j hj => ?_, fun j hj => ?_⟩⟩
  · rw [Nat.zero_add]
    exact ⟨by rw [B.cell j, Array.getElem?_eq_getElem (by omega)]; rfl, B.frozen j⟩
  · rw [Nat.zero_add, B.cell j, Array.getElem?_toList]
/-- More of those that can be read, where the cell says so then. -/
theorem Dw.app {b0 g b : Nat} {sv rv rv' : Value} {Z : List (Nat × Nat)} {W O O' : List Mg} {w w8 : World} (h : Dw b0 g sv rv b Z W O w) (gr : w.grownBy w8 (blkOf rv)) (q : Qo w8 b0 5 rv' O'.length (cellsM O')) (hn : ∀ i, blkOf rv' = some i → blkOf rv = some i ∨ w.heap.size ≤ i) : Dw b0 g sv rv' b Z W O' (w8.setCell ⟨g, 1, none⟩ rv') := by
  have hs := gr.size
  have hg : blkOf rv' ≠ some g := fun e => by
    rcases hn g e with h' | h'
    · exact h.nr h'
    · have := h.B.lt; omega
  refine ⟨Blk.set_ (w := w8) (cs := #[sv, rv, .int .i64 (b : Nat)]) ((gr.block g h.B.lt (fun e => h.nr e.symm)).trans h.B) 1 rv', (h.s.block hs fun k hk => gr.block k (h.s.lt hk).2 (fun e => h.sr k hk e.symm)).far (p := ⟨g, 1, none⟩) h.ns _, q.far (p := ⟨g, 1, none⟩) hg _, fun k z hz => ?_, h.mi, h.ns, hg, fun k hk e => ?_, fun z hz => ⟨(h.mg z hz).1, (h.mg z hz).2.1, fun e => ?_⟩, h.hg, h.zl, h.sw⟩
  · obtain ⟨h1, es, c, M, E⟩ := h.m k z hz
    have hz' := List.mem_of_getElem? hz
    exact ⟨h1, es, c, (M.block (gr.block z.2 M.lt (fun e => (h.mg z hz').2.2 e.symm))).far (p := ⟨g, 1, none⟩) (h.mg z hz').1 _, E⟩
  · rcases hn k e with h' | h'
    · exact h.sr k hk h'
    · have := (h.s.lt hk).2; omega
  · rcases hn z.2 e with h' | h'
    · exact (h.mg z hz).2.2 h'
    · have := (h.mlt hz).2; omega
def leftM (m : Nat) (w : World) : Nat := match w.heap[m]? with | some (.map es _) => es.size | _ => 0
theorem leftM_eq {w : World} {m c : Nat} {es : Array MapEntry} (M : MapB w m es c) : leftM m w = es.size := by
  unfold leftM
  rw [show w.heap[m]? = some (.map es c) from M]
theorem only_map {w : World} {m c : Nat} {es : Array MapEntry} (M : MapB w m es c) (es' : Array MapEntry) (c' : Nat) : Only m w (Go.ChangeMaps.setBlock w m (.map es' c')) :=
  ⟨by rw [MapB.size]; exact Nat.le_refl _, fun k _ hk => M.other es' c' hk⟩
/-- What of a world is left as it was, where streams turned. -/
structure Keep (g : Nat) (sv rv : Value) (Z : List (Nat × Nat)) (rv' : Value) (w w' : World) : Prop where
  size : w.heap.size ≤ w'.heap.size
  block : ∀ i, i < w.heap.size → ¬ Foot g sv rv Z i → w'.heap[i]? = w.heap[i]?
  rv : ∀ i, blkOf rv' = some i → blkOf rv = some i ∨ w.heap.size ≤ i
theorem foot_set {g k n : Nat} {sv rv : Value} {Z : List (Nat × Nat)} {z : Nat × Nat} (hz : Z[k]? = some z) {i : Nat} (h : Foot g sv rv (Z.set k (n, z.2)) i) : Foot g sv rv Z i := by
  rcases h with h | h | h | ⟨y, hy, he⟩
  · exact .inl h
  · exact .inr (.inl h)
  · exact .inr (.inr (.inl h))
  · rcases List.mem_or_eq_of_mem_set hy with h' | h'
    · exact .inr (.inr (.inr ⟨y, h', he⟩))
    · exact .inr (.inr (.inr ⟨z, List.mem_of_getElem? hz, by rw [← he, h']⟩))
set_option maxHeartbeats 8000000 in
theorem dfollow {b0 g b k : Nat} {sv rv0 : Value} {Z : List (Nat × Nat)} {W O : List Mg} {w : World} {z : Nat × Nat} (h : Dw b0 g sv rv0 b Z W O w) (hz : Z[k]? = some z) (hW : W.length + O.length ≤ 1000) (hh off cap : Nat) (hv : sv = .slice (some ⟨hh, off, none⟩) Z.length cap) (hbs : blkOf sv = some hh) :
    Calls Try.prog 104 #[.pointer (some ⟨g, 0, none⟩), .pointer (some ⟨hh, off + k * 2, none⟩)] w fun e w' => e = .returned (.tuple #[]) ∧ ∃ rv j, j ≤ W.length ∧ pick k (passes k j (z.1, W, O)).1 (passes k j (z.1, W, O)).2.1 = none ∧ Dw b0 g sv rv b (Z.set k ((passes k j (z.1, W, O)).1, z.2)) (passes k j (z.1, W, O)).2.1 (passes k j (z.1, W, O)).2.2 w' ∧ Keep g sv rv0 Z rv w w' ∧ Below b0 w w' := by
  obtain ⟨i0, hi, hz0, hz1, hz2⟩ := info_parts infoM
  have hkl : k < Z.length := (List.getElem?_eq_some_iff.1 hz).1
  obtain ⟨z1, m⟩ := z
  have hset0 : Z.set k (z1, m) = Z := by
    apply List.ext_getElem?
    intro i
    by_cases e : k = i
    · subst e; rw [List.getElem?_set_self hkl, hz]
    · rw [List.getElem?_set_ne e]
  have HZ := Lib.hid (And.intro hz hset0)
  have HF := Lib.hid (show ∀ rv i, Foot g sv rv Z i ↔ (i = g ∨ blkOf sv = some i ∨ blkOf rv = some i ∨ ∃ z ∈ Z, z.2 = i) from fun _ _ => Iff.rfl)
  obtain ⟨o, ho⟩ : ∃ o, off + k * 2 = o := ⟨_, rfl⟩
  rw [ho]
  have HO := Lib.hid ho
  have HV := Lib.hid hv
  clear ho hset0 hv
  go_enter Try.func104, Try.ntmps104
  go_wp2_with fail
  go_loopw [6] (fun _ wr => ∃ (j n : Nat) (Wc Oc : List Mg) (rv : Value), (n, Wc, Oc) = passes k j (z1, W, O) ∧ j ≤ W.length ∧ Wc.length + j = W.length ∧ Dw b0 g sv rv b (Z.set k (n, m)) Wc Oc wr ∧ Keep g sv rv0 Z rv w wr ∧ Below b0 w wr) (fun _ wr => leftM m wr)
  case atStart => exact ⟨0, z1, W, O, rv0, rfl, Nat.zero_le _, rfl, by rw [HZ.out.2]; exact h, ⟨Nat.le_refl _, fun _ _ _ => rfl, fun i hi => .inl hi⟩, Below.refl _ _⟩
  case round =>
    clear h
    obtain ⟨j, n, Wc, Oc, rv, hS, hj, hlen, D, KP, bel⟩ := hrel
    have hzk : (Z.set k (n, m))[k]? = some (n, m) := List.getElem?_set_self hkl
    obtain ⟨hm0, es, c, M, E⟩ := D.m k (n, m) hzk
    have hn : n < 65536 := D.zl (n, m) (List.mem_of_getElem? hzk)
    obtain ⟨_, _, _, e1, _, _, hhb, hhl, _, C⟩ := D.at_ hzk
    rw [HV.out] at e1
    simp only [Value.slice.injEq, Option.some.injEq, Addr.mk.injEq, and_true] at e1
    obtain ⟨⟨rfl, rfl⟩, -, -⟩ := e1
    rw [HO.out] at C
    have hml : m < wr.heap.size := M.lt
    have hgl : g < wr.heap.size := D.B.lt
    have hgb : b0 ≤ g := D.hg
    have hOc : Oc.length ≤ 1000 := by
      have h1 := passes_len (s := k) (z1, W, O) j
      rw [← hS] at h1
      have h2 : Wc.length + Oc.length = W.length + O.length := h1
      omega
    have c0 : wr.cell? ⟨hh, o, none⟩ = some (.int .u16 n) := C.cell 0 (u := .int .u16 n) rfl
    have c1 : wr.cell? ⟨hh, o + 1, none⟩ = some (.map (some m)) := C.cell 1 (u := .map (some m)) rfl
    have HNX := Lib.hid (leftM_eq M)
    have HSS := Lib.hid (And.intro hS (And.intro hj hlen))
    clear hS hj hlen
    rcases hp : pick k n Wc with _ | ⟨x, r⟩
    · have hf : Instr.findNow (.int .u16) (.int .u16 (n : Nat)) es.toList 0 = some none := entM_none E (pick_ofS_none hp) 0
      have lk1 : (Instr.lookup 200 (.map (some m)) (.int .u16 n) true).run Try.prog wr = .ok (.tuple #[.agg #[.int .i64 0, .int .i64 0, .bool false, .int .u32 0, .string ⟨#[]⟩], .bool false]) wr := lk_none uM uK M (zeroM _) hf
      have lk2 : ∀ o, (Instr.lookup 200 (.map (some m)) (.int .u16 n) true).run Try.prog (wr.alloc o) = .ok (.tuple #[.agg #[.int .i64 0, .int .i64 0, .bool false, .int .u32 0, .string ⟨#[]⟩], .bool false]) (wr.alloc o) := fun o => lk_none uM uK (M.alloc o) (zeroM _) hf
      have lk3 : ∀ o, (Instr.lookup 200 (.map (some m)) (.int .u16 n) true).run Try.prog (wr.alloc o).drew = .ok (.tuple #[.agg #[.int .i64 0, .int .i64 0, .bool false, .int .u32 0, .string ⟨#[]⟩], .bool false]) (wr.alloc o).drew := fun o => lk_none uM uK (M.alloc o).drew (zeroM _) hf
      have lk4 : (Instr.lookup 200 (.map (some m)) (.int .u16 n) true).run Try.prog wr.drew = .ok (.tuple #[.agg #[.int .i64 0, .int .i64 0, .bool false, .int .u32 0, .string ⟨#[]⟩], .bool false]) wr.drew := lk_none uM uK M.drew (zeroM _) hf
      have al := ((Below.refl wr.heap.size wr).alloc (Nat.le_refl _) (.cells #[.int .i64 0, .int .i64 0, .bool false, .int .u32 0, .string ⟨#[]⟩] 30)).drew
      have D9 := D.below al (Nat.le_refl _)
      have bel9 := bel.trans (al.mono (by omega))
      have K9 : Keep g sv rv0 Z rv w (wr.alloc (.cells #[.int .i64 0, .int .i64 0, .bool false, .int .u32 0, .string ⟨#[]⟩] 30)).drew := ⟨Nat.le_trans KP.size al.size, fun i hi hn => (al.block i (Nat.lt_of_lt_of_le hi KP.size)).trans (KP.block i hi hn), KP.rv⟩
      have HX := Lib.hid (And.intro hp (And.intro D9 (And.intro bel9 K9)))
      clear D KP bel M E C D9 bel9 K9 al hp hzk
      go_upto_region 0 with (fail)
      go_region
      go_wp2_with fail
      refine bodyPost_ret (v := .tuple #[]) (by simp [results]) rfl ⟨rfl, rv, j, HSS.out.2.1, ?_, ?_, HX.out.2.2.2, HX.out.2.2.1⟩
      · rw [← HSS.out.1]; exact HX.out.1
      · rw [← HSS.out.1]; exact HX.out.2.1
    · obtain ⟨A, B', e1, e2, e3, e4⟩ := pick_ofS hp
      rw [e1] at E
      have hf : Instr.findNow (.int .u16) (.int .u16 (n : Nat)) es.toList 0 = some (some (0 + A.length, .agg (mgc x))) := entM_some E e4 e3 0
      rw [Nat.zero_add] at hf
      have hE' : EntM (es.eraseIdxIfInBounds A.length).toList (ofS k r) := by rw [toList_eraseIn, e2]; exact entM_erase E
      have hel := entM_len E
      have hAl : A.length < es.size := by rw [List.length_append, List.length_cons] at hel; have h' : es.toList.length = es.size := by simp
                                          omega
      have hw16 : IntKind.u16.wrap ((n : Int) + 1) = (((n + 1) % 65536 : Nat) : Int) := by show ((n : Int) + 1) % 65536 = _; omega
      have hxd : ∃ s ss lo pr d, x = ⟨s, ss, lo, pr, d⟩ := ⟨x.st, x.ss, x.lo, x.pr, x.d, rfl⟩
      obtain ⟨s, ss, lo, pr, d, rfl⟩ := hxd
      have HP := Lib.hid (And.intro hp (And.intro hE' hAl))
      have hf' : Instr.findNow (.int .u16) (.int .u16 (n : Nat)) es.toList 0 = some (some (A.length, .agg #[.int .i64 s, .int .i64 ss, .bool lo, .int .u32 pr, .string d])) := hf
      generalize A.length = q at *
      clear hf E e1 e2 e3 e4 hE' hAl hel hp A B'
      have lk1 : (Instr.lookup 200 (.map (some m)) (.int .u16 n) true).run Try.prog wr = .ok (.tuple #[.agg #[.int .i64 s, .int .i64 ss, .bool lo, .int .u32 pr, .string d], .bool true]) wr := lk_some uM uK M hf'
      have lk2 : ∀ o, (Instr.lookup 200 (.map (some m)) (.int .u16 n) true).run Try.prog (wr.alloc o) = .ok (.tuple #[.agg #[.int .i64 s, .int .i64 ss, .bool lo, .int .u32 pr, .string d], .bool true]) (wr.alloc o) := fun o => lk_some uM uK (M.alloc o) hf'
      have lk3 : ∀ o, (Instr.lookup 200 (.map (some m)) (.int .u16 n) true).run Try.prog (wr.alloc o).drew = .ok (.tuple #[.agg #[.int .i64 s, .int .i64 ss, .bool lo, .int .u32 pr, .string d], .bool true]) (wr.alloc o).drew := fun o => lk_some uM uK (M.alloc o).drew hf'
      have lk4 : (Instr.lookup 200 (.map (some m)) (.int .u16 n) true).run Try.prog wr.drew = .ok (.tuple #[.agg #[.int .i64 s, .int .i64 ss, .bool lo, .int .u32 pr, .string d], .bool true]) wr.drew := lk_some uM uK M.drew hf'
      go_upto_region 0 with (fail)
      go_region
      have V1 : Blk (wr.alloc (.cells #[.int .i64 s, .int .i64 ss, .bool lo, .int .u32 pr, .string d] 30)).drew wr.heap.size 30 #[.int .i64 s, .int .i64 ss, .bool lo, .int .u32 pr, .string d] := (Blk.new wr 30 #[.int .i64 s, .int .i64 ss, .bool lo, .int .u32 pr, .string d]).drew
      have al := ((Below.refl wr.heap.size wr).alloc (Nat.le_refl _) (.cells #[.int .i64 s, .int .i64 ss, .bool lo, .int .u32 pr, .string d] 30)).drew
      have D1 := D.below al (Nat.le_refl _)
      have M1 := M.below al hml
      have bel1 := bel.trans (al.mono (by omega))
      have K1 : Keep g sv rv0 Z rv w (wr.alloc (.cells #[.int .i64 s, .int .i64 ss, .bool lo, .int .u32 pr, .string d] 30)).drew := ⟨Nat.le_trans KP.size al.size, fun i hi hn => (al.block i (Nat.lt_of_lt_of_le hi KP.size)).trans (KP.block i hi hn), KP.rv⟩
      have hv0 : wr.heap.size ≠ g := by omega
      have hv1 : wr.heap.size ≠ hh := by omega
      have hwv : w.heap.size ≤ wr.heap.size := KP.size
      clear D M C bel c0 c1 lk1 lk2 lk3 lk4 al KP
      generalize (wr.alloc (.cells #[.int .i64 s, .int .i64 ss, .bool lo, .int .u32 pr, .string d] 30)).drew = w1 at *
      generalize wr.heap.size = v at *
      obtain ⟨_, _, _, e1, _, _, _, hhl1, _, C⟩ := D1.at_ hzk
      rw [HV.out] at e1
      simp only [Value.slice.injEq, Option.some.injEq, Addr.mk.injEq, and_true] at e1
      obtain ⟨⟨rfl, rfl⟩, -, -⟩ := e1
      rw [HO.out] at C
      have c0 : w1.cell? ⟨hh, o, none⟩ = some (.int .u16 n) := C.cell 0 (u := .int .u16 n) rfl
      have c1 : w1.cell? ⟨hh, o + 1, none⟩ = some (.map (some m)) := C.cell 1 (u := .map (some m)) rfl
      have dl1 : ∀ ty, (Builtin.delete_ #[200, 163] ty #[.map (some m), .int .u16 n]).run Try.prog w1 = .ok (.tuple #[]) (Go.ChangeMaps.setBlock w1 m (.map (es.eraseIdxIfInBounds q) c)) := fun ty => by rw [del_some uM uK M1 #[200, 163] rfl ty hf']
      have dl2 : ∀ ty, (Builtin.delete_ #[200, 163] ty #[.map (some m), .int .u16 n]).run Try.prog w1.drew = .ok (.tuple #[]) (Go.ChangeMaps.setBlock w1.drew m (.map (es.eraseIdxIfInBounds q) c)) := fun ty => by rw [del_some uM uK M1.drew #[200, 163] rfl ty hf']
      go_upto_region 2 with (fail)
      go_region
      have D2 : Dw b0 g sv rv b (Z.set k (n, m)) r Oc (Go.ChangeMaps.setBlock w1.drew m (.map (es.eraseIdxIfInBounds q) c)) :=
        D1.drew.setM hzk HP.out.2.1 (fun t ht => pick_ofS_other HP.out.1 ht) (fun y hy => D1.sw y (pick_mem HP.out.1 hy)) (M1.drew.set_ _ _) (only_map M1.drew _ _)
      have V2 : Blk (Go.ChangeMaps.setBlock w1.drew m (.map (es.eraseIdxIfInBounds q) c)) v 30 #[.int .i64 s, .int .i64 ss, .bool lo, .int .u32 pr, .string d] := blk_map M1.drew V1.drew _ _
      have hmF : Foot g sv rv0 Z m := .inr (.inr (.inr ⟨(z1, m), List.mem_of_getElem? HZ.out.1, rfl⟩))
      have hhF : Foot g sv rv0 Z hh := .inr (.inl hbs)
      have hgF : Foot g sv rv0 Z g := .inl rfl
      have bel2 : Below b0 w (Go.ChangeMaps.setBlock w1.drew m (.map (es.eraseIdxIfInBounds q) c)) := M1.drew.bel bel1.drew hm0 _ _
      have K2 : Keep g sv rv0 Z rv w (Go.ChangeMaps.setBlock w1.drew m (.map (es.eraseIdxIfInBounds q) c)) := ⟨by rw [MapB.size]; exact K1.size, fun i hi hn => (M1.drew.other _ _ (fun e => hn (by rw [e]; exact hmF))).trans (K1.block i hi hn), K1.rv⟩
      have M2 : MapB (Go.ChangeMaps.setBlock w1.drew m (.map (es.eraseIdxIfInBounds q) c)) m (es.eraseIdxIfInBounds q) c := M1.drew.set_ _ _
      clear D1 M1 V1 bel1 C c0 c1 dl1 dl2 K1
      generalize Go.ChangeMaps.setBlock w1.drew m (.map (es.eraseIdxIfInBounds q) c) = w2 at *
      obtain ⟨_, _, _, e1, _, _, _, hhl2, _, C⟩ := D2.at_ hzk
      rw [HV.out] at e1
      simp only [Value.slice.injEq, Option.some.injEq, Addr.mk.injEq, and_true] at e1
      obtain ⟨⟨rfl, rfl⟩, -, -⟩ := e1
      rw [HO.out] at C
      have c0 : w2.cell? ⟨hh, o, none⟩ = some (.int .u16 n) := C.cell 0 (u := .int .u16 n) rfl
      have f0 : w2.frozen? ⟨hh, o, none⟩ = false := C.frozen 0 (by show 0 < 2; omega)
      go_upto_region 4 with (fail)
      rw [show ((n : Int) + 1) % 65536 = (((n + 1) % 65536 : Nat) : Int) by omega]
      have D3 : Dw b0 g sv rv b (Z.set k ((n + 1) % 65536, m)) r Oc (w2.setCell ⟨hh, o, none⟩ (.int .u16 (((n + 1) % 65536 : Nat) : Int))) := by
        have := D2.setN hzk (HV.out.trans (by rw [List.length_set])) hbs ((n + 1) % 65536) (by omega)
        rw [HO.out, List.set_set] at this
        exact this
      have hmh : m ≠ hh := fun e => (D2.mg (n, m) (List.mem_of_getElem? hzk)).2.1 (by rw [hbs, e])
      have V3 : Blk (w2.setCell ⟨hh, o, none⟩ (.int .u16 (((n + 1) % 65536 : Nat) : Int))) v 30 #[.int .i64 s, .int .i64 ss, .bool lo, .int .u32 pr, .string d] := V2.far (p := ⟨hh, o, none⟩) hv1 _
      have M3 : MapB (w2.setCell ⟨hh, o, none⟩ (.int .u16 (((n + 1) % 65536 : Nat) : Int))) m (es.eraseIdxIfInBounds q) c := M2.far (p := ⟨hh, o, none⟩) hmh _
      have bel3 : Below b0 w (w2.setCell ⟨hh, o, none⟩ (.int .u16 (((n + 1) % 65536 : Nat) : Int))) := bel2.setCell (p := ⟨hh, o, none⟩) hhb _
      have K3 : Keep g sv rv0 Z rv w (w2.setCell ⟨hh, o, none⟩ (.int .u16 (((n + 1) % 65536 : Nat) : Int))) := ⟨by simpa [World.setCell] using K2.size, fun i hi hn => (Below.heap_setCell w2 ⟨hh, o, none⟩ _ i (fun e => hn (by rw [e]; exact hhF))).trans (K2.block i hi hn), K2.rv⟩
      clear D2 M2 V2 bel2 C c0 f0 K2
      generalize w2.setCell ⟨hh, o, none⟩ (.int .u16 (((n + 1) % 65536 : Nat) : Int)) = w3 at *
      have hgl3 := D3.B.lt
      have hvl := V3.lt
      have g1 : w3.cell? ⟨g, 1, none⟩ = some rv := D3.B.cell 1
      have g1f : w3.frozen? ⟨g, 1, none⟩ = false := D3.B.frozen 1
      have y0 : w3.cell? ⟨v, 0, none⟩ = some (.int .i64 s) := V3.cell 0
      have y1 : w3.cell? ⟨v, 1, none⟩ = some (.int .i64 ss) := V3.cell 1
      have y2 : w3.cell? ⟨v, 2, none⟩ = some (.bool lo) := V3.cell 2
      have y3 : w3.cell? ⟨v, 3, none⟩ = some (.int .u32 pr) := V3.cell 3
      have y4 : w3.cell? ⟨v, 4, none⟩ = some (.string d) := V3.cell 4
      have al := ((Below.refl w3.heap.size w3).alloc (Nat.le_refl _) (.cells #[.int .i64 s, .int .i64 ss, .bool lo, .int .u32 pr, .string d] 30)).drew
      have D4 := D3.below al (Nat.le_refl _)
      have g4 : (w3.alloc (.cells #[.int .i64 s, .int .i64 ss, .bool lo, .int .u32 pr, .string d] 30)).cell? ⟨g, 1, none⟩ = some rv := D4.B.cell 1
      have hb3 : b0 ≤ (w3.alloc (.cells #[.int .i64 s, .int .i64 ss, .bool lo, .int .u32 pr, .string d] 30)).drew.heap.size := Nat.le_trans (by omega) al.size
      have qI : Src Try.prog 5 85 (.slice (some ⟨w3.heap.size, 0, none⟩) 1 1) 1 (mgc ⟨s, ss, lo, pr, d⟩).toList (w3.alloc (.cells #[.int .i64 s, .int .i64 ss, .bool lo, .int .u32 pr, .string d] 30)).drew := (qo_item w3 30 (mgc ⟨s, ss, lo, pr, d⟩)).drew.src Try.underlying85 (mgc_one _)
      obtain ⟨rv', w8, hr8, q8, gr8, ha8⟩ := qo_append (P := Try.prog) (t := 85) (ty := 85) Try.underlying85 hi hz0 hz1 hz2 rfl D4.r qI (by unfold maxLen; omega) (by omega) hb3
      have hs8 : (w3.alloc (.cells #[.int .i64 s, .int .i64 ss, .bool lo, .int .u32 pr, .string d] 30)).drew.heap.size = w3.heap.size + 1 := by show (w3.alloc _).heap.size = _; simp
      have q8' : Qo w8 b0 5 rv' (Oc ++ [(⟨s, ss, lo, pr, d⟩ : Mg)]).length (cellsM (Oc ++ [(⟨s, ss, lo, pr, d⟩ : Mg)])) := by
        rw [cellsM_append, List.length_append]
        simpa [cellsM] using q8
      have hrn : ∀ i, blkOf rv' = some i → blkOf rv = some i ∨ w3.heap.size ≤ i := fun i hi => by
        rcases ha8 with e | e | e
        · exact .inl (e ▸ hi)
        · rw [hs8] at e; rw [e] at hi; cases hi; exact .inr (by omega)
        · rw [e] at hi; cases hi
      have D8 := D4.app gr8 q8' (fun i hi => by rw [hs8]; exact (hrn i hi).imp_right (fun h => by
        rcases ha8 with e | e | e
        · exact absurd ((D3.r.lt (e ▸ hi)).2) (by omega)
        · rw [hs8] at e; rw [e] at hi; cases hi; omega
        · rw [e] at hi; cases hi))
      have B8 : Blk w8 g 199 #[sv, rv, .int .i64 (b : Nat)] := (gr8.block g (by rw [hs8]; omega) (fun e => D4.nr e.symm)).trans D4.B
      have c8 : w8.cell? ⟨g, 1, none⟩ = some rv := B8.cell 1
      have f8 : w8.frozen? ⟨g, 1, none⟩ = false := B8.frozen 1
      have M8 : MapB w8 m (es.eraseIdxIfInBounds q) c := (M3.below al M3.lt).block (gr8.block m (by rw [hs8]; have := M3.lt; omega) (fun e => (D3.mg ((n + 1) % 65536, m) (List.mem_of_getElem? (List.getElem?_set_self hkl))).2.2 e.symm))
      have M9 : MapB (w8.setCell ⟨g, 1, none⟩ rv') m (es.eraseIdxIfInBounds q) c := M8.far (p := ⟨g, 1, none⟩) (D3.mg ((n + 1) % 65536, m) (List.mem_of_getElem? (List.getElem?_set_self hkl))).1 _
      have bel9 : Below b0 w (w8.setCell ⟨g, 1, none⟩ rv') := ((bel3.trans (al.mono (by omega))).grown gr8 hb3 (fun i hi => (D3.r.lt hi).1)).setCell (p := ⟨g, 1, none⟩) hgb _
      have K9 : Keep g sv rv0 Z rv' w (w8.setCell ⟨g, 1, none⟩ rv') := ⟨by have h1 := gr8.size; have h2 := K3.size; rw [hs8] at h1; simp [World.setCell]; omega, fun i hi hn => by
          have h2 := K3.size
          refine (Below.heap_setCell w8 ⟨g, 1, none⟩ _ i (fun e => hn (by rw [e]; exact hgF))).trans ((gr8.block i (by rw [hs8]; omega) (fun e => ?_)).trans ((al.block i (by omega)).trans (K3.block i hi hn)))
          rcases K3.rv i e.symm with h' | h'
          · exact hn (.inr (.inr (.inl h')))
          · omega, fun i hi => by
          rcases hrn i hi with h' | h'
          · exact K3.rv i h'
          · exact .inr (Nat.le_trans K3.size h')⟩
      have HX := Lib.hid (show ∃ (j' n' : Nat) (Wc' Oc' : List Mg) (rv2 : Value), (n', Wc', Oc') = passes k j' (z1, W, O) ∧ j' ≤ W.length ∧ Wc'.length + j' = W.length ∧ Dw b0 g sv rv2 b (Z.set k (n', m)) Wc' Oc' (w8.setCell ⟨g, 1, none⟩ rv') ∧ Keep g sv rv0 Z rv2 w (w8.setCell ⟨g, 1, none⟩ rv') ∧ Below b0 w (w8.setCell ⟨g, 1, none⟩ rv') from by
        obtain ⟨hS, hj, hlen⟩ := HSS.out
        have hpl := pick_len HP.out.1
        refine ⟨j + 1, (n + 1) % 65536, r, Oc ++ [⟨s, ss, lo, pr, d⟩], rv', ?_, by omega, by omega, D8, K9, bel9⟩
        show _ = pass k (passes k j (z1, W, O))
        rw [← hS, pass_some (S := (n, Wc, Oc)) HP.out.1])
      have HN9 := Lib.hid (show leftM m (w8.setCell ⟨g, 1, none⟩ rv') < leftM m wr from by
        rw [leftM_eq M9, HNX.out]
        have := HP.out.2.2
        unfold Array.eraseIdxIfInBounds
        rw [dif_pos this, Array.size_eraseIdx]
        omega)
      obtain ⟨oa8, cap8, rfl, _, _⟩ := q8.shape
      generalize Oc.length + 1 = N8 at *
      clear D8 M9 M8 bel9 K9 K3 D4 D3 M3 bel3 al q8 q8' gr8 ha8 hrn qI V3
      go_region_law ((refine step_append_q (by rfl) _ _ _ (by rfl) (v := rv) (sv := .slice (some ⟨w3.heap.size, 0, none⟩) 1 1) (by rfl) (by rfl) hr8 ?_))
      all_goals
        go_wp2_with fail
        go_roundw
        case rel => exact HX.out
        case measure => exact HN9.out
end Go.Proofs.Ythddacgdmngfhaa.del
