/- Layer 17: whatever parts come, in whatever order; the statement walked (gen-rpg.py wrote this). -/
import Derived.Test.YthddacgdmngfhaaRpF
import Derived.Test.YthddacgdmngfhaaReaE
namespace Go.Proofs.Ythddacgdmngfhaa.rea
open Go.Sort (grow)
open Go.ChangeShapes Go.WideShapes Go.ChangeAt Go.RowKit kit
set_option maxRecDepth 100000

section
variable {P : Program}
theorem run_bin {oi : Oper} {a : Act} {x y : Operand} {tx ty : TypeId} {s j u : Value} {v : World} {op : BinOp} (ho : oi.op = .binOp op tx x y ty) (hop : op = .add ∨ op = .and ∨ op = .shr) (hx : a.eval x = s) (hy : a.eval y = j) (hr : (binOp op tx s j).run P v = .ok u v) : (execOp a.eval oi).run P v = .ok (.value u) v := by
  unfold execOp
  rcases hop with rfl | rfl | rfl <;> simp [ho, hx, hy, eqGuard, hr]
theorem run_cv {oi : Oper} {a : Act} {x : Operand} {t1 t2 : TypeId} {s u : Value} {v v' : World} (ho : oi.op = .convert t1 t2 x) (hx : a.eval x = s) (hr : (convert t1 t2 s).run P v = .ok u v') : (execOp a.eval oi).run P v = .ok (.value u) v' := by
  unfold execOp
  simp [ho, hx, hr]
theorem run_min2 {oi : Oper} {a : Act} {x y : Operand} {tx ty : TypeId} {s j u : Value} {v : World} (ho : oi.op = .call { callee := .builtin .min, args := #[x, y], argTypes := #[tx, ty] }) (hx : a.eval x = s) (hy : a.eval y = j) (hr : ∀ cs, (builtin .min #[tx, ty] oi.type cs #[s, j]).run P v = .ok (.value u) v) : (execOp a.eval oi).run P v = .ok (.value u) v := by
  unfold execOp
  simp [ho, resolve, invoke, hx, hy, hr]
theorem run_slice_hiS {oi : Oper} {a : Act} {x h : Operand} {ty : TypeId} {s j u : Value} {v : World} (ho : oi.op = .slice ty x none (some h) none) (hx : a.eval x = s) (hh : a.eval h = j) (hr : (Instr.sliceAt ty s none (some j) none).run P v = .ok u v) : (execOp a.eval oi).run P v = .ok (.value u) v := by
  unfold execOp
  simp [ho, hx, hh, hr]
theorem run_buildn {oi : Oper} {a : Act} {xs : Array (Nat × Operand)} {ty : TypeId} {vs : Array (Nat × Value)} {u : Value} {v : World} (ho : oi.op = .build ty xs) (hx : (xs.map fun (p : Nat × Operand) => (p.1, a.eval p.2)) = vs) (hr : (Instr.build ty vs).run P v = .ok u v) : (execOp a.eval oi).run P v = .ok (.value u) v := by
  unfold execOp
  simp only [ho]
  rw [← hx] at hr
  simp only [Sem.run_bind, Sem.run_pure, Result.andThen_ok, hr]
theorem take_Yv {ops : Array Oper} {Q : Exit → Act → World → Prop} {S : World → Prop} {i : Nat} {o : Oper} {u : Value} {d fuel : Nat} {L : Array Bool} {a : Act} {w w' : World} (hr : Region.ready .any ops L = [i]) (hi : ops[i]? = some o) (hg : o.guard = none) (hd : o.dst = some d) (hS : S w') (hrun : (execOp a.eval o).run P w = .ok (.value u) w')
    (h : wpAnyH P .any ops Q S fuel (L.setIfInBounds i true) (a.put (some d) u) w') : wpAnyH P .any ops Q S (fuel + 1) L a w := step_val hr hi hg hd hS hrun h
end
theorem add_blk (a : Addr) (i : Nat) : (a.add i).block = a.block := by unfold Addr.add; split <;> rfl
theorem neqM (s p : Int) (lo : Bool) (n : Int) (d : ByteArray) (W : World) : (binOp .neq 30 (.agg #[.int .i64 s, .int .i64 p, .bool lo, .int .u32 n, .string d]) (.agg #[.int .i64 s, .int .i64 p, .bool lo, .int .u32 n, .string d])).run Try.prog W = .ok (.bool false) W := by go_simp
/-- Which numbers came. -/
def sbc (s : Nat → Bool) : Array Value := ((List.range 64).map fun i => Value.bool (s i)).toArray
theorem sbc_get (s : Nat → Bool) {i : Nat} (h : i < 64) : (sbc s)[i]? = some (.bool (s i)) := by unfold sbc; simp [h]
theorem sbc_size (s : Nat → Bool) : (sbc s).size = 64 := by unfold sbc; simp
theorem sbc_set (s : Nat → Bool) {k : Nat} (hk : k < 64) : (sbc s).setIfInBounds k (.bool true) = sbc fun i => s i || decide (i = k) := by
  apply Array.ext_getElem?
  intro i
  rw [Array.getElem?_setIfInBounds]
  by_cases hi : i < 64
  · by_cases e : k = i
    · subst e
      rw [if_pos rfl, if_pos (by rw [sbc_size]; exact hi), sbc_get _ hi]
      simp
    · rw [if_neg e, sbc_get _ hi, sbc_get _ hi]
      simp [Ne.symm e]
  · rw [Array.getElem?_eq_none (by rw [sbc_size]; omega), Array.getElem?_eq_none (by rw [sbc_size]; omega)]
    split
    · split
      · omega
      · rfl
    · rfl
theorem mkB_run (w : World) : (Instr.makeSlice 65 (.int .i64 64) (.int .i64 64)).run Try.prog w = .ok (.slice (some ⟨w.heap.size, 0, none⟩) 64 64) (w.alloc (.cells (sbc fun _ => false) 4)) := by
  have h : (Instr.makeSlice 65 (.int .i64 64) (.int .i64 64)).run Try.prog w = .ok (.slice (some ⟨w.heap.size, 0, none⟩) 64 64) (w.alloc (.cells (Array.replicate 64 (.bool false)) 4)) := by kernel_rfl
  rw [h]
  have : (Array.replicate 64 (Value.bool false)) = sbc fun _ => false := by kernel_rfl
  rw [this]
/-- A part, as it is handed in. -/
structure Pz where
  a : Int
  f : Int
  s : Int
  d : ByteArray
def pzc (x : Pz) : Array Value := #[.int .i64 x.a, .int .i64 x.f, .int .i64 x.s, .string x.d]
theorem szP (x : Pz) : (Try.prog.info? 100).map (·.size) = some (pzc x).size := by show _ = some 4; kernel_rfl
/-- What holds behind so many parts. -/
structure Rs (G g m sb T i : Nat) (L : List Pk) (v : Value) (s : Nat → Bool) (w wr : World) : Prop where
  p : ∃ es cc, Pa G g m es cc (btk L : Nat) wr ∧ EntK T es.toList L
  q : Qo wr G 15 v L.length (cellsK T L)
  hq : ∀ b, blkOf v = some b → b ≠ g ∧ b ≠ m ∧ b ≠ sb
  B : Blk wr sb 4 (sbc s)
  hb : G ≤ sb ∧ sb ≠ g ∧ sb ≠ m
  nd : Nd L
  h64 : ∀ x ∈ L, x.k < 64
  h8 : ∀ x ∈ L, x.f < 8
  h6 : ∀ x ∈ L, x.d.size ≤ 6
  hs : ∀ x ∈ L, s x.k = true
  hl : L.length ≤ i
  bel : Below G w wr
theorem btk_le {L : List Pk} (h6 : ∀ x ∈ L, x.d.size ≤ 6) : btk L ≤ 6 * L.length := by
  induction L with
  | nil => exact Nat.le_refl _
  | cons x r ih =>
    have h1 := h6 x (by simp)
    have h2 := ih (fun y hy => h6 y (by simp [hy]))
    show x.d.size + btk r ≤ 6 * (r.length + 1)
    omega
theorem amsg_shape (L : List Pk) (o : Option (Pk × Pk)) : ∃ (ms mp : Int) (ml : Bool) (mk : Int) (md : ByteArray), amsg L o = #[.int .i64 ms, .int .i64 mp, .bool ml, .int .u32 mk, .string md] := by
  rcases o with _ | ⟨F, La⟩
  · exact ⟨0, 0, false, 0, ⟨#[]⟩, rfl⟩
  · exact ⟨_, _, _, _, _, rfl⟩
theorem aleft_sub (L : List Pk) (o : Option (Pk × Pk)) : ∀ x ∈ aleft L o, x ∈ L := by
  rcases o with _ | ⟨F, La⟩
  · exact fun x h => h
  · exact fun x h => (List.mem_filter.1 h).1
theorem aleft_nd {L : List Pk} (h : Nd L) (o : Option (Pk × Pk)) : Nd (aleft L o) := by
  rcases o with _ | ⟨F, La⟩
  · exact h
  · exact nd_filter h _
theorem aleft_len (L : List Pk) (o : Option (Pk × Pk)) : (aleft L o).length ≤ L.length := by
  rcases o with _ | ⟨F, La⟩
  · exact Nat.le_refl _
  · exact List.length_filter_le _ _
theorem nd_snoc {L : List Pk} {c : Pk} (h : Nd L) (hc : ∀ x ∈ L, x.k ≠ c.k) : Nd (L ++ [c]) := by
  unfold Nd at *
  rw [List.map_append, List.nodup_append]
  refine ⟨h, by simp, fun a ha b hb => ?_⟩
  obtain ⟨x, hx, rfl⟩ := List.mem_map.1 ha
  simp at hb
  rw [hb]
  exact hc x hx
theorem btk_take {L : List Pk} {k : Nat} {y : Pk} (hy : L[k]? = some y) : btk (L.take (k + 1)) = btk (L.take k) + y.d.size := by
  rw [List.take_add_one, hy, btk_append]
  simp [btk]
theorem btk_take_le (L : List Pk) (k : Nat) : btk (L.take k) ≤ btk L := by
  have h := btk_append (L.take k) (L.drop k)
  rw [List.take_append_drop] at h
  omega
theorem Rs.below {G g m sb T i : Nat} {L : List Pk} {v : Value} {s : Nat → Bool} {w wr w' : World} (h : Rs G g m sb T i L v s w wr) {k : Nat} (hb : Below k wr w') (hk : wr.heap.size ≤ k) : Rs G g m sb T i L v s w w' := by
  obtain ⟨es, cc, p, E⟩ := h.p
  exact ⟨⟨es, cc, p.below hb hk, E⟩, h.q.below hb hk, h.hq, h.B.below hb (Nat.lt_of_lt_of_le h.B.lt hk), h.hb, h.nd, h.h64, h.h8, h.h6, h.hs, h.hl, h.bel.trans (hb.mono (by have := h.B.lt; have := h.hb; omega))⟩
theorem Rs.more {G g m sb T i : Nat} {L : List Pk} {v : Value} {s : Nat → Bool} {w wr : World} (h : Rs G g m sb T i L v s w wr) : Rs G g m sb T (i + 1) L v s w wr :=
  ⟨h.p, h.q, h.hq, h.B, h.hb, h.nd, h.h64, h.h8, h.h6, h.hs, Nat.le_succ_of_le h.hl, h.bel⟩
theorem Rs.see {G g m sb T i : Nat} {L : List Pk} {v : Value} {s : Nat → Bool} {w wr : World} (h : Rs G g m sb T i L v s w wr) {k : Nat} (hk : k < 64) : Rs G g m sb T i L v (fun j => s j || decide (j = k)) w (wr.setCell ⟨sb, k, none⟩ (.bool true)) := by
  obtain ⟨es, cc, p, E⟩ := h.p
  refine ⟨⟨es, cc, p.far (p := ⟨sb, k, none⟩) (Ne.symm h.hb.2.1) (Ne.symm h.hb.2.2) _, E⟩, h.q.far (p := ⟨sb, k, none⟩) (fun e => (h.hq sb e).2.2 rfl) _, h.hq, ?_, h.hb, h.nd, h.h64, h.h8, h.h6, fun x hx => by simp [h.hs x hx], h.hl, h.bel.setCell (p := ⟨sb, k, none⟩) h.hb.1 _⟩
  rw [← sbc_set s hk]
  exact h.B.set_ k _

set_option maxHeartbeats 8000000 in
theorem plays_walk (T : Nat) (hT : T < 4294967296) (oa : Option Addr) (ad : Addr) (len cap : Nat) (av : Nat → Pz) (w : World) (hlc : len ≤ cap) (hcm : cap ≤ maxLen) (hoa : 0 < len → oa = some ad) (hab : 0 < len → ad.block < w.heap.size)
    (hv : ∀ i, i < len → ∀ (j : Nat) u, (pzc (av i))[j]? = some u → w.cell? ((ad.add (i * 4)).add j) = some u) (hvs : ∀ i, i < len → (av i).d.size ≤ maxLen) :
    Calls Try.prog 9 #[.int .u32 (T : Nat), .slice oa len cap] w fun e w' => e = .returned (.bool true) ∧ Below w.heap.size w w' := by
  unfold maxLen at hcm
  have HV := Lib.hid (And.intro hoa (And.intro hv (And.intro hvs hab)))
  clear hoa hv hvs hab
  go_enter Try.func9, Try.ntmps9
  go_wp2_with fail
  refine (new_any w).mono ?_
  rintro e w1 ⟨rfl, p1, b1⟩
  go_upto_region 2 with fail
  have q2 := Qo.empty (w1.alloc (.cells #[] 40)) w.heap.size 15 (some ⟨w1.heap.size, 0, none⟩)
  have al2 := (Below.refl w1.heap.size w1).alloc (Nat.le_refl _) (.cells #[] 40)
  have p2 := p1.below al2 (Nat.le_refl _)
  have b2 := b1.trans (al2.mono b1.size)
  have hs1 : w.heap.size + 1 < w1.heap.size := p1.B.lt
  clear p1 b1 al2
  obtain ⟨qb, hqb⟩ : ∃ qb, w1.heap.size = qb := ⟨_, rfl⟩
  rw [hqb] at q2 hs1
  try rw [hqb]
  obtain ⟨w2, hw2⟩ : ∃ w2, w1.alloc (.cells #[] 40) = w2 := ⟨_, rfl⟩
  have hs2 : qb < w2.heap.size := by rw [← hw2, ← hqb]; simp
  rw [hw2] at p2 b2 q2
  try rw [hw2]
  clear hw2 hqb
  have mk := mkB_run w2
  go_upto_region 3 with fail
  have al3 := (Below.refl w2.heap.size w2).alloc (Nat.le_refl _) (.cells (sbc fun _ => false) 4)
  have B3 := Blk.new w2 4 (sbc fun _ => false)
  have p3 := p2.below al3 (Nat.le_refl _)
  have q3 := q2.below al3 (Nat.le_refl _)
  have b3 := b2.trans (al3.mono b2.size)
  clear mk p2 q2 b2 al3
  obtain ⟨w3, hw3⟩ : ∃ w3, w2.alloc (.cells (sbc fun _ => false) 4) = w3 := ⟨_, rfl⟩
  rw [hw3] at p3 q3 b3 B3
  try rw [hw3]
  clear hw3
  obtain ⟨sb, hsb⟩ : ∃ sb, w2.heap.size = sb := ⟨_, rfl⟩
  rw [hsb] at B3 hs2
  try rw [hsb]
  clear hsb
  have RS3 : Rs w.heap.size (w.heap.size + 1) w.heap.size sb T 0 [] (.slice (some ⟨qb, 0, none⟩) 0 0) (fun _ => false) w w3 := ⟨⟨_, _, p3, trivial⟩, q3, (fun b h => by cases h), B3, by omega, List.nodup_nil, (fun x h => by cases h), (fun x h => by cases h), (fun x h => by cases h), (fun x h => by cases h), Nat.le_refl _, b3⟩
  have hgw : w.heap.size < w3.heap.size := by have := B3.lt; omega
  clear p3 q3 b3 B3
  go_wp2_with fail
  refine (awake17_any w3).mono ?_
  rintro e w4 ⟨rfl, b4⟩
  have RS4 := RS3.below b4 (Nat.le_refl _)
  clear RS3 b4 hgw
  obtain ⟨G, hG⟩ : ∃ G, w.heap.size = G := ⟨_, rfl⟩
  have HG := Lib.hid hG
  rw [hG] at RS4
  try rw [hG]
  clear hG hs1 hs2
  have HR4 := Lib.hid RS4
  clear RS4
  go_wp2_with fail
  go_loopw [6, 8] (fun s6 s8 wr => ∃ (i : Nat) (L : List Pk) (ov : Option Addr) (cv : Nat) (s : Nat → Bool), s8 = .int .i64 (i : Nat) ∧ i ≤ len ∧ i ≤ 50 ∧ s6 = .slice ov L.length cv ∧ Rs G (G + 1) G sb T i L (.slice ov L.length cv) s w wr) (fun _ s8 _ => 50 - (intOf s8).toNat)
  case atStart => exact ⟨0, [], some ⟨qb, 0, none⟩, 0, fun _ => false, rfl, by omega, by omega, rfl, HR4.out⟩
  case round =>
    clear HR4
    obtain ⟨i, L, ov, cv, s, rfl, hil, hi5, rfl, RS⟩ := hrel
    by_cases hlt : i < len
    · by_cases h50 : i < 50
      · have hoa := HV.out.1 (by omega)
        subst hoa
        obtain ⟨a, hA⟩ : ∃ a, av i = a := ⟨_, rfl⟩
        have KA := HV.out.2.1 i hlt
        have hds := HV.out.2.2.1 i hlt
        have hadb := HV.out.2.2.2 (by omega)
        rw [hA] at KA hds
        obtain ⟨far, fl, st, d⟩ := a
        have KA' : ∀ (j : Nat) u, (#[.int .i64 far, .int .i64 fl, .int .i64 st, .string d] : Array Value)[j]? = some u → wr.cell? ((ad.add (i * 4)).add j) = some u := fun j u hu => (RS.bel.cell (p := (ad.add (i * 4)).add j) (by rw [add_blk, add_blk, ← HG.out]; omega)).trans (KA j u hu)
        have hd : d.size ≤ maxLen := hds
        unfold maxLen at hd
        clear KA hA hds
        go_upto_region 9 with (refine wpList_load_from rfl 100 _ rfl (ad.add (i * 4)) rfl #[.int .i64 far, .int .i64 fl, .int .i64 st, .string d] _ KA' Try.underlying100 rfl (szP ⟨far, fl, st, d⟩) ?_)
        clear KA'
        have A5 := Blk.new wr 100 #[.int .i64 far, .int .i64 fl, .int .i64 st, .string d]
        have RS5 := RS.below ((Below.refl wr.heap.size wr).alloc (Nat.le_refl _) (.cells #[.int .i64 far, .int .i64 fl, .int .i64 st, .string d] 100)) (Nat.le_refl _)
        have hsb : sb < wr.heap.size := RS.B.lt
        clear RS
        obtain ⟨w5, hw5⟩ : ∃ w5, wr.alloc (.cells #[.int .i64 far, .int .i64 fl, .int .i64 st, .string d] 100) = w5 := ⟨_, rfl⟩
        rw [hw5] at A5 RS5
        try rw [hw5]
        clear hw5
        obtain ⟨ab, hab⟩ : ∃ ab, wr.heap.size = ab := ⟨_, rfl⟩
        rw [hab] at A5 hsb
        try rw [hab]
        clear hab
        have a0 : w5.cell? ⟨ab, 0, none⟩ = some (.int .i64 far) := A5.cell 0
        have hmx := i64_mask far 6 (by omega)
        rw [show ((2 ^ 6 - 1 : Nat) : Int) = 63 from rfl] at hmx
        obtain ⟨k, hk, hk64⟩ : ∃ k : Nat, bits .and .i64 far 63 = k ∧ k < 64 := ⟨(far % (2 ^ 6 : Nat)).toNat, by rw [hmx]; omega, by omega⟩
        clear hmx
        have hk0 : (0 : Int) ≤ (k : Int) := by omega
        have hk1 : (k : Int) < 64 := by omega
        obtain ⟨bk, hbk⟩ : ∃ bk, s k = bk := ⟨_, rfl⟩
        have sk : w5.cell? ⟨sb, k, none⟩ = some (.bool bk) := by rw [← hbk, ← sbc_get s hk64]; exact RS5.B.cell k
        have sf : w5.frozen? ⟨sb, k, none⟩ = false := RS5.B.frozen k
        have HS5 := Lib.hid (And.intro RS5 hbk)
        clear RS5 hbk
        cases bk with
        | true =>
          clear A5
          go_wp2_with fail
          go_roundw
          case rel => exact ⟨i + 1, L, ov, cv, s, by go_num, by omega, by omega, rfl, HS5.out.1.more⟩
          case measure => simp [intOf]; omega
        | false =>
        go_upto_region 12 with fail
        have RS6 := HS5.out.1.see hk64
        have A6 := A5.far (p := ⟨sb, k, none⟩) (show ab ≠ sb by omega) (.bool true)
        have hsk := HS5.out.2
        have hnk : ∀ x ∈ L, x.k ≠ k := fun x hx e => by have := HS5.out.1.hs x hx; rw [e, hsk] at this; cases this
        clear HS5 A5 a0 sk sf hk
        obtain ⟨w6, hw6⟩ : ∃ w6, w5.setCell ⟨sb, k, none⟩ (.bool true) = w6 := ⟨_, rfl⟩
        rw [hw6] at A6 RS6
        try rw [hw6]
        clear hw6
        have hm7 := i64_mask fl 3 (by omega)
        rw [show ((2 ^ 3 - 1 : Nat) : Int) = 7 from rfl] at hm7
        obtain ⟨f, hf, hf8⟩ : ∃ f : Nat, bits .and .i64 fl 7 = f ∧ f < 8 := ⟨(fl % (2 ^ 3 : Nat)).toNat, by rw [hm7]; omega, by omega⟩
        have hm1 := i64_mask st 1 (by omega)
        rw [show ((2 ^ 1 - 1 : Nat) : Int) = 1 from rfl] at hm1
        obtain ⟨s1, hs1⟩ : ∃ s1 : Nat, bits .and .i64 st 1 = s1 := ⟨(st % (2 ^ 1 : Nat)).toNat, by rw [hm1]; omega⟩
        obtain ⟨sh, hshr⟩ : ∃ sh : Int, ∀ v, (binOp .shr 3 (.int .i64 st) (.int .u64 1)).run Try.prog v = .ok (.int .i64 sh) v := ⟨st / 2, fun v => by go_simp⟩
        have hm2 := i64_mask sh 1 (by omega)
        rw [show ((2 ^ 1 - 1 : Nat) : Int) = 1 from rfl] at hm2
        obtain ⟨s2, hs2⟩ : ∃ s2 : Nat, bits .and .i64 sh 1 = s2 := ⟨(sh % (2 ^ 1 : Nat)).toNat, by rw [hm2]; omega⟩
        have han7 : ∀ v, (binOp .and 3 (.int .i64 fl) (.int .i64 7)).run Try.prog v = .ok (.int .i64 (f : Nat)) v := fun v => by rw [← hf]; go_simp
        have han1 : ∀ v, (binOp .and 3 (.int .i64 st) (.int .i64 1)).run Try.prog v = .ok (.int .i64 (s1 : Nat)) v := fun v => by rw [← hs1]; go_simp
        have han2 : ∀ v, (binOp .and 3 (.int .i64 sh) (.int .i64 1)).run Try.prog v = .ok (.int .i64 (s2 : Nat)) v := fun v => by rw [← hs2]; go_simp
        have hadd : ∀ v, (binOp .add 28 (.int .u32 (T : Nat)) (.int .u32 (k : Nat))).run Try.prog v = .ok (.int .u32 ((ts T k : Nat) : Int)) v := fun v => by
          have : ((ts T k : Nat) : Int) = ((T : Int) + (k : Int)) % 4294967296 := by unfold ts; omega
          rw [this]
          first | (go_simp; done) | (go_simp; rfl)
        have hcv : ∀ v, (convert 3 28 (.int .i64 (k : Nat))).run Try.prog v = .ok (.int .u32 (k : Nat)) v := fun v => by
          have h1 : ((k : Nat) : Int) % 4294967296 = ((k : Nat) : Int) := by omega
          first | (go_simp; done) | (go_simp; exact h1)
        obtain ⟨q, hq⟩ : ∃ q : Nat, min d.size 6 = q := ⟨_, rfl⟩
        have hlen1 : ∀ v cs, (builtin .len #[9] 3 cs #[.string d]).run Try.prog v = .ok (.value (.int .i64 d.size)) v := fun v cs => by go_simp
        have hmin : ∀ v cs, (builtin .min #[3, 3] 3 cs #[.int .i64 d.size, .int .i64 6]).run Try.prog v = .ok (.value (.int .i64 q)) v := fun v cs => by
          unfold builtin
          by_cases h5 : (d.size : Int) ≤ 6
          · obtain rfl : d.size = q := by omega
            first | (go_simp; done) | (go_simp; omega)
          · obtain rfl : q = 6 := by omega
            first | (go_simp; done) | (go_simp; omega)
        have hsl : ∀ v, (Instr.sliceAt 9 (.string d) none (some (.int .i64 q)) none).run Try.prog v = .ok (.string (d.extract 0 q)) v := fun v => by
          have h1 : (q : Int) ≤ (d.size : Int) := by omega
          have h2 : q ≤ d.size := by omega
          go_simp
        have HS : Blk w6.drew ab 100 #[.int .i64 far, .int .i64 fl, .int .i64 st, .string d] := A6
        refine wp_region_noPanic ?_
        refine wp_region_held_drew (S := fun v => Blk v ab 100 #[.int .i64 far, .int .i64 fl, .int .i64 st, .string d]) (by kernel_rfl) HS (fun _ => ?_)
        refine wpAnyH_abs _ (fun b hb => ?_)
        have hsz : b.tmps.size = 121 := by rw [hb]; rfl
        have e0 : b.eval (.tmp 0) = .int .u32 (T : Nat) := by rw [hb]; rfl
        have e9 : b.eval (.tmp 9) = .pointer (some ⟨ab, 0, none⟩) := by rw [hb]; rfl
        have e10 : b.eval (.tmp 10) = .int .i64 (k : Nat) := by rw [hb]; rfl
        have HB := Lib.hid hb
        clear hb
        have EV := And.intro @Act.eval_put_ne (And.intro @Act.eval_put_same (And.intro @Act.size_put (And.intro hsz (And.intro e0 (And.intro e9 e10)))))
        refine take_run (i := 0) (u := .int .u32 (T : Nat)) rfl (by kernel_rfl) (by kernel_rfl) (by kernel_rfl) rfl rfl (fun _ _ _ h => h) HS (fun v hv => run_move rfl (by simp [EV]) v) ?_
        refine take_run (i := 1) (u := .int .i64 (k : Nat)) rfl (by kernel_rfl) (by kernel_rfl) (by kernel_rfl) rfl rfl (fun _ _ _ h => h) HS (fun v hv => run_move rfl (by simp [EV]) v) ?_
        refine take_run (i := 2) (u := .int .u32 (k : Nat)) rfl (by kernel_rfl) (by kernel_rfl) (by kernel_rfl) rfl rfl (fun _ _ _ h => h) HS (fun v hv => run_cv rfl (by simp [EV]) (hcv v)) ?_
        refine take_run (i := 3) (u := .int .u32 ((ts T k : Nat) : Int)) rfl (by kernel_rfl) (by kernel_rfl) (by kernel_rfl) rfl rfl (fun _ _ _ h => h) HS (fun v hv => run_bin (s := .int .u32 (T : Nat)) (j := .int .u32 (k : Nat)) rfl (.inl rfl) (by simp [EV]) (by simp [EV]) (hadd v)) ?_
        refine take_run (i := 4) (u := .pointer (some ⟨ab, 1, none⟩)) rfl (by kernel_rfl) (by kernel_rfl) (by kernel_rfl) rfl rfl (fun _ _ _ h => h) HS (fun v hv => run_field (s := .pointer (some ⟨ab, 0, none⟩)) rfl (by simp [EV]) (by kernel_rfl)) ?_
        refine take_run (i := 5) (u := .int .i64 fl) rfl (by kernel_rfl) (by kernel_rfl) (by kernel_rfl) rfl rfl (fun _ _ _ h => h) HS (fun v hv => run_load1 (s := .pointer (some ⟨ab, 1, none⟩)) rfl (by simp [EV]) (by have c : v.cell? ⟨ab, 1, none⟩ = some (.int .i64 fl) := Blk.cell hv 1; go_simp)) ?_
        refine take_run (i := 6) (u := .int .i64 (f : Nat)) rfl (by kernel_rfl) (by kernel_rfl) (by kernel_rfl) rfl rfl (fun _ _ _ h => h) HS (fun v hv => run_bin (s := .int .i64 fl) (j := .int .i64 7) rfl (.inr (.inl rfl)) (by simp [EV]) (by first | rfl | simp [EV]) (han7 v)) ?_
        refine take_run (i := 7) (u := .pointer (some ⟨ab, 2, none⟩)) rfl (by kernel_rfl) (by kernel_rfl) (by kernel_rfl) rfl rfl (fun _ _ _ h => h) HS (fun v hv => run_field (s := .pointer (some ⟨ab, 0, none⟩)) rfl (by simp [EV]) (by kernel_rfl)) ?_
        refine take_run (i := 8) (u := .int .i64 st) rfl (by kernel_rfl) (by kernel_rfl) (by kernel_rfl) rfl rfl (fun _ _ _ h => h) HS (fun v hv => run_load1 (s := .pointer (some ⟨ab, 2, none⟩)) rfl (by simp [EV]) (by have c : v.cell? ⟨ab, 2, none⟩ = some (.int .i64 st) := Blk.cell hv 2; go_simp)) ?_
        refine take_run (i := 9) (u := .int .i64 (s1 : Nat)) rfl (by kernel_rfl) (by kernel_rfl) (by kernel_rfl) rfl rfl (fun _ _ _ h => h) HS (fun v hv => run_bin (s := .int .i64 st) (j := .int .i64 1) rfl (.inr (.inl rfl)) (by simp [EV]) (by first | rfl | simp [EV]) (han1 v)) ?_
        refine take_run (i := 10) (u := .pointer (some ⟨ab, 2, none⟩)) rfl (by kernel_rfl) (by kernel_rfl) (by kernel_rfl) rfl rfl (fun _ _ _ h => h) HS (fun v hv => run_field (s := .pointer (some ⟨ab, 0, none⟩)) rfl (by simp [EV]) (by kernel_rfl)) ?_
        refine take_run (i := 11) (u := .int .i64 st) rfl (by kernel_rfl) (by kernel_rfl) (by kernel_rfl) rfl rfl (fun _ _ _ h => h) HS (fun v hv => run_load1 (s := .pointer (some ⟨ab, 2, none⟩)) rfl (by simp [EV]) (by have c : v.cell? ⟨ab, 2, none⟩ = some (.int .i64 st) := Blk.cell hv 2; go_simp)) ?_
        refine take_run (i := 12) (u := .int .i64 sh) rfl (by kernel_rfl) (by kernel_rfl) (by kernel_rfl) rfl rfl (fun _ _ _ h => h) HS (fun v hv => run_bin (s := .int .i64 st) (j := .int .u64 1) rfl (.inr (.inr rfl)) (by simp [EV]) (by first | rfl | simp [EV]) (hshr v)) ?_
        refine take_run (i := 13) (u := .int .i64 (s2 : Nat)) rfl (by kernel_rfl) (by kernel_rfl) (by kernel_rfl) rfl rfl (fun _ _ _ h => h) HS (fun v hv => run_bin (s := .int .i64 sh) (j := .int .i64 1) rfl (.inr (.inl rfl)) (by simp [EV]) (by first | rfl | simp [EV]) (han2 v)) ?_
        refine take_run (i := 14) (u := .int .i64 (k : Nat)) rfl (by kernel_rfl) (by kernel_rfl) (by kernel_rfl) rfl rfl (fun _ _ _ h => h) HS (fun v hv => run_move rfl (by simp [EV]) v) ?_
        refine take_run (i := 15) (u := .int .u32 (k : Nat)) rfl (by kernel_rfl) (by kernel_rfl) (by kernel_rfl) rfl rfl (fun _ _ _ h => h) HS (fun v hv => run_cv rfl (by simp [EV]) (hcv v)) ?_
        refine take_run (i := 16) (u := .pointer (some ⟨ab, 3, none⟩)) rfl (by kernel_rfl) (by kernel_rfl) (by kernel_rfl) rfl rfl (fun _ _ _ h => h) HS (fun v hv => run_field (s := .pointer (some ⟨ab, 0, none⟩)) rfl (by simp [EV]) (by kernel_rfl)) ?_
        refine take_run (i := 17) (u := .string d) rfl (by kernel_rfl) (by kernel_rfl) (by kernel_rfl) rfl rfl (fun _ _ _ h => h) HS (fun v hv => run_load1 (s := .pointer (some ⟨ab, 3, none⟩)) rfl (by simp [EV]) (by have c : v.cell? ⟨ab, 3, none⟩ = some (.string d) := Blk.cell hv 3; go_simp)) ?_
        refine take_run (i := 18) (u := .pointer (some ⟨ab, 3, none⟩)) rfl (by kernel_rfl) (by kernel_rfl) (by kernel_rfl) rfl rfl (fun _ _ _ h => h) HS (fun v hv => run_field (s := .pointer (some ⟨ab, 0, none⟩)) rfl (by simp [EV]) (by kernel_rfl)) ?_
        refine take_run (i := 19) (u := .string d) rfl (by kernel_rfl) (by kernel_rfl) (by kernel_rfl) rfl rfl (fun _ _ _ h => h) HS (fun v hv => run_load1 (s := .pointer (some ⟨ab, 3, none⟩)) rfl (by simp [EV]) (by have c : v.cell? ⟨ab, 3, none⟩ = some (.string d) := Blk.cell hv 3; go_simp)) ?_
        refine take_run (i := 20) (u := .int .i64 d.size) rfl (by kernel_rfl) (by kernel_rfl) (by kernel_rfl) rfl rfl (fun _ _ _ h => h) HS (fun v hv => run_lens rfl (by simp [EV]) (hlen1 v)) ?_
        refine take_run (i := 21) (u := .int .i64 q) rfl (by kernel_rfl) (by kernel_rfl) (by kernel_rfl) rfl rfl (fun _ _ _ h => h) HS (fun v hv => run_min2 (s := .int .i64 d.size) (j := .int .i64 6) rfl (by simp [EV]) (by first | rfl | simp [EV]) (hmin v)) ?_
        refine take_run (i := 22) (u := .string (d.extract 0 q)) rfl (by kernel_rfl) (by kernel_rfl) (by kernel_rfl) rfl rfl (fun _ _ _ h => h) HS (fun v hv => run_slice_hiS (s := .string d) (j := .int .i64 q) rfl (by simp [EV]) (by simp [EV]) (hsl v)) ?_
        refine take_run (i := 23) (u := .agg #[.int .i64 0, .int .i64 (f : Nat), .int .u32 ((ts T k : Nat) : Int), .int .i64 (s1 : Nat), .int .i64 (s2 : Nat), .int .u32 (k : Nat), .string (d.extract 0 q), .int .u32 0, .int .u32 0, .int .i64 0, .int .i64 0, .slice none 0 0, .slice none 0 0, .slice none 0 0, .slice none 0 0]) rfl (by kernel_rfl) (by kernel_rfl) (by kernel_rfl) rfl rfl (fun _ _ _ h => h) HS (fun v hv => run_buildn (vs := #[(0, .int .i64 0), (2, .int .u32 ((ts T k : Nat) : Int)), (1, .int .i64 (f : Nat)), (3, .int .i64 (s1 : Nat)), (4, .int .i64 (s2 : Nat)), (5, .int .u32 (k : Nat)), (6, .string (d.extract 0 q))]) rfl (by simp [EV]; rfl) (by kernel_rfl)) ?_
        have D7 := Cel.of_blk (Blk.new w6.drew 40 #[.int .i64 0, .int .i64 0, .int .u32 0, .int .i64 0, .int .i64 0, .int .u32 0, .string ⟨#[]⟩, .int .u32 0, .int .u32 0, .int .i64 0, .int .i64 0, .slice none 0 0, .slice none 0 0, .slice none 0 0, .slice none 0 0])
        have al7 := (Below.refl w6.heap.size w6).drew.alloc (Nat.le_refl _) (.cells #[.int .i64 0, .int .i64 0, .int .u32 0, .int .i64 0, .int .i64 0, .int .u32 0, .string ⟨#[]⟩, .int .u32 0, .int .u32 0, .int .i64 0, .int .i64 0, .slice none 0 0, .slice none 0 0, .slice none 0 0, .slice none 0 0] 40)
        have RS7 := RS6.below al7 (Nat.le_refl _)
        have szC := szI (f : Nat) (ts T k : Nat) (s1 : Nat) (s2 : Nat) (k : Nat) (d.extract 0 q)
        refine step_val (i := 24) (u := .pointer (some ⟨w6.drew.heap.size, 0, none⟩)) (w' := w6.drew.alloc (.cells #[.int .i64 0, .int .i64 0, .int .u32 0, .int .i64 0, .int .i64 0, .int .u32 0, .string ⟨#[]⟩, .int .u32 0, .int .u32 0, .int .i64 0, .int .i64 0, .slice none 0 0, .slice none 0 0, .slice none 0 0, .slice none 0 0] 40)) (by kernel_rfl) rfl rfl rfl (Blk.alloc HS _) (by kernel_rfl) ?_
        have hcb : sb < w6.heap.size := RS6.B.lt
        have HW6 := Lib.hid RS6
        obtain ⟨cb, hcb'⟩ : ∃ cb, w6.drew.heap.size = cb := ⟨_, rfl⟩
        have hcb2 : w6.heap.size = cb := hcb'
        have habc : ab < cb := by rw [← hcb']; exact Blk.lt HS
        rw [hcb'] at D7 ⊢
        have A7 := Blk.alloc HS (.cells #[.int .i64 0, .int .i64 0, .int .u32 0, .int .i64 0, .int .i64 0, .int .u32 0, .string ⟨#[]⟩, .int .u32 0, .int .u32 0, .int .i64 0, .int .i64 0, .slice none 0 0, .slice none 0 0, .slice none 0 0, .slice none 0 0] 40)
        obtain ⟨w7, hw7⟩ : ∃ w7, w6.drew.alloc (.cells #[.int .i64 0, .int .i64 0, .int .u32 0, .int .i64 0, .int .i64 0, .int .u32 0, .string ⟨#[]⟩, .int .u32 0, .int .u32 0, .int .i64 0, .int .i64 0, .slice none 0 0, .slice none 0 0, .slice none 0 0, .slice none 0 0] 40) = w7 := ⟨_, rfl⟩
        rw [hw7] at D7 RS7 A7 ⊢
        have al7' : Below w6.heap.size w6 w7 := hw7 ▸ al7
        clear hw7 al7
        refine step_store (i := 25) (p := .pointer (some ⟨cb, 0, none⟩)) (u := .agg #[.int .i64 0, .int .i64 (f : Nat), .int .u32 ((ts T k : Nat) : Int), .int .i64 (s1 : Nat), .int .i64 (s2 : Nat), .int .u32 (k : Nat), .string (d.extract 0 q), .int .u32 0, .int .u32 0, .int .i64 0, .int .i64 0, .slice none 0 0, .slice none 0 0, .slice none 0 0, .slice none 0 0]) (w' := w7.setCells cb 0 (#[.int .i64 0, .int .i64 (f : Nat), .int .u32 ((ts T k : Nat) : Int), .int .i64 (s1 : Nat), .int .i64 (s2 : Nat), .int .u32 (k : Nat), .string (d.extract 0 q), .int .u32 0, .int .u32 0, .int .i64 0, .int .i64 0, .slice none 0 0, .slice none 0 0, .slice none 0 0, .slice none 0 0] : Array Value).toList) (by kernel_rfl) rfl rfl rfl rfl (by simp [EV]) (by simp [EV]) (blk_setCells A7 (by omega) _ _) (run_store_at 40 (cs := #[.int .i64 0, .int .i64 (f : Nat), .int .u32 ((ts T k : Nat) : Int), .int .i64 (s1 : Nat), .int .i64 (s2 : Nat), .int .u32 (k : Nat), .string (d.extract 0 q), .int .u32 0, .int .u32 0, .int .i64 0, .int .i64 0, .slice none 0 0, .slice none 0 0, .slice none 0 0, .slice none 0 0]) D7 szC rfl (oneI _ _ _ _ _ _)) ?_
        refine wpAnyH_done (by kernel_rfl) ?_ _
        refine NoPanic.normal ?_
        rw [HB.out]
        simp only [Act.put, List.setIfInBounds_toArray, List.set_cons_zero, List.set_cons_succ]
        have b8 : Below cb w6 (w7.setCells cb 0 (#[.int .i64 0, .int .i64 (f : Nat), .int .u32 ((ts T k : Nat) : Int), .int .i64 (s1 : Nat), .int .i64 (s2 : Nat), .int .u32 (k : Nat), .string (d.extract 0 q), .int .u32 0, .int .u32 0, .int .i64 0, .int .i64 0, .slice none 0 0, .slice none 0 0, .slice none 0 0, .slice none 0 0] : Array Value).toList) := below_setCells (hcb2 ▸ al7') (Nat.le_refl _) _ _
        have RS8 := RS6.below b8 (by omega)
        have hgc : G + 1 < cb := by obtain ⟨_, _, p, _⟩ := RS6.p; have := p.B.lt; omega
        have C8 : Cel (w7.setCells cb 0 (#[.int .i64 0, .int .i64 (f : Nat), .int .u32 ((ts T k : Nat) : Int), .int .i64 (s1 : Nat), .int .i64 (s2 : Nat), .int .u32 (k : Nat), .string (d.extract 0 q), .int .u32 0, .int .u32 0, .int .i64 0, .int .i64 0, .slice none 0 0, .slice none 0 0, .slice none 0 0, .slice none 0 0] : Array Value).toList) cb 0 #[.int .i64 0, .int .i64 (f : Nat), .int .u32 ((ts T k : Nat) : Int), .int .i64 (s1 : Nat), .int .i64 (s2 : Nat), .int .u32 (k : Nat), .string (d.extract 0 q), .int .u32 0, .int .u32 0, .int .i64 0, .int .i64 0, .slice none 0 0, .slice none 0 0, .slice none 0 0, .slice none 0 0] := (D7.setCells_same (#[.int .i64 0, .int .i64 (f : Nat), .int .u32 ((ts T k : Nat) : Int), .int .i64 (s1 : Nat), .int .i64 (s2 : Nat), .int .u32 (k : Nat), .string (d.extract 0 q), .int .u32 0, .int .u32 0, .int .i64 0, .int .i64 0, .slice none 0 0, .slice none 0 0, .slice none 0 0, .slice none 0 0] : Array Value).toList rfl).congr (by first | rfl | simp)
        clear HB HS EV e0 e9 e10 hsz han7 han1 han2 hadd hcv hlen1 hmin hsl hshr RS7 A7 A6 D7 RS6 HW6 b8 hcb' al7'
        obtain ⟨w8, hw8⟩ : ∃ w8, w7.setCells cb 0 (#[.int .i64 0, .int .i64 (f : Nat), .int .u32 ((ts T k : Nat) : Int), .int .i64 (s1 : Nat), .int .i64 (s2 : Nat), .int .u32 (k : Nat), .string (d.extract 0 q), .int .u32 0, .int .u32 0, .int .i64 0, .int .i64 0, .slice none 0 0, .slice none 0 0, .slice none 0 0, .slice none 0 0] : Array Value).toList = w8 := ⟨_, rfl⟩
        rw [hw8] at RS8 C8 ⊢
        clear hw8
        have hq6 : (d.extract 0 q).size ≤ 6 := by rw [ByteArray.size_extract]; omega
        obtain ⟨x, hx⟩ : ∃ x : Pk, ⟨k, f, s1, s2, d.extract 0 q⟩ = x := ⟨_, rfl⟩
        have hxk : x.k = k := by rw [← hx]
        have hxd : x.d.size ≤ 6 := by rw [← hx]; exact hq6
        have hxf : x.f < 8 := by rw [← hx]; exact hf8
        have hxc : pkc T x = #[.int .i64 0, .int .i64 (f : Nat), .int .u32 ((ts T k : Nat) : Int), .int .i64 (s1 : Nat), .int .i64 (s2 : Nat), .int .u32 (k : Nat), .string (d.extract 0 q), .int .u32 0, .int .u32 0, .int .i64 0, .int .i64 0, .slice none 0 0, .slice none 0 0, .slice none 0 0, .slice none 0 0] := by rw [← hx]; rfl
        have hNM : Nd (L ++ [x]) := nd_snoc RS8.nd (fun y hy => by rw [hxk]; exact hnk y hy)
        have hmem : ∀ y, y ∈ L ++ [x] → y ∈ L ∨ y = x := fun y hy => by simpa using hy
        have h64M : ∀ y ∈ L ++ [x], y.k < 64 := fun y hy => (hmem y hy).elim (RS8.h64 y) (fun e => by rw [e, hxk]; exact hk64)
        have h8M : ∀ y ∈ L ++ [x], y.f < 8 := fun y hy => (hmem y hy).elim (RS8.h8 y) (fun e => by rw [e]; exact hxf)
        have h6M : ∀ y ∈ L ++ [x], y.d.size ≤ 6 := fun y hy => (hmem y hy).elim (RS8.h6 y) (fun e => by rw [e]; exact hxd)
        have hlM : (L ++ [x]).length = L.length + 1 := by simp
        have hli := RS8.hl
        have hbM : btk (L ++ [x]) ≤ 1000 := by have := btk_le h6M; omega
        obtain ⟨o, ho⟩ : ∃ o, whole (L ++ [x]) x = o := ⟨_, rfl⟩
        obtain ⟨ms, mp, ml, mk, md, hmm⟩ := amsg_shape (L ++ [x]) o
        obtain ⟨es, cc, p8, E8⟩ := RS8.p
        have hG8 : G ≤ w8.heap.size := by have := RS8.bel.size; rw [HG.out] at this; exact this
        have hadd := add_any G (G + 1) G cc T es L x E8 hNM h64M h8M h6M (by omega) w8 p8 hG8
        rw [hxc, ho] at hadd
        have hsM : ∀ y ∈ aleft (L ++ [x]) o, (s y.k || decide (y.k = k)) = true := fun y hy => (hmem y (aleft_sub _ _ y hy)).elim (RS8.hs y) (fun e => by rw [e, hxk]; simp)
        have hlL := aleft_len (L ++ [x]) o
        have HL := Lib.hid (And.intro hNM (And.intro h64M (And.intro h8M (And.intro h6M (And.intro hsM (And.intro hxc (And.intro ho hmm)))))))
        have HS8 := Lib.hid RS8
        clear hx hxk hxd hxf hxc hNM hmem h64M h8M h6M ho E8 p8 hsM hnk hsk hf hm7 hm1 hm2 hs1 hs2 hq hq6 hf8 RS8
        go_wp2_with (refine wpList_load_at rfl 40 _ rfl cb 0 rfl #[.int .i64 0, .int .i64 (f : Nat), .int .u32 ((ts T k : Nat) : Int), .int .i64 (s1 : Nat), .int .i64 (s2 : Nat), .int .u32 (k : Nat), .string (d.extract 0 q), .int .u32 0, .int .u32 0, .int .i64 0, .int .i64 0, .slice none 0 0, .slice none 0 0, .slice none 0 0, .slice none 0 0] _ C8 Try.underlying40 rfl szC ?_)
        refine hadd.mono ?_
        rintro e w9 ⟨rfl, ⟨es9, c9, p9, E9⟩, b9, K9⟩
        rw [hmm]
        have RS8 := HS8.out
        have q9 := RS8.q.block K9.size (fun b hb => K9.block b (RS8.q.lt hb).2 (RS8.hq b hb).1 (RS8.hq b hb).2.1)
        have B9 : Blk w9 sb 4 (sbc fun j => s j || decide (j = k)) := (K9.block sb RS8.B.lt RS8.hb.2.1 RS8.hb.2.2).trans RS8.B
        have C9 : Cel w9 cb 0 #[.int .i64 0, .int .i64 (f : Nat), .int .u32 ((ts T k : Nat) : Int), .int .i64 (s1 : Nat), .int .i64 (s2 : Nat), .int .u32 (k : Nat), .string (d.extract 0 q), .int .u32 0, .int .u32 0, .int .i64 0, .int .i64 0, .slice none 0 0, .slice none 0 0, .slice none 0 0, .slice none 0 0] := C8.block (K9.block cb C8.1 (by omega) (by omega)) (Nat.lt_of_lt_of_le C8.1 K9.size)
        have bel9 := RS8.bel.trans b9
        have hG9 : G ≤ w9.heap.size := Nat.le_trans hG8 b9.size
        clear RS8 C8 b9 K9 hadd hmm
        go_upto_region 14 with fail
        have M10 := Blk.new w9 30 #[.int .i64 ms, .int .i64 mp, .bool ml, .int .u32 mk, .string md]
        have al10 := (Below.refl w9.heap.size w9).alloc (Nat.le_refl _) (.cells #[.int .i64 ms, .int .i64 mp, .bool ml, .int .u32 mk, .string md] 30)
        have p10 := p9.below al10 (Nat.le_refl _)
        have q10 := q9.below al10 (Nat.le_refl _)
        have B10 := B9.below al10 B9.lt
        have C10 := C9.below al10 C9.lt
        have bel10 := bel9.trans (al10.mono hG9)
        have hs10 : w9.heap.size + 1 = (w9.alloc (.cells #[.int .i64 ms, .int .i64 mp, .bool ml, .int .u32 mk, .string md] 30)).heap.size := by simp
        have hlt9 := p9.B.lt
        have hlt9' := p9.M.lt
        have hltb := B9.lt
        clear p9 q9 B9 C9 bel9 al10
        obtain ⟨w10, hw10⟩ : ∃ w10, w9.alloc (.cells #[.int .i64 ms, .int .i64 mp, .bool ml, .int .u32 mk, .string md] 30) = w10 := ⟨_, rfl⟩
        rw [hw10] at M10 p10 q10 B10 C10 bel10 hs10
        try rw [hw10]
        clear hw10
        obtain ⟨mb, hmb⟩ : ∃ mb, w9.heap.size = mb := ⟨_, rfl⟩
        rw [hmb] at M10 hG9 hs10 hlt9 hlt9' hltb
        try rw [hmb]
        clear hmb
        have hradd := radd_any q10 x (L ++ [x]) rfl HL.out.1 HL.out.2.1 HL.out.2.2.1 HL.out.2.2.2.1 (by omega)
        rw [HL.out.2.2.2.2.2.1, HL.out.2.2.2.2.2.2.1] at hradd
        have HP10 := Lib.hid (And.intro p10 (And.intro E9 (And.intro B10 bel10)))
        clear p10 q10 E9 B10 bel10
        go_wp2_with (refine wpList_load_at rfl 40 _ rfl cb 0 rfl #[.int .i64 0, .int .i64 (f : Nat), .int .u32 ((ts T k : Nat) : Int), .int .i64 (s1 : Nat), .int .i64 (s2 : Nat), .int .u32 (k : Nat), .string (d.extract 0 q), .int .u32 0, .int .u32 0, .int .i64 0, .int .i64 0, .slice none 0 0, .slice none 0 0, .slice none 0 0, .slice none 0 0] _ C10 Try.underlying40 rfl szC ?_)
        refine hradd.mono ?_
        rintro e w11 ⟨v11, rfl, q11, b11⟩
        rw [HL.out.2.2.2.2.2.2.2]
        obtain ⟨o11, c11, hv11, _, _⟩ := q11.shape
        subst hv11
        have hq11 := fun b (hb : blkOf (.slice o11 (aleft (L ++ [x]) o).length c11) = some b) => (q11.lt hb).1
        have p11 := HP10.out.1.below b11 (Nat.le_refl _)
        have B11 := HP10.out.2.2.1.below b11 HP10.out.2.2.1.lt
        have M11 := M10.below b11 M10.lt
        have hG10 : G ≤ w10.heap.size := by omega
        have bel11 := HP10.out.2.2.2.trans (b11.mono hG10)
        have q11' := q11.weaken hG10
        have hG11 : G ≤ w11.heap.size := Nat.le_trans hG10 b11.size
        clear M10 C10 hradd q11 b11 szC
        go_upto_region 16 with fail
        have M12 := Blk.new w11 30 #[.int .i64 ms, .int .i64 mp, .bool ml, .int .u32 mk, .string md]
        have al12 := (Below.refl w11.heap.size w11).alloc (Nat.le_refl _) (.cells #[.int .i64 ms, .int .i64 mp, .bool ml, .int .u32 mk, .string md] 30)
        have p12 := p11.below al12 (Nat.le_refl _)
        have q12 := q11'.below al12 (Nat.le_refl _)
        have B12 := B11.below al12 B11.lt
        have M12a := M11.below al12 M11.lt
        have bel12 := bel11.trans (al12.mono hG11)
        clear p11 q11' B11 M11 bel11 al12
        obtain ⟨w12, hw12⟩ : ∃ w12, w11.alloc (.cells #[.int .i64 ms, .int .i64 mp, .bool ml, .int .u32 mk, .string md] 30) = w12 := ⟨_, rfl⟩
        rw [hw12] at M12 p12 q12 B12 M12a bel12
        try rw [hw12]
        clear hw12
        obtain ⟨nb, hnb⟩ : ∃ nb, w11.heap.size = nb := ⟨_, rfl⟩
        rw [hnb] at M12
        try rw [hnb]
        clear hnb
        have hE9 := entK_len HP10.out.2.1
        have hes : (es9.size : Int) = ((aleft (L ++ [x]) o).length : Int) := by rw [← hE9]; simp
        have hbL : btk (aleft (L ++ [x]) o) ≤ 1000 := by have := btk_le (fun y hy => HL.out.2.2.2.1 y (aleft_sub (L ++ [x]) o y hy)); omega
        have RS12 : Rs G (G + 1) G sb T (i + 1) (aleft (L ++ [x]) o) (.slice o11 (aleft (L ++ [x]) o).length c11) (fun j => s j || decide (j = k)) w w12 :=
          ⟨⟨es9, c9, p12, HP10.out.2.1⟩, q12, fun b hb => by have := hq11 b hb; omega, B12, HS8.out.hb, aleft_nd HL.out.1 o, fun y hy => HL.out.2.1 y (aleft_sub _ _ y hy), fun y hy => HL.out.2.2.1 y (aleft_sub _ _ y hy), fun y hy => HL.out.2.2.2.1 y (aleft_sub _ _ y hy), HL.out.2.2.2.2.1, by omega, bel12⟩
        obtain ⟨A, hA⟩ : ∃ A, aleft (L ++ [x]) o = A := ⟨_, rfl⟩
        rw [hA] at RS12 q12 p12 hes hbL hlL
        try rw [hA]
        obtain ⟨bo, hbo⟩ : ∃ bo, o.isSome = bo := ⟨_, rfl⟩
        try rw [hbo]
        clear hA hbo hE9 B12 HP10 HL hq11 bel12
        have HRS := Lib.hid RS12
        clear RS12
        go_wp2_with fail
        go_loopw [17, 18] (fun s17 s18 wr => ∃ j : Nat, s17 = .int .i64 ((btk (A.take j) : Nat) : Int) ∧ s18 = .int .i64 (j : Nat) ∧ j ≤ A.length ∧ wr = w12) (fun _ s18 _ => A.length - (intOf s18).toNat)
        case atStart => exact ⟨0, rfl, rfl, Nat.zero_le _, rfl⟩
        case round =>
          obtain ⟨j, rfl, rfl, hj, hwr⟩ := hrel
          obtain rfl : w12 = wr := hwr.symm
          by_cases hjl : j < A.length
          · obtain ⟨y, hy⟩ : ∃ y, A[j]? = some y := ⟨_, List.getElem?_eq_getElem hjl⟩
            obtain ⟨hh, off, cap', e, _, _, _, _, _, CC⟩ := q12.show_ (by omega)
            simp only [Value.slice.injEq, true_and] at e
            obtain ⟨rfl, rfl⟩ := e
            have Y := CC j (pkc T y) hjl (Nat.le_refl 15) (cellsK_get hy)
            have yc : w12.cell? ⟨hh, off + j * 15 + 6, none⟩ = some (.string y.d) := Y.cell 6 (u := .string y.d) rfl
            have hbk := btk_take hy
            have hble := btk_take_le A (j + 1)
            have hki : (j : Int) < (A.length : Int) := by omega
            have hk0 : (0 : Int) ≤ (j : Int) := by omega
            have hwr2 : ((btk (A.take j) : Nat) : Int) + (y.d.size : Int) = ((btk (A.take (j + 1)) : Nat) : Int) := by omega
            have HW1 := Lib.hid hwr2
            have hbs : btk (A.take j) ≤ 1000 ∧ y.d.size ≤ 1000 := by omega
            clear hy hbk hwr2 hble Y CC
            go_wp2_with fail
            go_roundw
            case rel => exact ⟨j + 1, by rw [HW1.out], by go_num, by omega, trivial⟩
            case measure => simp [intOf]; omega
          · obtain rfl : j = A.length := by omega
            rw [List.take_length]
            have szZ : (Try.prog.info? 30).map (·.size) = some (#[.int .i64 ms, .int .i64 mp, .bool ml, .int .u32 mk, .string md] : Array Value).size := by show _ = some 5; kernel_rfl
            have hnB : ∀ W, (binOp .neq 4 (.bool bo) (.bool bo)).run Try.prog W = .ok (.bool false) W := fun W => by cases bo <;> kernel_rfl
            have hnM := neqM ms mp ml mk md
            have hnL : ∀ W, (binOp .neq 3 (.int .i64 es9.size) (.int .i64 (A.length : Nat))).run Try.prog W = .ok (.bool false) W := fun W => by rw [hes]; go_simp
            have hnD : ∀ W, (binOp .neq 3 (.int .i64 (btk A : Nat)) (.int .i64 (btk A : Nat))).run Try.prog W = .ok (.bool false) W := fun W => by go_simp
            go_wp2_with (first | (refine wpList_load_at_g (by rfl) 30 _ rfl mb 0 rfl #[.int .i64 ms, .int .i64 mp, .bool ml, .int .u32 mk, .string md] _ (Cel.of_blk M12a) Try.underlying30 rfl szZ ?_) | (refine wpList_load_at_g (by rfl) 30 _ rfl nb 0 rfl #[.int .i64 ms, .int .i64 mp, .bool ml, .int .u32 mk, .string md] _ (Cel.of_blk M12) Try.underlying30 rfl szZ ?_))
            refine (len_any w12 p12).mono ?_
            rintro e w13 ⟨rfl, hw13⟩
            obtain rfl : w12 = w13 := hw13.symm
            go_wp2_with fail
            refine (bytes_any w12 p12).mono ?_
            rintro e w13 ⟨rfl, hw13⟩
            obtain rfl : w12 = w13 := hw13.symm
            go_wp2_with fail
            go_roundw
            case rel => exact ⟨i + 1, A, o11, c11, _, by go_num, by omega, by omega, rfl, HRS.out⟩
            case measure => simp [intOf]; omega
      · obtain rfl : i = 50 := by omega
        have bel := RS.bel
        clear RS
        go_wp2_with fail
        go_ret
        exact ⟨rfl, by rw [HG.out]; exact bel⟩
    · obtain rfl : i = len := by omega
      have bel := RS.bel
      clear RS
      go_wp2_with fail
      go_ret
      exact ⟨rfl, by rw [HG.out]; exact bel⟩
end Go.Proofs.Ythddacgdmngfhaa.rea
