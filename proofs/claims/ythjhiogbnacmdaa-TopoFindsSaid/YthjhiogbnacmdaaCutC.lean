/- Layer 7: a packet that is not too great: whatever packet comes, one is made. -/
import Derived.Test.YthjhiogbnacmdaaCutB
import Derived.Test.YthjhiogbnacmdaaKitC
namespace Go.Proofs.Ythjhiogbnacmdaa.cut
open Go.Sort (grow)
open Go.ChangeShapes Go.WideShapes Go.ChangeAt Go.RowKit kit
set_option maxRecDepth 100000

/-- A chunk as an argument has it. -/
structure ChA where
  ty : Int
  fl : Int
  t : Int
  st : Int
  ss : Int
  pr : Int
  tg : Int
  rw_ : Int
  ou : Int
  ii : Int
  d : ByteArray
  oP : Option Addr
  oC : Option Addr
  oG : Option Addr
  oD : Option Addr
  aP : Addr
  aC : Addr
  nP : Nat
  cP : Nat
  nC : Nat
  cC : Nat
  nG : Nat
  cG : Nat
  nD : Nat
  cD : Nat
  EP : Nat → Int × ByteArray
  EC : Nat → Int × ByteArray
def chc (x : ChA) : Array Value := #[.int .i64 x.ty, .int .i64 x.fl, .int .u32 x.t, .int .i64 x.st, .int .i64 x.ss, .int .u32 x.pr, .string x.d, .int .u32 x.tg, .int .u32 x.rw_, .int .i64 x.ou, .int .i64 x.ii, .slice x.oP x.nP x.cP, .slice x.oC x.nC x.cC, .slice x.oG x.nG x.cG, .slice x.oD x.nD x.cD]
structure ChOk (x : ChA) (w : World) (B : Nat) : Prop where
  hd : x.d.size ≤ maxLen
  hP : PR w B x.oP x.aP x.nP x.cP x.EP
  hC : PR w B x.oC x.aC x.nC x.cC x.EC
  hG1 : x.nG ≤ x.cG
  hG2 : x.cG ≤ maxLen
  hD1 : x.nD ≤ x.cD
  hD2 : x.cD ≤ maxLen
  hG3 : x.oG = none → x.cG = 0
  hD3 : x.oD = none → x.cD = 0
theorem ChOk.below {x : ChA} {w w' : World} {B : Nat} (h : ChOk x w B) (hb : Below B w w') : ChOk x w' B :=
  ⟨h.hd, h.hP.below hb, h.hC.below hb, h.hG1, h.hG2, h.hD1, h.hD2, h.hG3, h.hD3⟩
theorem cut06c (x : ChA) (B : Nat) (w : World) (hB : B ≤ w.heap.size) (h : ChOk x w B) : Calls Try.prog 24 #[.agg (chc x)] w fun e w' => (∃ (d' : ByteArray) (o1 : Option Addr) (n1 c1 : Nat) (o2 : Option Addr) (n2 c2 : Nat) (o3 : Option Addr) (n3 c3 : Nat) (o4 : Option Addr) (n4 c4 : Nat), e = .returned (.agg (ccv x.ty x.fl x.t x.st x.ss x.pr x.tg x.rw_ x.ou x.ii d' (.slice o1 n1 c1) (.slice o2 n2 c2) (.slice o3 n3 c3) (.slice o4 n4 c4)))) ∧ Below w.heap.size w w' :=
  cut06 x.ty x.fl x.t x.st x.ss x.pr x.tg x.rw_ x.ou x.ii x.d h.hd x.oP x.oC x.oG x.oD x.aP x.aC x.nP x.cP x.nC x.cC x.nG x.cG x.nD x.cD x.EP x.EC B w hB h.hP h.hC h.hG1 h.hG2 h.hD1 h.hD2 h.hG3 h.hD3
/-- A row of chunks, as an argument has it. -/
structure KR (w : World) (B : Nat) (oa : Option Addr) (a : Addr) (n c : Nat) (E : Nat → ChA) : Prop where
  hc : n ≤ c
  hm : c ≤ maxLen
  ho : 0 < n → oa = some a
  hb : 0 < n → a.block < B
  cell : ∀ i, i < n → ∀ (j : Nat) u, (chc (E i))[j]? = some u → w.cell? ((a.add (i * 15)).add j) = some u
  ok : ∀ i, i < n → ChOk (E i) w B
theorem KR.below {w w' : World} {B : Nat} {oa : Option Addr} {a : Addr} {n c : Nat} {E : Nat → ChA} (h : KR w B oa a n c E) (hb : Below B w w') : KR w' B oa a n c E :=
  ⟨h.hc, h.hm, h.ho, h.hb, fun i hi j u hu => (hb.cell (p := (a.add (i * 15)).add j) (by rw [addr_add_block, addr_add_block]; exact h.hb (by omega))).trans (h.cell i hi j u hu), fun i hi => (h.ok i hi).below hb⟩
theorem run_load_from {P : Program} {oi : Oper} {a : Act} {x : Operand} {ty : TypeId} {v : World} (ho : oi.op = .load ty x) (p : Addr) (hx : a.eval x = .pointer (some p)) {cs : Array Value} (d : TypeDesc) (hu : P.underlying ty = some d) (hd : (match d with | .struct _ | .array _ _ => true | _ => false) = true) (hi : (P.info? ty).map (·.size) = some cs.size)
    (C : ∀ (j : Nat) u, cs[j]? = some u → v.cell? (p.add j) = some u) : (execOp a.eval oi).run P v = .ok (.value (.agg cs)) v := by
  unfold execOp
  simp only [ho, hx, Instr.loadAt, Instr.sureAddr, Sem.run_bind, Sem.run_pure, Result.andThen_ok, run_loadVar_from p ty d C hu hd hi]
theorem info15 : (Try.prog.info? 65).map (fun i => (i.zero, i.size, i.bytes)) = some (some (.agg #[.int .i64 0, .int .i64 0, .int .u32 0, .int .i64 0, .int .i64 0, .int .u32 0, .string ByteArray.empty, .int .u32 0, .int .u32 0, .int .i64 0, .int .i64 0, .slice none 0 0, .slice none 0 0, .slice none 0 0, .slice none 0 0]), 15, 184) := by kernel_rfl
theorem sz_ch (x : ChA) : (Try.prog.info? 65).map (·.size) = some (chc x).size := by show _ = some 15; kernel_rfl
theorem sz_pk (a b c : Int) (v : Value) : (Try.prog.info? 26).map (·.size) = some (#[.int .i64 a, .int .i64 b, .int .u32 c, v] : Array Value).size := by show _ = some 4; kernel_rfl
theorem call_C {P : Program} {ops : Array Oper} {Q : Exit → Act → World → Prop} {S : World → Prop} {c : Nat} {i : Nat} {o : Oper} {d fuel : Nat} {L : Array Bool} {a : Act} {w : World} (hr : Region.ready .any ops L = [i]) (hi : ops[i]? = some o) (hg : o.guard = none) (hd : o.dst = some d) (f : FuncId) (fn : Func) (xs : Array Operand) (ts : Array TypeId) (hop : o.op = .call { callee := .value (.func f), args := xs, argTypes := ts })
    (hf : P.funcs[f]? = some fn) (hn : (fn.name == "runtime.NumGoroutine") = false) (hb : fn.body.isNone = false) (vs : Array Value) (hx : xs.map a.eval = vs) {R : Ending → World → Prop} (hc : Calls P f vs w R)
    (h : ∀ e w', R e w' → ∃ v, e = .returned v ∧ (i ≠ c → S w') ∧ wpAnyC P .any ops Q S c fuel (L.setIfInBounds i true) (a.put (some d) v) w') : wpAnyC P .any ops Q S c (fuel + 1) L a w :=
  one_C hr hi hg fun K hK => by
    have := step_call2 (ops := ops) (E := True) hg f fn xs ts hop hf hn hb vs hx hc (K := K) (Q := Q) (fun e w' hR => by
      obtain ⟨v, he, h1, h2⟩ := h e w' hR
      exact ⟨v, he, by rw [hd]; exact hK _ _ h1 h2⟩)
    rwa [if_pos (by simp [Region.wanted, hg])] at this
set_option maxHeartbeats 16000000 in
theorem cut07 (pf pt tag : Int) (oa : Option Addr) (a : Addr) (n c : Nat) (EK : Nat → ChA) (B : Nat) (w : World) (hB : B ≤ w.heap.size) (hK : KR w B oa a n c EK) :
    Calls Try.prog 7 #[.agg #[.int .i64 pf, .int .i64 pt, .int .u32 tag, .slice oa n c]] w fun e w' => (∃ (o1 : Option Addr) (n1 c1 : Nat), e = .returned (.agg #[.int .i64 pf, .int .i64 pt, .int .u32 tag, .slice o1 n1 c1])) ∧ Below w.heap.size w w' := by
  have HK := Lib.hid hK
  clear hK
  obtain ⟨G, hG⟩ : ∃ G, w.heap.size = G := ⟨_, rfl⟩
  have HGG := Lib.hid hG
  have hPB := Lib.hid (show ∀ w' : World, Below G w w' → Below B w w' from fun w' h => h.mono (by omega))
  have X1 := ((Blk.new w 26 #[.int .i64 pf, .int .i64 pt, .int .u32 tag, .slice oa n c]).alloc (.cells #[.int .i64 0, .int .i64 0, .int .u32 0, .slice none 0 0] 26)).alloc (.cells #[.int .i64 pf, .int .i64 pt, .int .u32 tag, .slice none 0 0] 26)
  have R1 := (blk_new2 w (.cells #[.int .i64 pf, .int .i64 pt, .int .u32 tag, .slice oa n c] 26) 26 #[.int .i64 0, .int .i64 0, .int .u32 0, .slice none 0 0]).alloc (.cells #[.int .i64 pf, .int .i64 pt, .int .u32 tag, .slice none 0 0] 26)
  have O1 := Blk.new ((w.alloc (.cells #[.int .i64 pf, .int .i64 pt, .int .u32 tag, .slice oa n c] 26)).alloc (.cells #[.int .i64 0, .int .i64 0, .int .u32 0, .slice none 0 0] 26)) 26 #[.int .i64 pf, .int .i64 pt, .int .u32 tag, .slice none 0 0]
  have bel1 := (((Below.refl w.heap.size w).alloc (Nat.le_refl _) (.cells #[.int .i64 pf, .int .i64 pt, .int .u32 tag, .slice oa n c] 26)).alloc (by simp) (.cells #[.int .i64 0, .int .i64 0, .int .u32 0, .slice none 0 0] 26)).alloc (by simp; omega) (.cells #[.int .i64 pf, .int .i64 pt, .int .u32 tag, .slice none 0 0] 26)
  have hs1 : ((w.alloc (.cells #[.int .i64 pf, .int .i64 pt, .int .u32 tag, .slice oa n c] 26)).alloc (.cells #[.int .i64 0, .int .i64 0, .int .u32 0, .slice none 0 0] 26)).heap.size = w.heap.size + 1 + 1 := by simp
  rw [hs1] at O1
  rw [hG] at X1 R1 O1 bel1
  clear hs1
  go_enter Try.func7, Try.ntmps7
  go_upto_region 2 with fail
  obtain ⟨w1, hw1⟩ : ∃ w1, ((w.alloc (.cells #[.int .i64 pf, .int .i64 pt, .int .u32 tag, .slice oa n c] 26)).alloc (.cells #[.int .i64 0, .int .i64 0, .int .u32 0, .slice none 0 0] 26)).alloc (.cells #[.int .i64 pf, .int .i64 pt, .int .u32 tag, .slice none 0 0] 26) = w1 := ⟨_, rfl⟩
  rw [hw1] at X1 R1 O1 bel1
  try rw [hw1]
  clear hw1
  obtain ⟨cb, rb, ob, b1, hcb, hrb, hob, h01, h12, h23, h34, h35⟩ : ∃ cb rb ob b1 : Nat, G = cb ∧ G + 1 = rb ∧ G + 1 + 1 = ob ∧ G ≤ cb ∧ cb < rb ∧ rb < ob ∧ ob < b1 ∧ b1 ≤ ob + 1 := ⟨G, G + 1, G + 1 + 1, G + 1 + 1 + 1, rfl, rfl, rfl, by omega, by omega, by omega, by omega, by omega⟩
  rw [hcb] at X1
  rw [hrb] at R1
  rw [hob] at O1
  rw [hob, hrb, hcb]
  clear hcb hrb hob
  have HL := Lib.hid (And.intro O1 (And.intro X1 (And.intro R1 bel1)))
  clear O1 X1 R1 bel1
  go_upto_block 0 with fail
  go_cut [] (fun wx => ∃ (j : Nat) (v : Value) (xs : List Value), Qo wx b1 15 v j xs ∧ Blk wx ob 26 #[.int .i64 pf, .int .i64 pt, .int .u32 tag, v] ∧ Blk wx cb 26 #[.int .i64 pf, .int .i64 pt, .int .u32 tag, .slice oa n c] ∧ Blk wx rb 26 #[.int .i64 0, .int .i64 0, .int .u32 0, .slice none 0 0] ∧ Below G w wx)
  case first =>
    go_wp2_with fail
    go_loopw [4] (fun sj wr => ∃ (j : Nat) (v : Value) (xs : List Value), sj = .int .i64 (j : Nat) ∧ j ≤ n ∧ j ≤ 22 ∧ Qo wr b1 15 v j xs ∧ Blk wr ob 26 #[.int .i64 pf, .int .i64 pt, .int .u32 tag, v] ∧ Blk wr cb 26 #[.int .i64 pf, .int .i64 pt, .int .u32 tag, .slice oa n c] ∧ Blk wr rb 26 #[.int .i64 0, .int .i64 0, .int .u32 0, .slice none 0 0] ∧ Below G w wr) (fun sj _ => n - (intOf sj).toNat)
    case atStart => exact ⟨0, _, [], rfl, Nat.zero_le _, Nat.zero_le _, Qo.nil _ _ _, HL.out.1, HL.out.2.1, HL.out.2.2.1, HL.out.2.2.2⟩
    case round =>
      rename World => w5
      clear HL
      obtain ⟨j, v, xs, rfl, hj, hj22, q5, O5, X5, R5, bel5⟩ := hrel
      have x3 : w5.cell? ⟨cb, 3, none⟩ = some (.slice oa n c) := X5.cell 3
      by_cases hlt : j < n
      · have hii : (j : Int) < (n : Int) := by omega
        have hj0 : (0 : Int) ≤ (j : Int) := by omega
        by_cases h22 : j < 22
        · have h22i : (j : Int) < 22 := by omega
          obtain rfl := HK.out.ho (by omega)
          obtain ⟨oq, cq, hvq, _, _⟩ := q5.shape
          subst hvq
          have KB := HK.out.below (hPB.out _ bel5)
          have hpc := KB.cell j hlt
          have hok := KB.ok j hlt
          have hab := HK.out.hb (by omega)
          obtain ⟨x, hx⟩ : ∃ x, EK j = x := ⟨_, rfl⟩
          rw [hx] at hpc hok
          obtain ⟨i0, hi0, hz0, hz1, hz2⟩ := info_parts info15
          have hGs := bel5.size
          have hcbl := X5.lt
          have hrbl := R5.lt
          have hobl := O5.lt
          clear KB hx
          go_upto_region 5 with fail
          clear x3
          refine wp_region_noPanic ?_
          have HS : ((fun v => v.cell? ⟨ob, 3, none⟩ = some (.slice oq j cq) ∧ v.cell? ⟨cb, 3, none⟩ = some (.slice (some a) n c) ∧ ∀ (q : Nat) u, (chc x)[q]? = some u → v.cell? ((a.add (j * 15)).add q) = some u) : World → Prop) w5.drew := ⟨O5.drew.cell 3, X5.drew.cell 3, hpc⟩
          refine begin_C (fun v => v.cell? ⟨ob, 3, none⟩ = some (.slice oq j cq) ∧ v.cell? ⟨cb, 3, none⟩ = some (.slice (some a) n c) ∧ ∀ (q : Nat) u, (chc x)[q]? = some u → v.cell? ((a.add (j * 15)).add q) = some u) 11 (by kernel_rfl) ?_
          have hok6 : ChOk x w5.drew B := ⟨hok.hd, hok.hP.below (Below.refl _ _).drew, hok.hC.below (Below.refl _ _).drew, hok.hG1, hok.hG2, hok.hD1, hok.hD2, hok.hG3, hok.hD3⟩
          obtain ⟨w6, hw6⟩ : ∃ w6, w5.drew = w6 := ⟨_, rfl⟩
          have O6 := O5.drew
          have X6 := X5.drew
          have R6 := R5.drew
          have q6 := q5.drew
          have bel6 := bel5.drew
          rw [hw6] at O6 X6 R6 q6 bel6 HS hok6
          rw [hw6]
          clear hw6 O5 X5 R5 q5 bel5 hpc hok
          refine abs_C _ (fun ac hac => ?_)
          have hsz : ac.tmps.size = 35 := by rw [hac]; rfl
          have e1' : ac.eval (.tmp 1) = .pointer (some ⟨cb, 0, none⟩) := by rw [hac]; rfl
          have e3' : ac.eval (.tmp 3) = .pointer (some ⟨ob, 0, none⟩) := by rw [hac]; rfl
          have ej' : ac.eval (.tmp 4) = .int .i64 (j : Nat) := by rw [hac]; rfl
          have HB := Lib.hid hac
          clear hac
          have EV := And.intro @Act.eval_put_ne (And.intro @Act.eval_put_same (And.intro @Act.size_put (And.intro hsz (And.intro e1' (And.intro e3' ej')))))
          refine take_Y (i := 0) (u := .pointer (some ⟨ob, 3, none⟩)) rfl (by kernel_rfl) (by kernel_rfl) (by kernel_rfl) (by decide) rfl rfl (fun _ _ _ h => h) HS (fun v => run_field (s := .pointer (some ⟨ob, 0, none⟩)) rfl (by simp [EV]) (by kernel_rfl)) ?_
          refine take_C (i := 1) [9] (u := .slice oq j cq) rfl (by kernel_rfl) (by kernel_rfl) (by kernel_rfl) (by kernel_rfl) (by kernel_rfl) (by decide) rfl rfl (fun _ _ _ h => h) HS (fun v hv => run_load1 (s := .pointer (some ⟨ob, 3, none⟩)) rfl (by simp [EV]) (by have c := hv.1; go_simp)) ?_
          refine take_Y (i := 2) (u := .pointer (some ⟨cb, 3, none⟩)) rfl (by kernel_rfl) (by kernel_rfl) (by kernel_rfl) (by decide) rfl rfl (fun _ _ _ h => h) HS (fun v => run_field (s := .pointer (some ⟨cb, 0, none⟩)) rfl (by simp [EV]) (by kernel_rfl)) ?_
          refine take_C (i := 3) [5, 6, 7, 8, 9] (u := .slice (some a) n c) rfl (by kernel_rfl) (by kernel_rfl) (by kernel_rfl) (by kernel_rfl) (by kernel_rfl) (by decide) rfl rfl (fun _ _ _ h => h) HS (fun v hv => run_load1 (s := .pointer (some ⟨cb, 3, none⟩)) rfl (by simp [EV]) (by have c := hv.2.1; go_simp)) ?_
          refine take_Y (i := 4) (u := .int .i64 (j : Nat)) rfl (by kernel_rfl) (by kernel_rfl) (by kernel_rfl) (by decide) rfl rfl (fun _ _ _ h => h) HS (fun v => run_move rfl (by simp [EV]) v) ?_
          refine take_Y (i := 5) (u := .pointer (some (a.add (j * 15)))) rfl (by kernel_rfl) (by kernel_rfl) (by kernel_rfl) (by decide) rfl rfl (fun _ _ _ h => h) HS (fun v => run_index (s := .slice (some a) n c) (j := .int .i64 (j : Nat)) rfl (by simp [EV]) (by simp [EV]) (by go_simp)) ?_
          refine take_C (i := 6) [7, 8, 9] (u := .agg (chc x)) rfl (by kernel_rfl) (by kernel_rfl) (by kernel_rfl) (by kernel_rfl) (by kernel_rfl) (by decide) rfl rfl (fun _ _ _ h => h) HS (fun v hv => run_load_from rfl (a.add (j * 15)) (by simp [EV]) _ Try.underlying65 rfl (sz_ch x) hv.2.2) ?_
          have hlt6 := R6.lt
          have hlt6o := O6.lt
          refine call_C (i := 7) (by kernel_rfl) rfl rfl rfl 24 Try.f24 _ _ rfl Try.func24 (by kernel_rfl) (by kernel_rfl) #[.agg (chc x)] (by simp [EV]) (cut06c x B w6 (by have := bel6.size; omega) hok6) ?_
          rintro e w7 ⟨⟨d', o1, n1, c1, o2, n2, c2, o3, n3, c3, o4, n4, c4, rfl⟩, hb7⟩
          have O7 := O6.below hb7 O6.lt
          have X7 := X6.below hb7 X6.lt
          have R7 := R6.below hb7 R6.lt
          have q7 := q6.below hb7 (Nat.le_refl _)
          have bel7 := bel6.trans (hb7.mono (by omega))
          have hw7s := hb7.size
          have hrow7 : ∀ (q : Nat) u, (chc x)[q]? = some u → w7.cell? ((a.add (j * 15)).add q) = some u := fun q u hu => (hb7.cell (p := (a.add (j * 15)).add q) (by rw [addr_add_block, addr_add_block]; omega)).trans (HS.2.2 q u hu)
          refine ⟨_, rfl, fun _ => ⟨O7.cell 3, X7.cell 3, hrow7⟩, ?_⟩
          rw [show ccv x.ty x.fl x.t x.st x.ss x.pr x.tg x.rw_ x.ou x.ii d' (.slice o1 n1 c1) (.slice o2 n2 c2) (.slice o3 n3 c3) (.slice o4 n4 c4) = #[.int .i64 x.ty, .int .i64 x.fl, .int .u32 x.t, .int .i64 x.st, .int .i64 x.ss, .int .u32 x.pr, .string d', .int .u32 x.tg, .int .u32 x.rw_, .int .i64 x.ou, .int .i64 x.ii, .slice o1 n1 c1, .slice o2 n2 c2, .slice o3 n3 c3, .slice o4 n4 c4] from rfl]
          clear O6 X6 R6 q6 bel6 HS hok6 hb7
          have O8 := O7.alloc (.cells #[.int .i64 x.ty, .int .i64 x.fl, .int .u32 x.t, .int .i64 x.st, .int .i64 x.ss, .int .u32 x.pr, .string d', .int .u32 x.tg, .int .u32 x.rw_, .int .i64 x.ou, .int .i64 x.ii, .slice o1 n1 c1, .slice o2 n2 c2, .slice o3 n3 c3, .slice o4 n4 c4] 65)
          have X8 := X7.alloc (.cells #[.int .i64 x.ty, .int .i64 x.fl, .int .u32 x.t, .int .i64 x.st, .int .i64 x.ss, .int .u32 x.pr, .string d', .int .u32 x.tg, .int .u32 x.rw_, .int .i64 x.ou, .int .i64 x.ii, .slice o1 n1 c1, .slice o2 n2 c2, .slice o3 n3 c3, .slice o4 n4 c4] 65)
          have R8 := R7.alloc (.cells #[.int .i64 x.ty, .int .i64 x.fl, .int .u32 x.t, .int .i64 x.st, .int .i64 x.ss, .int .u32 x.pr, .string d', .int .u32 x.tg, .int .u32 x.rw_, .int .i64 x.ou, .int .i64 x.ii, .slice o1 n1 c1, .slice o2 n2 c2, .slice o3 n3 c3, .slice o4 n4 c4] 65)
          have q8 := q7.alloc (.cells #[.int .i64 x.ty, .int .i64 x.fl, .int .u32 x.t, .int .i64 x.st, .int .i64 x.ss, .int .u32 x.pr, .string d', .int .u32 x.tg, .int .u32 x.rw_, .int .i64 x.ou, .int .i64 x.ii, .slice o1 n1 c1, .slice o2 n2 c2, .slice o3 n3 c3, .slice o4 n4 c4] 65)
          have I8 := src_item (P := Try.prog) (SL := 24) (sz := 15) Try.underlying24 (Blk.new w7 65 #[.int .i64 x.ty, .int .i64 x.fl, .int .u32 x.t, .int .i64 x.st, .int .i64 x.ss, .int .u32 x.pr, .string d', .int .u32 x.tg, .int .u32 x.rw_, .int .i64 x.ou, .int .i64 x.ii, .slice o1 n1 c1, .slice o2 n2 c2, .slice o3 n3 c3, .slice o4 n4 c4]) (fun u hu => by simp only [List.mem_cons, List.not_mem_nil, or_false] at hu; rcases hu with rfl | rfl | rfl | rfl | rfl | rfl | rfl | rfl | rfl | rfl | rfl | rfl | rfl | rfl | rfl <;> rfl) rfl
          have bel8 := bel7.alloc (by omega) (.cells #[.int .i64 x.ty, .int .i64 x.fl, .int .u32 x.t, .int .i64 x.st, .int .i64 x.ss, .int .u32 x.pr, .string d', .int .u32 x.tg, .int .u32 x.rw_, .int .i64 x.ou, .int .i64 x.ii, .slice o1 n1 c1, .slice o2 n2 c2, .slice o3 n3 c3, .slice o4 n4 c4] 65)
          have hs78 : w7.heap.size < (w7.alloc (.cells #[.int .i64 x.ty, .int .i64 x.fl, .int .u32 x.t, .int .i64 x.st, .int .i64 x.ss, .int .u32 x.pr, .string d', .int .u32 x.tg, .int .u32 x.rw_, .int .i64 x.ou, .int .i64 x.ii, .slice o1 n1 c1, .slice o2 n2 c2, .slice o3 n3 c3, .slice o4 n4 c4] 65)).heap.size := by simp
          have hrow8 : ∀ (q : Nat) u, (chc x)[q]? = some u → (w7.alloc (.cells #[.int .i64 x.ty, .int .i64 x.fl, .int .u32 x.t, .int .i64 x.st, .int .i64 x.ss, .int .u32 x.pr, .string d', .int .u32 x.tg, .int .u32 x.rw_, .int .i64 x.ou, .int .i64 x.ii, .slice o1 n1 c1, .slice o2 n2 c2, .slice o3 n3 c3, .slice o4 n4 c4] 65)).cell? ((a.add (j * 15)).add q) = some u := fun q u hu => al_cell (hrow7 q u hu)
          refine val_C (i := 8) (u := .slice (some ⟨w7.heap.size, 0, none⟩) 1 1) (w' := w7.alloc (.cells #[.int .i64 x.ty, .int .i64 x.fl, .int .u32 x.t, .int .i64 x.st, .int .i64 x.ss, .int .u32 x.pr, .string d', .int .u32 x.tg, .int .u32 x.rw_, .int .i64 x.ou, .int .i64 x.ii, .slice o1 n1 c1, .slice o2 n2 c2, .slice o3 n3 c3, .slice o4 n4 c4] 65)) (by kernel_rfl) rfl rfl rfl (fun _ => ⟨O8.cell 3, X8.cell 3, hrow8⟩) (run_build1 (u := .agg #[.int .i64 x.ty, .int .i64 x.fl, .int .u32 x.t, .int .i64 x.st, .int .i64 x.ss, .int .u32 x.pr, .string d', .int .u32 x.tg, .int .u32 x.rw_, .int .i64 x.ou, .int .i64 x.ii, .slice o1 n1 c1, .slice o2 n2 c2, .slice o3 n3 c3, .slice o4 n4 c4]) rfl (by simp [EV]) (by kernel_rfl)) ?_
          obtain ⟨w8, hw8⟩ : ∃ w8, w7.alloc (.cells #[.int .i64 x.ty, .int .i64 x.fl, .int .u32 x.t, .int .i64 x.st, .int .i64 x.ss, .int .u32 x.pr, .string d', .int .u32 x.tg, .int .u32 x.rw_, .int .i64 x.ou, .int .i64 x.ii, .slice o1 n1 c1, .slice o2 n2 c2, .slice o3 n3 c3, .slice o4 n4 c4] 65) = w8 := ⟨_, rfl⟩
          rw [hw8] at O8 X8 R8 q8 I8 bel8 hs78 hrow8 ⊢
          clear hw8 O7 X7 R7 q7 bel7 hrow7
          obtain ⟨v', w9, hr9, q9, gr, ha⟩ := qo_append (P := Try.prog) (t := 24) (ty := 24) Try.underlying24 hi0 hz0 hz1 hz2 rfl q8 I8 (by unfold maxLen; omega) (by omega) (by have := O8.lt; omega)
          have g9 : Blk w9 ob 26 #[.int .i64 pf, .int .i64 pt, .int .u32 tag, .slice oq j cq] := (gr.block ob O8.lt (fun e => by have := (q8.lt e.symm).1; omega)).trans O8
          have x9 : Blk w9 cb 26 #[.int .i64 pf, .int .i64 pt, .int .u32 tag, .slice (some a) n c] := (gr.block cb X8.lt (fun e => by have := (q8.lt e.symm).1; omega)).trans X8
          have r9 : Blk w9 rb 26 #[.int .i64 0, .int .i64 0, .int .u32 0, .slice none 0 0] := (gr.block rb R8.lt (fun e => by have := (q8.lt e.symm).1; omega)).trans R8
          have bel9 : Below G w w9 := bel8.grown gr (by omega) (fun k hk => by have := (q8.lt hk).1; omega)
          have hv9 : ∀ i, blkOf v' = some i → b1 ≤ i := fun i hi => (q9.lt hi).1
          obtain ⟨o9, c9, hv', _, _⟩ := q9.shape
          subst hv'
          have f9 : w9.frozen? ⟨ob, 3, none⟩ = false := g9.frozen 3
          have c9' : w9.cell? ⟨ob, 3, none⟩ = some (.slice oq j cq) := g9.cell 3
          have hrow9 : ∀ (q : Nat) u, (chc x)[q]? = some u → w9.cell? ((a.add (j * 15)).add q) = some u := fun q u hu => (World.cell?_of_block (gr.block ((a.add (j * 15)).add q).block (by rw [addr_add_block, addr_add_block]; omega) (fun e => by have e : some ((a.add (j * 15)).add q).block = blkOf (.slice oq j cq) := e; rw [addr_add_block, addr_add_block] at e; have := (q8.lt e.symm).1; omega))).trans (hrow8 q u hu)
          refine app_C (i := 9) (by kernel_rfl) rfl rfl rfl rfl (by simp [EV]) (by simp [EV]) hr9 (fun _ => ⟨c9', x9.cell 3, hrow9⟩) ?_
          refine val_C (i := 10) (u := .pointer (some ⟨ob, 3, none⟩)) (by kernel_rfl) rfl rfl rfl (fun _ => ⟨c9', x9.cell 3, hrow9⟩) (run_field (s := .pointer (some ⟨ob, 0, none⟩)) rfl (by simp [EV]) (by kernel_rfl)) ?_
          refine store_C (i := 11) (p := .pointer (some ⟨ob, 3, none⟩)) (u := .slice o9 (j + 1) c9) (w' := w9.setCell ⟨ob, 3, none⟩ (.slice o9 (j + 1) c9)) (by kernel_rfl) rfl rfl rfl rfl (by simp [EV]) (by simp [EV]) (fun h => absurd rfl h) (by go_simp) ?_
          refine done_C (by kernel_rfl) ?_ _
          refine NoPanic.normal ?_
          rw [HB.out]
          simp only [Act.put, List.setIfInBounds_toArray, List.set_cons_zero, List.set_cons_succ]
          have HE := Lib.hid (And.intro (q9.far (p := ⟨ob, 3, none⟩) (fun e => by have := hv9 _ e; have : b1 ≤ ob := this; omega) (.slice o9 (j + 1) c9)) (And.intro (g9.set_ 3 (.slice o9 (j + 1) c9)) (And.intro (x9.far (p := ⟨ob, 3, none⟩) (show cb ≠ ob by omega) (.slice o9 (j + 1) c9)) (And.intro (r9.far (p := ⟨ob, 3, none⟩) (show rb ≠ ob by omega) (.slice o9 (j + 1) c9)) (bel9.setCell (p := ⟨ob, 3, none⟩) (show G ≤ ob by omega) (.slice o9 (j + 1) c9))))))
          clear HB EV e1' e3' ej' hsz O8 X8 R8 q8 I8 bel8 hrow8 hr9 q9 gr ha g9 x9 r9 bel9 hv9 f9 c9' hrow9
          go_wp2_with fail
          go_roundw
          case rel => exact ⟨j + 1, _, _, by go_num, by omega, by omega, HE.out.1, HE.out.2.1, HE.out.2.2.1, HE.out.2.2.2.1, HE.out.2.2.2.2⟩
          case measure => simp [intOf]; omega
        · have h22i : ¬ (j : Int) < 22 := by omega
          have HE := Lib.hid (And.intro q5 (And.intro O5 (And.intro X5 (And.intro R5 bel5))))
          clear q5 O5 X5 R5 bel5
          go_wp2_with fail
          go_meet
          exact ⟨j, v, xs, HE.out.1, HE.out.2.1, HE.out.2.2.1, HE.out.2.2.2.1, HE.out.2.2.2.2⟩
      · have hii : ¬ (j : Int) < (n : Int) := by omega
        have HE := Lib.hid (And.intro q5 (And.intro O5 (And.intro X5 (And.intro R5 bel5))))
        clear q5 O5 X5 R5 bel5
        go_wp2_with fail
        go_meet
        exact ⟨j, v, xs, HE.out.1, HE.out.2.1, HE.out.2.2.1, HE.out.2.2.2.1, HE.out.2.2.2.2⟩
  case rest =>
  obtain ⟨j, v, xs, q5, O5, X5, R5, bel5⟩ := hcut
  obtain ⟨o1, c1, hv, _, _⟩ := q5.shape
  subst hv
  clear HL q5
  generalize wc = w9 at *
  have szY := sz_pk pf pt tag (.slice o1 j c1)
  have hone : (#[.int .i64 pf, .int .i64 pt, .int .u32 tag, .slice o1 j c1] : Array Value).all (·.oneCell') = true := by kernel_rfl
  have Zc := (Cel.of_blk R5).setCells_same (#[.int .i64 pf, .int .i64 pt, .int .u32 tag, .slice o1 j c1] : Array Value).toList rfl
  have bel6 := below_setCells bel5 (show G ≤ rb by omega) 0 (#[.int .i64 pf, .int .i64 pt, .int .u32 tag, .slice o1 j c1] : Array Value).toList
  go_wp2_with (first | (refine wpList_load_at rfl 26 _ rfl ob 0 rfl #[.int .i64 pf, .int .i64 pt, .int .u32 tag, .slice o1 j c1] _ (Cel.of_blk O5) Try.underlying26 rfl szY ?_) | (refine wpList_store_at rfl 26 _ _ rfl rb 0 #[.int .i64 pf, .int .i64 pt, .int .u32 tag, .slice o1 j c1] rfl rfl #[.int .i64 0, .int .i64 0, .int .u32 0, .slice none 0 0] (Cel.of_blk R5) szY rfl hone ?_))
  exact bodyPost_ret (v := .agg #[.int .i64 pf, .int .i64 pt, .int .u32 tag, .slice o1 j c1]) (results_cell_at rfl _ _ rb 0 #[.int .i64 pf, .int .i64 pt, .int .u32 tag, .slice o1 j c1] _ rfl (Zc.congr rfl) Try.underlying26 rfl szY) rfl ⟨⟨o1, j, c1, rfl⟩, by first | exact bel6 | (rw [HGG.out]; exact bel6)⟩
end Go.Proofs.Ythjhiogbnacmdaa.cut
