/- Layer 37: is what was read loose right, as the program says (gen-moj.py wrote this). -/
import Derived.Test.YthjhiogbnacmdaaMoI
namespace Go.Proofs.Ythjhiogbnacmdaa.mo
open Go.Sort (grow)
open Go.ChangeShapes Go.WideShapes Go.ChangeAt Go.RowKit kit cut
open Go.WideMaps (KeyLaw)
set_option maxRecDepth 100000

theorem laidOut : laidOutB Try.prog = true := by kernel_rfl
theorem keySd : KeyLaw Try.prog 97 := deep_law_laid laidOut (m := 3) (by decide) (of_decide_eq_true (by kernel_rfl)) (by kernel_rfl) (by kernel_rfl)
theorem uMs : Try.prog.underlying 101 = some (.map 97 3) := by kernel_rfl
theorem zIm (w : World) : (zeroValue 3).run Try.prog w = .ok (.int .i64 0) w := by kernel_rfl
theorem add1_run (n : Int) (h1 : -100 ≤ n) (h2 : n ≤ 100) (v : World) : (binOp .add 3 (.int .i64 n) (.int .i64 1)).run Try.prog v = .ok (.int .i64 (n + 1)) v := by
  go_simp
  try rw [IntKind.wrap_i64]
  try omega
theorem sub1_run (n : Int) (h1 : -100 ≤ n) (h2 : n ≤ 100) (v : World) : (binOp .sub 3 (.int .i64 n) (.int .i64 1)).run Try.prog v = .ok (.int .i64 (n - 1)) v := by
  go_simp
  try rw [IntKind.wrap_i64]
  try omega
theorem run_sub9 {P : Program} {oi : Oper} {a : Act} {x y : Operand} {tx ty : TypeId} {s j u : Value} {v : World} (ho : oi.op = .binOp .sub tx x y ty) (hx : a.eval x = s) (hy : a.eval y = j) (hr : (binOp .sub tx s j).run P v = .ok u v) : (execOp a.eval oi).run P v = .ok (.value u) v := by
  unfold execOp
  simp [ho, hx, hy, eqGuard, hr]
theorem sd_key (x : Ms) (hs : (x.s = 0 ∨ x.s = 1) ∧ x.d.size ≤ 2) : ∃ l, keyOf Try.prog 97 (.agg (sd x)) = some l := by
  have wc : (Lit.int .i64 x.s).wf = true := by rcases hs.1 with e | e <;> rw [e] <;> decide
  have hd : x.d.size ≤ maxLen := by unfold maxLen; have := hs.2; omega
  have wd : (Lit.int .u32 0).wf = true := by decide
  have s0 : Try.prog.cellsOf 97 = 3 := by kernel_rfl
  have s1 : Try.prog.cellsOf 23 = 1 := by kernel_rfl
  have s2 : Try.prog.cellsOf 3 = 1 := by kernel_rfl
  have s3 : Try.prog.cellsOf 9 = 1 := by kernel_rfl
  have hk : ∀ n, ∃ l, Try.prog.keyLits (n + 2) 97 [.int .i64 x.s, .int .u32 0, .string x.d] = some l := fun n => by
    simp [Program.keyLits, Try.underlying97, Try.underlying23, Try.underlying3, Try.underlying9, s0, s1, s2, s3, wc, wd, hd]
  have ht : 0 < Try.prog.types.size := of_decide_eq_true (by kernel_rfl)
  obtain ⟨n, hn⟩ : ∃ n, Try.prog.types.size + 1 = n + 2 := ⟨Try.prog.types.size - 1, by omega⟩
  have hf : (Try.prog.keyType 97 && (Value.agg (sd x)).formed Try.prog 97) = true := by kernel_rfl
  obtain ⟨l, hl⟩ := hk n
  unfold keyOf
  rw [Try.underlying97]
  simp only [hf, hn, if_true]
  rw [show (Value.agg (sd x)).cells.toList = [.int .i64 x.s, .int .u32 0, .string x.d] from rfl, hl]
  exact ⟨_, rfl⟩
theorem sd_inj {x y : Ms} (h : Value.agg (sd x) = .agg (sd y)) : x.s = y.s ∧ x.d = y.d := by
  simpa [sd] using h
open Classical in
/-- How many say this. -/
noncomputable def cs (L : List Ms) (v : Value) : Int := ((L.countP fun y => decide (Value.agg (sd y) = v) : Nat) : Int)
theorem cs_nil : cs [] = fun _ => 0 := by
  funext v
  simp [cs]
open Classical in
theorem cs_snoc (L : List Ms) (x : Ms) (v : Value) : cs (L ++ [x]) v = cs L v + if v = .agg (sd x) then 1 else 0 := by
  unfold cs
  rw [List.countP_append]
  by_cases h : v = .agg (sd x)
  · subst h
    simp
  · have : ¬ Value.agg (sd x) = v := fun e => h e.symm
    simp [h, this]
open Classical in
theorem upd_add (L : List Ms) (x : Ms) (n0 : Int) (h : cs L (.agg (sd x)) = n0) : (fun y => if y = Value.agg (sd x) then n0 + 1 else cs L y) = fun v => cs (L ++ [x]) v := by
  funext y
  rw [cs_snoc]
  by_cases e : y = .agg (sd x)
  · subst e
    rw [if_pos rfl, if_pos rfl, h]
  · rw [if_neg e, if_neg e, Int.add_zero]
open Classical in
theorem upd_sub (A L : List Ms) (x : Ms) (n0 : Int) (h : cs A (.agg (sd x)) - cs L (.agg (sd x)) = n0) : (fun y => if y = Value.agg (sd x) then n0 - 1 else cs A y - cs L y) = fun v => cs A v - cs (L ++ [x]) v := by
  funext y
  rw [cs_snoc]
  by_cases e : y = .agg (sd x)
  · subst e
    rw [if_pos rfl, if_pos rfl, ← h]
    omega
  · rw [if_neg e, if_neg e, Int.add_zero]
theorem cs_le (L : List Ms) (v : Value) : 0 ≤ cs L v ∧ cs L v ≤ L.length := by
  unfold cs
  exact ⟨Int.natCast_nonneg _, by exact_mod_cast List.countP_le_length⟩
theorem cs_take (L : List Ms) (k : Nat) (v : Value) : cs (L.take k) v ≤ cs L v := by
  unfold cs
  exact_mod_cast (List.take_sublist k L).countP_le
open Classical in
theorem cs_cM {L : List Ms} (hl : ∀ x ∈ L, x.lo = true) {x : Ms} (hx : x.lo = true) : cs L (.agg (sd x)) = (cM x L : Nat) := by
  unfold cs cM
  congr 1
  apply List.countP_congr
  intro y hy
  rw [decide_eq_true_eq, eqM_iff]
  constructor
  · intro e
    have := sd_inj e
    exact Ms.ext' this.1 ((hl y hy).trans hx.symm) this.2
  · rintro rfl
    rfl
/-- Nothing is read oftener than it was sent. -/
def CntP (A R : List Ms) : Prop := ∀ v, cs R v ≤ cs A v
open Classical in
theorem cntP_iff {A R : List Ms} (hA : ∀ x ∈ A, x.lo = true) (hR : ∀ x ∈ R, x.lo = true) : CntP A R ↔ ∀ x, cM x R ≤ cM x A := by
  constructor
  · intro h x
    by_cases hx : x.lo = true
    · have := h (.agg (sd x))
      rw [cs_cM hA hx, cs_cM hR hx] at this
      omega
    · have : cM x R = 0 := by
        unfold cM
        rw [List.countP_eq_zero]
        intro y hy q
        rw [(eqM_iff y x).1 q] at hy
        exact hx (hR x hy)
      omega
  · intro h v
    by_cases hv : ∃ x ∈ R, Value.agg (sd x) = v
    · obtain ⟨x, hx, rfl⟩ := hv
      rw [cs_cM hA (hR x hx), cs_cM hR (hR x hx)]
      have := h x
      omega
    · have : cs R v = 0 := by
        unfold cs
        rw [Int.natCast_eq_zero, List.countP_eq_zero]
        intro y hy q
        exact hv ⟨y, hy, of_decide_eq_true q⟩
      have := (cs_le A v).1
      omega
/-- What is answered. -/
def CntQ (A R : List Ms) (e : Ending) : Prop := ∃ b, e = .returned (.bool b) ∧ (b = true ↔ CntP A R)
theorem CntQ.no {A R : List Ms} {e : Ending} (he : e = .returned (.bool false)) (h : ¬ CntP A R) : CntQ A R e := ⟨false, he, fun q => absurd q Bool.false_ne_true, fun q => absurd q h⟩
set_option maxHeartbeats 8000000 in
theorem counted_any {w : World} {bA bR : Nat} {vA vR : Value} {A R : List Ms} (qA : QM w bA vA A) (qR : QM w bR vR R) (hA : A.length ≤ 20) (hR : R.length ≤ 20) (sA : ∀ x ∈ A, (x.s = 0 ∨ x.s = 1) ∧ x.d.size ≤ 2) (sR : ∀ x ∈ R, (x.s = 0 ∨ x.s = 1) ∧ x.d.size ≤ 2) :
    Calls Try.prog 30 #[vA, vR] w fun e w' => CntQ A R e ∧ Below w.heap.size w w' := by
  have M1 : Cnt Try.prog 97 (w.alloc (.map #[] 0)) w.heap.size (fun v => cs [] v) := by rw [cs_nil]; exact Cnt.new w
  have bel1 : Below w.heap.size w (w.alloc (.map #[] 0)) := (Below.refl w.heap.size w).alloc (Nat.le_refl _) _
  obtain ⟨B0, hB0⟩ : ∃ B0, w.heap.size = B0 := ⟨_, rfl⟩
  have HA := Lib.hid (show ∀ w', Below B0 w w' → QM w' bA vA A from fun w' h => qA.below h (by omega))
  have HR := Lib.hid (show ∀ w', Below B0 w w' → QM w' bR vR R from fun w' h => qR.below h (by omega))
  obtain ⟨oA, cA, hva, -, -⟩ := qA.shape
  obtain ⟨oR, cR, hvr, -, -⟩ := qR.shape
  obtain ⟨nA, hnA⟩ : ∃ n, A.length = n := ⟨_, rfl⟩
  obtain ⟨nR, hnR⟩ : ∃ n, R.length = n := ⟨_, rfl⟩
  rw [hnA] at hva
  rw [hnR] at hvr
  subst hva hvr
  rw [hB0] at M1 bel1 ⊢
  have HB0 := Lib.hid hB0
  have HNA := Lib.hid hnA
  have HNR := Lib.hid hnR
  have HSA := Lib.hid sA
  have HSR := Lib.hid sR
  have hA20 : nA ≤ 20 := by omega
  have hR20 : nR ≤ 20 := by omega
  have hmk : ∀ w, (Instr.makeMap 101 none).run Try.prog w = .ok (.map (some w.heap.size)) (w.alloc (.map #[] 0)) := fun w => rfl
  clear qA qR hA hR hnA hnR sA sR
  go_enter Try.func30, Try.ntmps30
  go_upto_region 2 with fail
  try rw [hB0]
  obtain ⟨w1, hw1⟩ : ∃ w1, w.alloc (.map #[] 0) = w1 := ⟨_, rfl⟩
  rw [hw1] at M1 bel1
  try rw [hw1]
  clear hw1 hmk hB0
  go_upto_block 0 with fail
  go_cut [] (fun wx => Cnt Try.prog 97 wx B0 (fun v => cs A v) ∧ Below B0 w wx)
  case first =>
    go_wp2_with fail
    go_loopw [13] (fun s13 wr => ∃ i : Nat, s13 = .int .i64 (i : Nat) ∧ i ≤ nA ∧ Cnt Try.prog 97 wr B0 (fun v => cs (A.take i) v) ∧ Below B0 w wr) (fun s13 _ => nA - (intOf s13).toNat)
    case atStart => exact ⟨0, rfl, Nat.zero_le _, (by rw [List.take_zero]; exact M1), bel1⟩
    case round =>
      rename World => wr
      clear M1 bel1
      obtain ⟨i, rfl, hi, M, bel⟩ := hrel
      by_cases hlt : i < nA
      · obtain ⟨x, hx⟩ : ∃ x, A[i]? = some x := ⟨_, List.getElem?_eq_getElem (by rw [HNA.out]; exact hlt)⟩
        obtain ⟨hh, off, hoa, -, -, -, -, CX⟩ := msg_at (HA.out _ bel) hx
        subst hoa
        have hi0 : (0 : Int) ≤ (i : Int) := by omega
        have hi1 : (i : Int) < (nA : Int) := by omega
        have HX := Lib.hid hx
        have szm := szMe x
        unfold me at szm CX
        clear hx

        go_upto_region 5 with (refine wpList_load_at rfl 71 _ rfl hh (off + i * 5) rfl #[.int .i64 x.s, .int .i64 0, .bool x.lo, .int .u32 0, .string x.d] _ CX Try.underlying71 rfl szm ?_)
        have P2 := Blk.new wr 71 #[.int .i64 x.s, .int .i64 0, .bool x.lo, .int .u32 0, .string x.d]
        have al2 := (Below.refl wr.heap.size wr).alloc (Nat.le_refl _) (.cells #[.int .i64 x.s, .int .i64 0, .bool x.lo, .int .u32 0, .string x.d] 71)
        have hml := M.lt
        have M2 := M.below al2 hml
        have bel2 := bel.trans (al2.mono (by omega))
        obtain ⟨w2, hw2⟩ : ∃ w2, wr.alloc (.cells #[.int .i64 x.s, .int .i64 0, .bool x.lo, .int .u32 0, .string x.d] 71) = w2 := ⟨_, rfl⟩
        rw [hw2] at P2 al2 M2 bel2
        try rw [hw2]
        clear hw2 M bel CX
        obtain ⟨pb, hpb⟩ : ∃ pb, wr.heap.size = pb := ⟨_, rfl⟩
        rw [hpb] at P2 hml
        try rw [hpb]
        clear hpb al2

        have HS2 := HSA
        have CD : Cel w2.drew pb 0 #[.int .i64 x.s, .int .i64 0, .bool x.lo, .int .u32 0, .string x.d] := (Cel.of_blk P2).drew
        have MD := M2.drew
        have belD := bel2.drew
        obtain ⟨lk, hlk⟩ := sd_key x (HS2.out x (List.mem_of_getElem? HX.out))
        obtain ⟨n0, hn0⟩ : ∃ n0, cs (A.take i) (.agg (sd x)) = n0 := ⟨_, rfl⟩
        have hcl := cs_le (A.take i) (.agg (sd x))
        rw [List.length_take, hn0] at hcl
        have hadd : ∀ v : World, (binOp .add 3 (.int .i64 n0) (.int .i64 1)).run Try.prog v = .ok (.int .i64 (n0 + 1)) v := fun v => add1_run n0 (by omega) (by omega) v
        clear M2 bel2
        refine wp_region_noPanic ?_
        refine begin_C (fun v => Cel v pb 0 #[.int .i64 x.s, .int .i64 0, .bool x.lo, .int .u32 0, .string x.d] ∧ Cnt Try.prog 97 v B0 (fun v => cs (A.take i) v)) 7 (by kernel_rfl) ?_
        obtain ⟨w6, hw6⟩ : ∃ w6, w2.drew = w6 := ⟨_, rfl⟩
        rw [hw6] at CD MD belD
        rw [hw6]
        clear hw6
        have HS : ((fun v => Cel v pb 0 #[.int .i64 x.s, .int .i64 0, .bool x.lo, .int .u32 0, .string x.d] ∧ Cnt Try.prog 97 v B0 (fun v => cs (A.take i) v)) : World → Prop) w6 := ⟨CD, MD⟩
        refine abs_C _ (fun ac hac => ?_)
        have hsz : ac.tmps.size = 44 := by rw [hac]; rfl
        have ea : ac.eval (.tmp 5) = .map (some B0) := by rw [hac]; rfl
        have eb : ac.eval (.tmp 7) = .pointer (some ⟨pb, 0, none⟩) := by rw [hac]; rfl
        have HB := Lib.hid hac
        clear hac
        have EV := And.intro @Act.eval_put_ne (And.intro @Act.eval_put_same (And.intro @Act.size_put (And.intro hsz (And.intro ea eb))))
        refine take_Y (i := 0) (u := .map (some B0)) rfl (by kernel_rfl) (by kernel_rfl) (by kernel_rfl) (by decide) rfl rfl (fun _ _ _ h => h) HS (fun v => run_move rfl (by simp [EV]) v) ?_
        refine take_C (i := 1) [2, 3, 4] (u := .agg #[.int .i64 x.s, .int .i64 0, .bool x.lo, .int .u32 0, .string x.d]) rfl (by kernel_rfl) (by kernel_rfl) (by kernel_rfl) (by kernel_rfl) (by kernel_rfl) (by decide) rfl rfl (fun _ _ _ h => h) HS (fun v hv => run_load_at rfl (h := pb) (off := 0) (by simp [EV]) _ Try.underlying71 rfl szm hv.1) ?_
        refine call_C (i := 2) (by kernel_rfl) rfl rfl rfl 42 Try.f42 _ _ rfl Try.func42 (by kernel_rfl) (by kernel_rfl) #[.agg #[.int .i64 x.s, .int .i64 0, .bool x.lo, .int .u32 0, .string x.d]] (by simp [EV]) (said_any x w6) ?_
        intro e w7 hR
        obtain ⟨he, hb7⟩ := hR
        have C7 := CD.below hb7 CD.1
        have M7 := MD.below hb7 MD.lt
        have bel7 := belD.trans (hb7.mono (by have := MD.lt; omega))
        refine ⟨_, he, fun _ => ⟨C7, M7⟩, ?_⟩
        unfold sd
        clear HS
        have HS : ((fun v => Cel v pb 0 #[.int .i64 x.s, .int .i64 0, .bool x.lo, .int .u32 0, .string x.d] ∧ Cnt Try.prog 97 v B0 (fun v => cs (A.take i) v)) : World → Prop) w7 := ⟨C7, M7⟩
        refine take_C (i := 3) [4] (u := .int .i64 n0) rfl (by kernel_rfl) (by kernel_rfl) (by kernel_rfl) (by kernel_rfl) (by kernel_rfl) (by decide) rfl rfl (fun _ _ _ h => h) HS (fun v hv => run_lookup (vm := .map (some B0)) (vk := .agg #[.int .i64 x.s, .int .u32 0, .string x.d]) rfl (by simp [EV]) (by simp [EV]) (by have h := hv.2.look keySd uMs zIm hlk; rw [hn0] at h; exact h)) ?_
        refine take_Y (i := 4) (u := .int .i64 (n0 + 1)) rfl (by kernel_rfl) (by kernel_rfl) (by kernel_rfl) (by decide) rfl rfl (fun _ _ _ h => h) HS (fun v => run_add (s := .int .i64 n0) (j := .int .i64 1) rfl (by simp [EV]) rfl (hadd v)) ?_
        obtain ⟨es0, c0, M0, _⟩ := id M7
        obtain ⟨st, es1, c1, hE0, CE, hSt⟩ := M7.entry keySd uMs zIm hlk
        have hE : (Instr.mapEntry 101 (.map (some B0)) (.agg #[.int .i64 x.s, .int .u32 0, .string x.d])).run Try.prog w7 = .ok (.tuple #[.int .i64 n0, Go.goInt st]) (Go.ChangeMaps.setBlock w7 B0 (.map es1 c1)) := by rw [← hn0]; exact hE0
        clear hE0
        have MM := M0.set_ es1 c1
        obtain ⟨es2, c2, hS2, CF⟩ := hSt _ (n0 + 1) MM
        have C8 : Cel (Go.ChangeMaps.setBlock w7 B0 (.map es1 c1)) pb 0 #[.int .i64 x.s, .int .i64 0, .bool x.lo, .int .u32 0, .string x.d] := cel_map M0 C7 (by omega) es1 c1
        have bel8 : Below B0 w (Go.ChangeMaps.setBlock w7 B0 (.map es1 c1)) := M0.bel bel7 (Nat.le_refl _) es1 c1
        have bel9 : Below B0 w (Go.ChangeMaps.setBlock (Go.ChangeMaps.setBlock w7 B0 (.map es1 c1)) B0 (.map es2 c2)) := MM.bel bel8 (Nat.le_refl _) es2 c2
        have C9 : Cel (Go.ChangeMaps.setBlock (Go.ChangeMaps.setBlock w7 B0 (.map es1 c1)) B0 (.map es2 c2)) pb 0 #[.int .i64 x.s, .int .i64 0, .bool x.lo, .int .u32 0, .string x.d] := cel_map MM C8 (by omega) es2 c2
        refine val_C (i := 5) (u := .tuple #[.int .i64 n0, Go.goInt st]) (w' := Go.ChangeMaps.setBlock w7 B0 (.map es1 c1)) (by kernel_rfl) rfl rfl rfl (fun _ => ⟨C8, CE⟩) (run_entry9 rfl (by simp [EV]) (by simp [EV]) hE) ?_
        refine val_C (i := 6) (u := Go.goInt st) (w' := Go.ChangeMaps.setBlock w7 B0 (.map es1 c1)) (by kernel_rfl) rfl rfl rfl (fun _ => ⟨C8, CE⟩) (run_extract (t := .tuple #[.int .i64 n0, Go.goInt st]) rfl (by simp [EV]) (by kernel_rfl)) ?_
        refine unit_C (i := 7) (by kernel_rfl) rfl rfl rfl (fun h => absurd rfl h) (run_est rfl (by simp [EV]) (by simp [EV]) (by simp [EV]) hS2) ?_
        refine done_C (by kernel_rfl) ?_ _
        refine NoPanic.normal ?_
        rw [HB.out]
        simp only [Act.put, List.setIfInBounds_toArray, List.set_cons_zero, List.set_cons_succ]
        generalize Go.ChangeMaps.setBlock (Go.ChangeMaps.setBlock w7 B0 (.map es1 c1)) B0 (.map es2 c2) = w9 at *

        have HM := Lib.hid (show Cnt Try.prog 97 w9 B0 (fun v => cs (A.take (i + 1)) v) ∧ Below B0 w w9 by
          have hfe := upd_add (A.take i) x n0 hn0
          rw [← take_snoc HX.out] at hfe
          rw [← hfe]
          exact ⟨CF, bel9⟩)
        clear HB HS EV ea eb hsz CD MD belD C7 M7 bel7 hE CE hSt MM hS2 C8 bel8 M0 hadd CF bel9 C9 hcl hn0
        go_wp2_with fail
        go_roundw
        case rel => exact ⟨i + 1, by go_num, by omega, HM.out.1, HM.out.2⟩
        case measure => simp [intOf]; omega
      · obtain rfl : i = nA := by omega
        have hta : A.take i = A := by rw [← HNA.out]; exact List.take_length
        rw [hta] at M
        have HM := Lib.hid (And.intro M bel)
        clear M bel hta
        go_wp2_with fail
        go_meet
        exact HM.out
  case rest =>
  clear M1 bel1
  obtain ⟨M, bel⟩ := hcut
  generalize wc = w3 at *
  have M1 : Cnt Try.prog 97 w3 B0 (fun v => cs A v - cs (R.take 0) v) := by
    rw [List.take_zero, cs_nil]
    simpa using M
  have bel1 := bel
  clear M bel
  go_upto_block 2 with fail
  go_wp2_with fail
  go_loopw [27] (fun s27 wr => ∃ i : Nat, s27 = .int .i64 (i : Nat) ∧ i ≤ nR ∧ (∀ v, cs (R.take i) v ≤ cs A v) ∧ Cnt Try.prog 97 wr B0 (fun v => cs A v - cs (R.take i) v) ∧ Below B0 w wr) (fun s27 _ => nR - (intOf s27).toNat)
  case atStart => exact ⟨0, rfl, Nat.zero_le _, (fun v => by rw [List.take_zero, cs_nil]; exact (cs_le A v).1), M1, bel1⟩
  case round =>
    rename World => wr
    clear M1 bel1
    obtain ⟨i, rfl, hi, ho, M, bel⟩ := hrel
    by_cases hlt : i < nR
    · obtain ⟨x, hx⟩ : ∃ x, R[i]? = some x := ⟨_, List.getElem?_eq_getElem (by rw [HNR.out]; exact hlt)⟩
      obtain ⟨hh, off, hoa, -, -, -, -, CX⟩ := msg_at (HR.out _ bel) hx
      subst hoa
      have hi0 : (0 : Int) ≤ (i : Int) := by omega
      have hi1 : (i : Int) < (nR : Int) := by omega
      have HX := Lib.hid hx
      have szm := szMe x
      unfold me at szm CX
      clear hx

      have HO := Lib.hid ho
      clear ho
      go_upto_region 10 with (refine wpList_load_at rfl 71 _ rfl hh (off + i * 5) rfl #[.int .i64 x.s, .int .i64 0, .bool x.lo, .int .u32 0, .string x.d] _ CX Try.underlying71 rfl szm ?_)
      have P2 := Blk.new wr 71 #[.int .i64 x.s, .int .i64 0, .bool x.lo, .int .u32 0, .string x.d]
      have al2 := (Below.refl wr.heap.size wr).alloc (Nat.le_refl _) (.cells #[.int .i64 x.s, .int .i64 0, .bool x.lo, .int .u32 0, .string x.d] 71)
      have hml := M.lt
      have M2 := M.below al2 hml
      have bel2 := bel.trans (al2.mono (by omega))
      obtain ⟨w2, hw2⟩ : ∃ w2, wr.alloc (.cells #[.int .i64 x.s, .int .i64 0, .bool x.lo, .int .u32 0, .string x.d] 71) = w2 := ⟨_, rfl⟩
      rw [hw2] at P2 al2 M2 bel2
      try rw [hw2]
      clear hw2 M bel CX
      obtain ⟨pb, hpb⟩ : ∃ pb, wr.heap.size = pb := ⟨_, rfl⟩
      rw [hpb] at P2 hml
      try rw [hpb]
      clear hpb al2

      have HS2 := HSR
      have CD : Cel w2.drew pb 0 #[.int .i64 x.s, .int .i64 0, .bool x.lo, .int .u32 0, .string x.d] := (Cel.of_blk P2).drew
      have MD := M2.drew
      have belD := bel2.drew
      obtain ⟨lk, hlk⟩ := sd_key x (HS2.out x (List.mem_of_getElem? HX.out))
      obtain ⟨n0, hn0⟩ : ∃ n0, cs A (.agg (sd x)) - cs (R.take i) (.agg (sd x)) = n0 := ⟨_, rfl⟩
      have hcl := cs_le (R.take i) (.agg (sd x))
      have hcl2 := cs_le A (.agg (sd x))
      rw [List.length_take] at hcl
      rw [HNA.out] at hcl2
      have hn1 : cs A (.agg (sd x)) - cs (R.take i) (.agg (sd x)) = n0 := hn0
      have hadd : ∀ v : World, (binOp .sub 3 (.int .i64 n0) (.int .i64 1)).run Try.prog v = .ok (.int .i64 (n0 - 1)) v := fun v => sub1_run n0 (by omega) (by omega) v
      clear M2 bel2
      refine wp_region_noPanic ?_
      refine begin_C (fun v => Cel v pb 0 #[.int .i64 x.s, .int .i64 0, .bool x.lo, .int .u32 0, .string x.d] ∧ Cnt Try.prog 97 v B0 (fun v => cs A v - cs (R.take i) v)) 7 (by kernel_rfl) ?_
      obtain ⟨w6, hw6⟩ : ∃ w6, w2.drew = w6 := ⟨_, rfl⟩
      rw [hw6] at CD MD belD
      rw [hw6]
      clear hw6
      have HS : ((fun v => Cel v pb 0 #[.int .i64 x.s, .int .i64 0, .bool x.lo, .int .u32 0, .string x.d] ∧ Cnt Try.prog 97 v B0 (fun v => cs A v - cs (R.take i) v)) : World → Prop) w6 := ⟨CD, MD⟩
      refine abs_C _ (fun ac hac => ?_)
      have hsz : ac.tmps.size = 44 := by rw [hac]; rfl
      have ea : ac.eval (.tmp 5) = .map (some B0) := by rw [hac]; rfl
      have eb : ac.eval (.tmp 9) = .pointer (some ⟨pb, 0, none⟩) := by rw [hac]; rfl
      have HB := Lib.hid hac
      clear hac
      have EV := And.intro @Act.eval_put_ne (And.intro @Act.eval_put_same (And.intro @Act.size_put (And.intro hsz (And.intro ea eb))))
      refine take_Y (i := 0) (u := .map (some B0)) rfl (by kernel_rfl) (by kernel_rfl) (by kernel_rfl) (by decide) rfl rfl (fun _ _ _ h => h) HS (fun v => run_move rfl (by simp [EV]) v) ?_
      refine take_C (i := 1) [2, 3, 4] (u := .agg #[.int .i64 x.s, .int .i64 0, .bool x.lo, .int .u32 0, .string x.d]) rfl (by kernel_rfl) (by kernel_rfl) (by kernel_rfl) (by kernel_rfl) (by kernel_rfl) (by decide) rfl rfl (fun _ _ _ h => h) HS (fun v hv => run_load_at rfl (h := pb) (off := 0) (by simp [EV]) _ Try.underlying71 rfl szm hv.1) ?_
      refine call_C (i := 2) (by kernel_rfl) rfl rfl rfl 42 Try.f42 _ _ rfl Try.func42 (by kernel_rfl) (by kernel_rfl) #[.agg #[.int .i64 x.s, .int .i64 0, .bool x.lo, .int .u32 0, .string x.d]] (by simp [EV]) (said_any x w6) ?_
      intro e w7 hR
      obtain ⟨he, hb7⟩ := hR
      have C7 := CD.below hb7 CD.1
      have M7 := MD.below hb7 MD.lt
      have bel7 := belD.trans (hb7.mono (by have := MD.lt; omega))
      refine ⟨_, he, fun _ => ⟨C7, M7⟩, ?_⟩
      unfold sd
      clear HS
      have HS : ((fun v => Cel v pb 0 #[.int .i64 x.s, .int .i64 0, .bool x.lo, .int .u32 0, .string x.d] ∧ Cnt Try.prog 97 v B0 (fun v => cs A v - cs (R.take i) v)) : World → Prop) w7 := ⟨C7, M7⟩
      refine take_C (i := 3) [4] (u := .int .i64 n0) rfl (by kernel_rfl) (by kernel_rfl) (by kernel_rfl) (by kernel_rfl) (by kernel_rfl) (by decide) rfl rfl (fun _ _ _ h => h) HS (fun v hv => run_lookup (vm := .map (some B0)) (vk := .agg #[.int .i64 x.s, .int .u32 0, .string x.d]) rfl (by simp [EV]) (by simp [EV]) (by have h := hv.2.look keySd uMs zIm hlk; rw [hn0] at h; exact h)) ?_
      refine take_Y (i := 4) (u := .int .i64 (n0 - 1)) rfl (by kernel_rfl) (by kernel_rfl) (by kernel_rfl) (by decide) rfl rfl (fun _ _ _ h => h) HS (fun v => run_sub9 (s := .int .i64 n0) (j := .int .i64 1) rfl (by simp [EV]) rfl (hadd v)) ?_
      obtain ⟨es0, c0, M0, _⟩ := id M7
      obtain ⟨st, es1, c1, hE0, CE, hSt⟩ := M7.entry keySd uMs zIm hlk
      have hE : (Instr.mapEntry 101 (.map (some B0)) (.agg #[.int .i64 x.s, .int .u32 0, .string x.d])).run Try.prog w7 = .ok (.tuple #[.int .i64 n0, Go.goInt st]) (Go.ChangeMaps.setBlock w7 B0 (.map es1 c1)) := by rw [← hn0]; exact hE0
      clear hE0
      have MM := M0.set_ es1 c1
      obtain ⟨es2, c2, hS2, CF⟩ := hSt _ (n0 - 1) MM
      have C8 : Cel (Go.ChangeMaps.setBlock w7 B0 (.map es1 c1)) pb 0 #[.int .i64 x.s, .int .i64 0, .bool x.lo, .int .u32 0, .string x.d] := cel_map M0 C7 (by omega) es1 c1
      have bel8 : Below B0 w (Go.ChangeMaps.setBlock w7 B0 (.map es1 c1)) := M0.bel bel7 (Nat.le_refl _) es1 c1
      have bel9 : Below B0 w (Go.ChangeMaps.setBlock (Go.ChangeMaps.setBlock w7 B0 (.map es1 c1)) B0 (.map es2 c2)) := MM.bel bel8 (Nat.le_refl _) es2 c2
      have C9 : Cel (Go.ChangeMaps.setBlock (Go.ChangeMaps.setBlock w7 B0 (.map es1 c1)) B0 (.map es2 c2)) pb 0 #[.int .i64 x.s, .int .i64 0, .bool x.lo, .int .u32 0, .string x.d] := cel_map MM C8 (by omega) es2 c2
      refine val_C (i := 5) (u := .tuple #[.int .i64 n0, Go.goInt st]) (w' := Go.ChangeMaps.setBlock w7 B0 (.map es1 c1)) (by kernel_rfl) rfl rfl rfl (fun _ => ⟨C8, CE⟩) (run_entry9 rfl (by simp [EV]) (by simp [EV]) hE) ?_
      refine val_C (i := 6) (u := Go.goInt st) (w' := Go.ChangeMaps.setBlock w7 B0 (.map es1 c1)) (by kernel_rfl) rfl rfl rfl (fun _ => ⟨C8, CE⟩) (run_extract (t := .tuple #[.int .i64 n0, Go.goInt st]) rfl (by simp [EV]) (by kernel_rfl)) ?_
      refine unit_C (i := 7) (by kernel_rfl) rfl rfl rfl (fun h => absurd rfl h) (run_est rfl (by simp [EV]) (by simp [EV]) (by simp [EV]) hS2) ?_
      refine done_C (by kernel_rfl) ?_ _
      refine NoPanic.normal ?_
      rw [HB.out]
      simp only [Act.put, List.setIfInBounds_toArray, List.set_cons_zero, List.set_cons_succ]
      generalize Go.ChangeMaps.setBlock (Go.ChangeMaps.setBlock w7 B0 (.map es1 c1)) B0 (.map es2 c2) = w9 at *

      have hfe := upd_sub A (R.take i) x n0 hn0
      rw [← take_snoc HX.out] at hfe
      have M9 : Cnt Try.prog 97 w9 B0 (fun v => cs A v - cs (R.take (i + 1)) v) := by
        rw [← hfe]
        exact CF
      have hlk2 := M9.look keySd uMs zIm hlk
      have hv2 : cs A (.agg (sd x)) - cs (R.take (i + 1)) (.agg (sd x)) = n0 - 1 := by
        rw [take_snoc HX.out, cs_snoc, if_pos rfl, ← hn1]
        omega
      rw [hv2] at hlk2
      unfold sd at hlk2
      have hsd := said_any x w9
      have HV2 := Lib.hid hv2
      have HOX := Lib.hid (show 0 ≤ n0 - 1 → ∀ v, cs (R.take (i + 1)) v ≤ cs A v from fun h v => by
        by_cases e : v = .agg (sd x)
        · subst e; omega
        · have := HO.out v
          rw [take_snoc HX.out, cs_snoc, if_neg e]
          omega)
      clear HB HS EV ea eb hsz CD MD belD C7 M7 bel7 hE CE hSt MM hS2 C8 bel8 M0 hadd hfe CF hn0 hn1 hcl hcl2 hv2
      unfold me sd at hsd
      go_wp2_with (refine wpList_load_at rfl 71 _ rfl pb 0 rfl #[.int .i64 x.s, .int .i64 0, .bool x.lo, .int .u32 0, .string x.d] _ C9 Try.underlying71 rfl szm ?_)
      refine hsd.mono ?_
      rintro e w10 ⟨rfl, hb10⟩
      have M10 := M9.below hb10 M9.lt
      have bel10 := bel9.trans (hb10.mono (by have := M9.lt; omega))
      have hlk3 := M10.look keySd uMs zIm hlk
      rw [HV2.out] at hlk3
      unfold sd at hlk3
      have HM := Lib.hid (And.intro M10 bel10)
      clear M10 bel10 M9 bel9 hb10 C9 hsd hlk2
      by_cases hneg : n0 - 1 < 0
      · have HNO := Lib.hid (show ¬ CntP A R from fun h => by
          have h1 := h (.agg (sd x))
          have h2 := cs_take R (i + 1) (.agg (sd x))
          have := HV2.out
          omega)
        go_wp2_with fail
        go_ret
        exact ⟨CntQ.no rfl HNO.out, HM.out.2⟩
      · have HO2 := Lib.hid (HOX.out (by omega))
        go_wp2_with fail
        go_roundw
        case rel => exact ⟨i + 1, by go_num, by omega, HO2.out, HM.out.1, HM.out.2⟩
        case measure => simp [intOf]; omega
    · obtain rfl : i = nR := by omega
      have hta : R.take i = R := by rw [← HNR.out]; exact List.take_length
      rw [hta] at ho
      have HO := Lib.hid ho
      have HB := Lib.hid bel
      clear M bel ho hta
      go_wp2_with fail
      go_ret
      exact ⟨⟨true, rfl, fun _ => HO.out, fun _ => rfl⟩, HB.out⟩
end Go.Proofs.Ythjhiogbnacmdaa.mo
