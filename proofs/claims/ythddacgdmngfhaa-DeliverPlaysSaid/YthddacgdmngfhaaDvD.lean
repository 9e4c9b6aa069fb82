/- Layer 18: a message put into streams (gen-dvd.py wrote this). -/
import Derived.Test.YthddacgdmngfhaaDvC
namespace Go.Proofs.Ythddacgdmngfhaa.del
open Go.Sort (grow)
open Go.ChangeShapes Go.WideShapes Go.ChangeAt Go.RowKit kit
set_option maxRecDepth 100000
theorem Keep.then {g : Nat} {sv rv rv1 rv2 : Value} {Z Z1 : List (Nat × Nat)} {w w1 w2 : World} (a : Keep g sv rv Z rv1 w w1) (b : Keep g sv rv1 Z1 rv2 w1 w2) (hz : ∀ z ∈ Z1, ∃ y ∈ Z, y.2 = z.2) : Keep g sv rv Z rv2 w w2 := by
  refine ⟨Nat.le_trans a.size b.size, fun i hi hn => (b.block i (Nat.lt_of_lt_of_le hi a.size) (fun h => ?_)).trans (a.block i hi hn), fun i hi => ?_⟩
  · rcases h with h | h | h | ⟨z, h, he⟩
    · exact hn (.inl h)
    · exact hn (.inr (.inl h))
    · rcases a.rv i h with h' | h'
      · exact hn (.inr (.inr (.inl h')))
      · omega
    · obtain ⟨y, h1, h2⟩ := hz z h
      exact hn (.inr (.inr (.inr ⟨y, h1, by rw [h2, he]⟩)))
  · rcases b.rv i hi with h | h
    · exact a.rv i h
    · exact .inr (Nat.le_trans a.size h)
theorem Keep.of_below {g : Nat} {sv rv : Value} {Z : List (Nat × Nat)} {w w' : World} (h : Below w.heap.size w w') : Keep g sv rv Z rv w w' := ⟨h.size, fun i hi _ => h.block i hi, fun _ hi => .inl hi⟩
theorem Keep.drew {g : Nat} {sv rv rv' : Value} {Z : List (Nat × Nat)} {w w' : World} (h : Keep g sv rv Z rv' w w') : Keep g sv rv Z rv' w w'.drew := ⟨h.size, h.block, h.rv⟩
theorem Keep.only {g m : Nat} {sv rv rv' : Value} {Z : List (Nat × Nat)} {w w1 w' : World} (h : Keep g sv rv Z rv' w w1) (hO : Only m w1 w') (hm : Foot g sv rv Z m) : Keep g sv rv Z rv' w w' :=
  ⟨Nat.le_trans h.size hO.size, fun i hi hn => (hO.block i (Nat.lt_of_lt_of_le hi h.size) (fun e => hn (by rw [e]; exact hm))).trans (h.block i hi hn), h.rv⟩
theorem Keep.setCell {g m : Nat} {sv rv rv' : Value} {Z : List (Nat × Nat)} {w w1 : World} (h : Keep g sv rv Z rv' w w1) (o : Nat) (v : Value) (hm : Foot g sv rv Z m) : Keep g sv rv Z rv' w (w1.setCell ⟨m, o, none⟩ v) :=
  h.only ((Only.refl m w1).setCell o v) hm
theorem Keep.rest {g : Nat} {sv rv rv' : Value} {Z : List (Nat × Nat)} {w w1 w' : World} (h : Keep g sv rv Z rv' w w1) (hb : Below w1.heap.size w1 w') : Keep g sv rv Z rv' w w' :=
  ⟨Nat.le_trans h.size hb.size, fun i hi hn => (hb.block i (Nat.lt_of_lt_of_le hi h.size)).trans (h.block i hi hn), h.rv⟩
theorem many_of (g : Nat) (s : Option Addr) (n cap : Nat) (w : World) (c0 : w.cell? ⟨g, 0, none⟩ = some (.slice s n cap)) : Calls Try.prog 57 #[.pointer (some ⟨g, 0, none⟩)] w fun e w' => e = .returned (.int .i64 n) ∧ w' = w := by
  go_enter Try.func57, Try.ntmps57
  go_wp2
  go_ret
  exact ⟨rfl, rfl⟩
set_option maxHeartbeats 2000000 in
theorem dw_out {b0 g b : Nat} {sv rv : Value} {Z : List (Nat × Nat)} {W0 O : List Mg} {w : World} (h : Dw b0 g sv rv b Z W0 O w) (K ss pr : Int) (lo : Bool) (d : ByteArray) (hk : K < 0 ∨ (Z.length : Int) ≤ K) :
    Calls Try.prog 54 #[.pointer (some ⟨g, 0, none⟩), .agg (mgc ⟨K, ss, lo, pr, d⟩)] w fun e w' => e = .returned (.bool false) ∧ Below w.heap.size w w' := by
  obtain ⟨oas, caps, hsv, _, _⟩ := h.s.shape
  have hmny : ∀ W : World, W.cell? ⟨g, 0, none⟩ = some (.slice oas Z.length caps) → _ := fun W c => many_of g oas Z.length caps W c
  have X1 := Blk.new w 30 (ms K ss lo pr d)
  have al1 := (Below.refl w.heap.size w).alloc (Nat.le_refl _) (.cells (ms K ss lo pr d) 30)
  have D1 := h.below al1 (Nat.le_refl _)
  have hgb := h.hg
  have hgl := h.B.lt
  have g00 : (w.alloc (.cells (ms K ss lo pr d) 30)).cell? ⟨g, 0, none⟩ = some (.slice oas Z.length caps) := (D1.B.cell 0).trans (congrArg some hsv)
  clear h hsv
  go_enter Try.func54, Try.ntmps54
  go_upto_region 1 with (fail)
  try rw [show w.alloc (.cells (mgc ⟨K, ss, lo, pr, d⟩) 30) = w.alloc (.cells (ms K ss lo pr d) 30) from rfl]
  generalize w.alloc (.cells (ms K ss lo pr d) 30) = w1 at *
  have x0 : w1.cell? ⟨w.heap.size, 0, none⟩ = some (.int .i64 K) := X1.cell 0
  rcases (by omega : K < 0 ∨ (¬ K < 0 ∧ (Z.length : Int) ≤ K)) with q | ⟨q, q2⟩
  · have hd : decide (K < 0) = true := decide_eq_true q
    go_quiet ((fail))
    go_wp2_with fail
    go_ret
    exact ⟨rfl, ⟨al1.os, al1.tape, al1.output, al1.size, al1.block⟩⟩
  · have hd : decide (K < 0) = false := decide_eq_false q
    have hd2 : decide ((Z.length : Int) ≤ K) = true := decide_eq_true q2
    go_quiet ((exact Calls.quiet_of_same (hmny _ g00)))
    go_wp2_with fail
    go_ret
    exact ⟨rfl, ⟨al1.os, al1.tape, al1.output, al1.size, al1.block⟩⟩
set_option maxHeartbeats 4000000 in
theorem dw_no {b0 g b k : Nat} {z : Nat × Nat} {sv rv : Value} {Z : List (Nat × Nat)} {W0 O : List Mg} {w : World} (h : Dw b0 g sv rv b Z W0 O w) (hz : Z[k]? = some z) (ss pr : Int) (d : ByteArray)
    (hno : 32768 < far16 (plc ⟨k, ss, false, pr, d⟩) z.1 ∨ ∃ y ∈ ofS k W0, plc y = plc ⟨k, ss, false, pr, d⟩) :
    Calls Try.prog 54 #[.pointer (some ⟨g, 0, none⟩), .agg (mgc ⟨k, ss, false, pr, d⟩)] w fun e w' => e = .returned (.bool false) ∧ Below w.heap.size w w' := by
  have hkl0 : k < Z.length := (List.getElem?_eq_some_iff.1 hz).1
  have hd : decide ((k : Int) < 0) = false := decide_eq_false (by omega)
  have hd2 : decide ((Z.length : Int) ≤ (k : Int)) = false := decide_eq_false (by omega)
  obtain ⟨oas, caps, hsv, _, _⟩ := h.s.shape
  have hmny : ∀ W : World, W.cell? ⟨g, 0, none⟩ = some (.slice oas Z.length caps) → _ := fun W c => many_of g oas Z.length caps W c
  have X1 := Blk.new w 30 (ms k ss false pr d)
  have al1 := (Below.refl w.heap.size w).alloc (Nat.le_refl _) (.cells (ms k ss false pr d) 30)
  have D1 := h.below al1 (Nat.le_refl _)
  have hgb := h.hg
  have hgl := h.B.lt
  have g00 : (w.alloc (.cells (ms k ss false pr d) 30)).cell? ⟨g, 0, none⟩ = some (.slice oas Z.length caps) := (D1.B.cell 0).trans (congrArg some hsv)
  clear h hsv
  go_enter Try.func54, Try.ntmps54
  go_upto_region 1 with (fail)
  try rw [show w.alloc (.cells (mgc ⟨k, ss, false, pr, d⟩) 30) = w.alloc (.cells (ms k ss false pr d) 30) from rfl]
  generalize w.alloc (.cells (ms k ss false pr d) 30) = w1 at *
  have x0 : w1.cell? ⟨w.heap.size, 0, none⟩ = some (.int .i64 (k : Int)) := X1.cell 0
  go_quiet ((exact Calls.quiet_of_same (hmny _ g00)))
  have X2 : Blk (w1.drewN nq) w.heap.size 30 (ms k ss false pr d) := X1
  have bel2 : Below w.heap.size w (w1.drewN nq) := ⟨al1.os, al1.tape, al1.output, al1.size, al1.block⟩
  have D2 : Dw b0 g sv rv b Z W0 O (w1.drewN nq) := D1.frame (Nat.le_refl _) fun _ _ => rfl
  clear X1 D1 al1 x0 hmny g00
  generalize w1.drewN nq = w2 at *
  have x0 : w2.cell? ⟨w.heap.size, 0, none⟩ = some (.int .i64 (k : Int)) := X2.cell 0
  have x1 : w2.cell? ⟨w.heap.size, 1, none⟩ = some (.int .i64 ss) := X2.cell 1
  have x2 : w2.cell? ⟨w.heap.size, 2, none⟩ = some (.bool false) := X2.cell 2
  have x3 : w2.cell? ⟨w.heap.size, 3, none⟩ = some (.int .u32 pr) := X2.cell 3
  have x4 : w2.cell? ⟨w.heap.size, 4, none⟩ = some (.string d) := X2.cell 4
  obtain ⟨hh, off, cap, hv, hc1, hc2, hhb, hhl, hbs, C⟩ := D2.at_ hz
  unfold maxLen at hc2
  have hkl : k < Z.length := (List.getElem?_eq_some_iff.1 hz).1
  have hki : (k : Int) < (Z.length : Int) := by omega
  have g0 : w2.cell? ⟨g, 0, none⟩ = some (.slice (some ⟨hh, off, none⟩) Z.length cap) := (D2.B.cell 0).trans (congrArg some hv)
  obtain ⟨o, ho⟩ : ∃ o, off + k * 2 = o := ⟨_, rfl⟩
  rw [ho] at C
  have HO := Lib.hid ho
  have HV := Lib.hid hv
  have HZ := Lib.hid hz
  clear hv hz
  obtain ⟨hm0, es, c, M, E⟩ := D2.m k z HZ.out
  have hn := D2.zl z (List.mem_of_getElem? HZ.out)
  have hS : ∀ w', Cel w' hh o (st (z.1 : Nat) z.2) → MapB w' z.2 es c → Calls Try.prog 103 #[.pointer (some ⟨hh, o, none⟩), .agg (mgc ⟨k, ss, false, pr, d⟩)] w' fun e w2 => e = .returned (.bool false) ∧ Below w'.heap.size w' w2 := fun w' C M => by
    by_cases q : ∃ y ∈ ofS k W0, plc y = plc ⟨k, ss, false, pr, d⟩
    · have hex : ∃ A y B, ofS k W0 = A ++ y :: B ∧ (∀ x ∈ A, plc x ≠ plc ⟨k, ss, false, pr, d⟩) ∧ plc y = plc ⟨k, ss, false, pr, d⟩ := by
        generalize ofS k W0 = L at q
        induction L with
        | nil => obtain ⟨y, hy, _⟩ := q; cases hy
        | cons a r ih =>
          by_cases ha : plc a = plc ⟨k, ss, false, pr, d⟩
          · exact ⟨[], a, r, rfl, by simp, ha⟩
          · obtain ⟨y, hy, he⟩ := q
            rcases List.mem_cons.1 hy with rfl | hy
            · exact absurd he ha
            · obtain ⟨A, y', B, h1, h2, h3⟩ := ih ⟨y, hy, he⟩
              exact ⟨a :: A, y', B, by rw [h1]; rfl, fun x hx => by
                rcases List.mem_cons.1 hx with rfl | hx
                · exact ha
                · exact h2 x hx, h3⟩
      obtain ⟨A, y, B, h1, h2, h3⟩ := hex
      rw [h1] at E
      exact dput_waits hh o z.2 c z.1 _ ⟨k, ss, false, pr, d⟩ y es (entM_some E h2 h3 0) w' C M
    · have hf := entM_none E (p := plc ⟨k, ss, false, pr, d⟩) (fun x hx e => q ⟨x, hx, e⟩) 0
      exact dput_behind hh o z.2 c z.1 ⟨k, ss, false, pr, d⟩ hn (hno.resolve_right q) es hf w' C M
  clear hno E
  have HO2 := HO.out
  go_upto_region 5 with (fail)
  go_cut [36] (fun s36 wx => s36 = .bool true ∧ Below w2.drew.heap.size w2.drew wx)
  case first =>
    go_region_law ((refine step_call2 (by rfl) 103 Try.f103 _ _ (by rfl) Try.func103 (by kernel_rfl) (by kernel_rfl) #[.pointer (some ⟨hh, o, none⟩), .agg (mgc ⟨k, ss, false, pr, d⟩)] (by simp [Act.eval, Act.put, mgc, HO.out]) (hS _ C.drew M.drew) ?_; rintro e w3 ⟨rfl, bl3⟩; refine ⟨_, rfl, ?_⟩))
    all_goals
      go_wp2_with fail
      go_meet
      exact ⟨rfl, bl3⟩
  case rest =>
  obtain ⟨rfl, bl3⟩ := hcut
  go_wp2_with fail
  go_ret
  exact ⟨rfl, bel2.drew.trans (bl3.mono bel2.size)⟩
set_option maxHeartbeats 4000000 in
theorem dw_new {b0 g b k : Nat} {z : Nat × Nat} {sv rv : Value} {Z : List (Nat × Nat)} {W0 O : List Mg} {w : World} (h : Dw b0 g sv rv b Z W0 O w) (hz : Z[k]? = some z) (ss pr : Int) (d : ByteArray) (hlen : W0.length + O.length ≤ 900) (hbb : b ≤ 100000) (hdd : d.size ≤ 100000)
    (hfar : far16 (plc ⟨k, ss, false, pr, d⟩) z.1 ≤ 32768) (hno : ∀ y ∈ ofS k W0, plc y ≠ plc ⟨k, ss, false, pr, d⟩) :
    Calls Try.prog 54 #[.pointer (some ⟨g, 0, none⟩), .agg (mgc ⟨k, ss, false, pr, d⟩)] w fun e w' => e = .returned (.bool true) ∧ (∃ rv', Dw b0 g sv rv' (b + d.size) (Z.set k ((passes k (W0.length + 2) (z.1, W0 ++ [⟨k, ss, false, pr, d⟩], O)).1, z.2)) (passes k (W0.length + 2) (z.1, W0 ++ [⟨k, ss, false, pr, d⟩], O)).2.1 (passes k (W0.length + 2) (z.1, W0 ++ [⟨k, ss, false, pr, d⟩], O)).2.2 w' ∧ Keep g sv rv Z rv' w w') ∧ Below b0 w w' := by
  have hkl0 : k < Z.length := (List.getElem?_eq_some_iff.1 hz).1
  have hd : decide ((k : Int) < 0) = false := decide_eq_false (by omega)
  have hd2 : decide ((Z.length : Int) ≤ (k : Int)) = false := decide_eq_false (by omega)
  obtain ⟨oas, caps, hsv, _, _⟩ := h.s.shape
  have hmny : ∀ W : World, W.cell? ⟨g, 0, none⟩ = some (.slice oas Z.length caps) → _ := fun W c => many_of g oas Z.length caps W c
  have X1 := Blk.new w 30 (ms k ss false pr d)
  have al1 := (Below.refl w.heap.size w).alloc (Nat.le_refl _) (.cells (ms k ss false pr d) 30)
  have D1 := h.below al1 (Nat.le_refl _)
  have hgb := h.hg
  have hgl := h.B.lt
  have g00 : (w.alloc (.cells (ms k ss false pr d) 30)).cell? ⟨g, 0, none⟩ = some (.slice oas Z.length caps) := (D1.B.cell 0).trans (congrArg some hsv)
  clear h hsv
  go_enter Try.func54, Try.ntmps54
  go_upto_region 1 with (fail)
  try rw [show w.alloc (.cells (mgc ⟨k, ss, false, pr, d⟩) 30) = w.alloc (.cells (ms k ss false pr d) 30) from rfl]
  generalize w.alloc (.cells (ms k ss false pr d) 30) = w1 at *
  have x0 : w1.cell? ⟨w.heap.size, 0, none⟩ = some (.int .i64 (k : Int)) := X1.cell 0
  go_quiet ((exact Calls.quiet_of_same (hmny _ g00)))
  have X2 : Blk (w1.drewN nq) w.heap.size 30 (ms k ss false pr d) := X1
  have bel2 : Below w.heap.size w (w1.drewN nq) := ⟨al1.os, al1.tape, al1.output, al1.size, al1.block⟩
  have D2 : Dw b0 g sv rv b Z W0 O (w1.drewN nq) := D1.frame (Nat.le_refl _) fun _ _ => rfl
  clear X1 D1 al1 x0 hmny g00
  generalize w1.drewN nq = w2 at *
  have x0 : w2.cell? ⟨w.heap.size, 0, none⟩ = some (.int .i64 (k : Int)) := X2.cell 0
  have x1 : w2.cell? ⟨w.heap.size, 1, none⟩ = some (.int .i64 ss) := X2.cell 1
  have x2 : w2.cell? ⟨w.heap.size, 2, none⟩ = some (.bool false) := X2.cell 2
  have x3 : w2.cell? ⟨w.heap.size, 3, none⟩ = some (.int .u32 pr) := X2.cell 3
  have x4 : w2.cell? ⟨w.heap.size, 4, none⟩ = some (.string d) := X2.cell 4
  obtain ⟨hh, off, cap, hv, hc1, hc2, hhb, hhl, hbs, C⟩ := D2.at_ hz
  unfold maxLen at hc2
  have hkl : k < Z.length := (List.getElem?_eq_some_iff.1 hz).1
  have hki : (k : Int) < (Z.length : Int) := by omega
  have g0 : w2.cell? ⟨g, 0, none⟩ = some (.slice (some ⟨hh, off, none⟩) Z.length cap) := (D2.B.cell 0).trans (congrArg some hv)
  obtain ⟨o, ho⟩ : ∃ o, off + k * 2 = o := ⟨_, rfl⟩
  rw [ho] at C
  have HO := Lib.hid ho
  have HV := Lib.hid hv
  have HZ := Lib.hid hz
  clear hv hz
  obtain ⟨hm0, es, c, M, E⟩ := D2.m k z HZ.out
  have hn := D2.zl z (List.mem_of_getElem? HZ.out)
  have hf := entM_none E (p := plc ⟨k, ss, false, pr, d⟩) hno 0
  have hS := fun w' (C : Cel w' hh o (st (z.1 : Nat) z.2)) (M : MapB w' z.2 es c) => dput_new hh o z.2 c z.1 ⟨k, ss, false, pr, d⟩ hn hfar es hf w' C M
  have HE := Lib.hid E
  clear hno E hfar hf
  have HO2 := HO.out
  go_upto_region 5 with (fail)
  go_cut [36] (fun s36 wx => s36 = .bool false ∧ MapB wx z.2 (es.push ⟨.int .u16 (plc ⟨k, ss, false, pr, d⟩ : Nat), .agg (mgc ⟨k, ss, false, pr, d⟩), c⟩) (c + 1) ∧ Only z.2 w2.drew wx ∧ Below b0 w2.drew wx)
  case first =>
    go_region_law ((refine step_call2 (by rfl) 103 Try.f103 _ _ (by rfl) Try.func103 (by kernel_rfl) (by kernel_rfl) #[.pointer (some ⟨hh, o, none⟩), .agg (mgc ⟨k, ss, false, pr, d⟩)] (by simp [Act.eval, Act.put, mgc, HO.out]) (hS _ C.drew M.drew) ?_; rintro e w3 ⟨rfl, hR⟩; refine ⟨_, rfl, ?_⟩))
    all_goals
      have HR := Lib.hid hR
      clear hR hS
      go_wp2_with fail
      go_meet
      exact ⟨rfl, HR.out.1, HR.out.2.1, HR.out.2.2 b0 hm0⟩
  case rest =>
  obtain ⟨rfl, M3, O3, bl3⟩ := hcut
  have hmF : Foot g sv rv Z z.2 := .inr (.inr (.inr ⟨z, List.mem_of_getElem? HZ.out, rfl⟩))
  have D4 : Dw b0 g sv rv b Z (W0 ++ [⟨k, ss, false, pr, d⟩]) O wc := D2.drew.setM HZ.out (by rw [ofS_append, ofS_cons_in rfl, show ofS k [] = [] from rfl, Array.toList_push]; exact entM_push HE.out) (fun t ht => by rw [ofS_append, ofS_cons_out (by show (k : Int) ≠ (t : Int); omega), show ofS t [] = [] from rfl, List.append_nil]) (fun y hy => by
    rcases List.mem_append.1 hy with h' | h'
    · exact D2.sw y h'
    · obtain rfl : y = ⟨k, ss, false, pr, d⟩ := by simpa using h'
      exact ⟨by show (0 : Int) ≤ (k : Int); omega, hki⟩) M3 O3
  have X4 : Blk wc w.heap.size 30 (ms k ss false pr d) := O3.blk X2.drew (fun e => by
    have h1 : w2.heap[w.heap.size]? = some (.map es c) := by rw [e]; exact M
    have h2 : w2.heap[w.heap.size]? = some (.cells (ms k ss false pr d) 30) := X2
    rw [h1] at h2
    cases h2)
  have bel4 : Below b0 w wc := (bel2.mono (by omega)).drew.trans bl3
  have K4 : Keep g sv rv Z rv w wc := (Keep.of_below (Z := Z) (g := g) (sv := sv) (rv := rv) bel2).drew.only O3 hmF
  clear X2 D2 bel2 x0 x1 x2 x3 x4 g0 M3 O3 bl3 M hS C HE
  have g2 : wc.cell? ⟨g, 2, none⟩ = some (.int .i64 (b : Nat)) := D4.B.cell 2
  have f2 : wc.frozen? ⟨g, 2, none⟩ = false := D4.B.frozen 2
  have x4 : wc.cell? ⟨w.heap.size, 4, none⟩ = some (.string d) := X4.cell 4
  have hgF : Foot g sv rv Z g := .inl rfl
  go_upto_region 7 with (fail)
  go_region
  try rw [show (b : Int) + (d.size : Int) = ((b + d.size : Nat) : Int) by omega]
  have D5 := (D4.setB (b + d.size)).drew
  have X5 := (X4.far (p := ⟨g, 2, none⟩) (show w.heap.size ≠ g by omega) (.int .i64 ((b + d.size : Nat) : Int))).drew
  have bel5 := (bel4.setCell (p := ⟨g, 2, none⟩) hgb (.int .i64 ((b + d.size : Nat) : Int))).drew
  have K5 := (K4.setCell 2 (.int .i64 ((b + d.size : Nat) : Int)) hgF).drew
  clear D4 X4 bel4 K4 g2 f2 x4
  generalize (wc.setCell ⟨g, 2, none⟩ (.int .i64 ((b + d.size : Nat) : Int))).drew = w5 at *
  have g0 : w5.cell? ⟨g, 0, none⟩ = some (.slice (some ⟨hh, off, none⟩) Z.length cap) := (D5.B.cell 0).trans (congrArg some HV.out)
  have x0 : w5.cell? ⟨w.heap.size, 0, none⟩ = some (.int .i64 (k : Int)) := X5.cell 0
  have hFol := dfollow D5.drew HZ.out (by rw [List.length_append]; simp; omega) hh off cap HV.out hbs
  rw [HO.out] at hFol
  have HK := Lib.hid (And.intro K5 bel5)
  have HW := Lib.hid (And.intro D5.zl hgF)
  clear D5 X5 K5 bel5
  go_upto_region 8 with (fail)
  go_cut [55] (fun _ wx => ∃ rv' j, j ≤ (W0 ++ [(⟨k, ss, false, pr, d⟩ : Mg)]).length ∧ pick k (passes k j (z.1, W0 ++ [(⟨k, ss, false, pr, d⟩ : Mg)], O)).1 (passes k j (z.1, W0 ++ [(⟨k, ss, false, pr, d⟩ : Mg)], O)).2.1 = none ∧ Dw b0 g sv rv' (b + d.size) (Z.set k ((passes k j (z.1, W0 ++ [(⟨k, ss, false, pr, d⟩ : Mg)], O)).1, z.2)) (passes k j (z.1, W0 ++ [(⟨k, ss, false, pr, d⟩ : Mg)], O)).2.1 (passes k j (z.1, W0 ++ [(⟨k, ss, false, pr, d⟩ : Mg)], O)).2.2 wx ∧ Keep g sv rv Z rv' w5.drew wx ∧ Below b0 w5.drew wx)
  case first =>
    go_region_law ((refine step_call2 (by rfl) 104 Try.f104 _ _ (by rfl) Try.func104 (by kernel_rfl) (by kernel_rfl) #[.pointer (some ⟨g, 0, none⟩), .pointer (some ⟨hh, o, none⟩)] (by simp [Act.eval, Act.put, HO.out]) hFol ?_; rintro e w3 ⟨rfl, hR⟩; refine ⟨_, rfl, ?_⟩))
    all_goals
      have HR := Lib.hid hR
      clear hR hFol
      go_wp2_with fail
      go_meet
      exact HR.out
  case rest =>
  obtain ⟨rv', j, hj, hp, D6, K6, bel6⟩ := hcut
  have HX := Lib.hid (And.intro hj (And.intro hp (And.intro D6 (And.intro K6 bel6))))
  clear hj hp D6 K6 bel6 hFol
  go_wp2_with fail
  go_ret
  refine ⟨rfl, ⟨rv', ?_, HK.out.1.drew.then HX.out.2.2.2.1 (fun y hy => ⟨y, hy, rfl⟩)⟩, HK.out.2.drew.trans HX.out.2.2.2.2⟩
  rw [passes_eq HX.out.2.1 (by have := HX.out.1; simp at this; omega)]
  exact HX.out.2.2.1
set_option maxHeartbeats 4000000 in
theorem dw_loose {b0 g b k : Nat} {z : Nat × Nat} {sv rv : Value} {Z : List (Nat × Nat)} {W0 O : List Mg} {w : World} (h : Dw b0 g sv rv b Z W0 O w) (hz : Z[k]? = some z) (ss pr : Int) (d : ByteArray) (hlen : W0.length + O.length ≤ 900) (hbb : b ≤ 100000) (hdd : d.size ≤ 100000)
    (hno : pick k z.1 W0 = none) :
    Calls Try.prog 54 #[.pointer (some ⟨g, 0, none⟩), .agg (mgc ⟨k, ss, true, pr, d⟩)] w fun e w' => e = .returned (.bool true) ∧ (∃ rv', Dw b0 g sv rv' (b + d.size) Z W0 (O ++ [⟨k, ss, true, pr, d⟩]) w' ∧ Keep g sv rv Z rv' w w') ∧ Below b0 w w' := by
  obtain ⟨i0, hi, hz0, hz1, hz2⟩ := info_parts infoM
  have hkl0 : k < Z.length := (List.getElem?_eq_some_iff.1 hz).1
  have hd : decide ((k : Int) < 0) = false := decide_eq_false (by omega)
  have hd2 : decide ((Z.length : Int) ≤ (k : Int)) = false := decide_eq_false (by omega)
  obtain ⟨oas, caps, hsv, _, _⟩ := h.s.shape
  have hmny : ∀ W : World, W.cell? ⟨g, 0, none⟩ = some (.slice oas Z.length caps) → _ := fun W c => many_of g oas Z.length caps W c
  have X1 := Blk.new w 30 (ms k ss true pr d)
  have al1 := (Below.refl w.heap.size w).alloc (Nat.le_refl _) (.cells (ms k ss true pr d) 30)
  have D1 := h.below al1 (Nat.le_refl _)
  have hgb := h.hg
  have hgl := h.B.lt
  have g00 : (w.alloc (.cells (ms k ss true pr d) 30)).cell? ⟨g, 0, none⟩ = some (.slice oas Z.length caps) := (D1.B.cell 0).trans (congrArg some hsv)
  have HRL := Lib.hid (show ∀ i, blkOf rv = some i → i < w.heap.size from fun i hi => (h.r.lt hi).2)
  clear h hsv
  go_enter Try.func54, Try.ntmps54
  go_upto_region 1 with (fail)
  try rw [show w.alloc (.cells (mgc ⟨k, ss, true, pr, d⟩) 30) = w.alloc (.cells (ms k ss true pr d) 30) from rfl]
  generalize w.alloc (.cells (ms k ss true pr d) 30) = w1 at *
  have x0 : w1.cell? ⟨w.heap.size, 0, none⟩ = some (.int .i64 (k : Int)) := X1.cell 0
  go_quiet ((exact Calls.quiet_of_same (hmny _ g00)))
  have X2 : Blk (w1.drewN nq) w.heap.size 30 (ms k ss true pr d) := X1
  have bel2 : Below w.heap.size w (w1.drewN nq) := ⟨al1.os, al1.tape, al1.output, al1.size, al1.block⟩
  have D2 : Dw b0 g sv rv b Z W0 O (w1.drewN nq) := D1.frame (Nat.le_refl _) fun _ _ => rfl
  clear X1 D1 al1 x0 hmny g00
  generalize w1.drewN nq = w2 at *
  have x0 : w2.cell? ⟨w.heap.size, 0, none⟩ = some (.int .i64 (k : Int)) := X2.cell 0
  have x1 : w2.cell? ⟨w.heap.size, 1, none⟩ = some (.int .i64 ss) := X2.cell 1
  have x2 : w2.cell? ⟨w.heap.size, 2, none⟩ = some (.bool true) := X2.cell 2
  have x3 : w2.cell? ⟨w.heap.size, 3, none⟩ = some (.int .u32 pr) := X2.cell 3
  have x4 : w2.cell? ⟨w.heap.size, 4, none⟩ = some (.string d) := X2.cell 4
  obtain ⟨hh, off, cap, hv, hc1, hc2, hhb, hhl, hbs, C⟩ := D2.at_ hz
  unfold maxLen at hc2
  have hkl : k < Z.length := (List.getElem?_eq_some_iff.1 hz).1
  have hki : (k : Int) < (Z.length : Int) := by omega
  have g0 : w2.cell? ⟨g, 0, none⟩ = some (.slice (some ⟨hh, off, none⟩) Z.length cap) := (D2.B.cell 0).trans (congrArg some hv)
  obtain ⟨o, ho⟩ : ∃ o, off + k * 2 = o := ⟨_, rfl⟩
  rw [ho] at C
  have HO := Lib.hid ho
  have HV := Lib.hid hv
  have HZ := Lib.hid hz
  clear hv hz
  have HN := Lib.hid hno
  clear hno C
  obtain ⟨oar, capr, hrv, _, _⟩ := D2.r.shape
  have g1 : w2.cell? ⟨g, 1, none⟩ = some rv := D2.B.cell 1
  have g1f : w2.frozen? ⟨g, 1, none⟩ = false := D2.B.frozen 1
  have al := ((Below.refl w2.heap.size w2).alloc (Nat.le_refl _) (.cells #[.int .i64 (k : Int), .int .i64 ss, .bool true, .int .u32 pr, .string d] 30)).drew
  have D4' := D2.below al (Nat.le_refl _)
  have hgl2 := D2.B.lt
  have hs4 : (w2.alloc (.cells #[.int .i64 (k : Int), .int .i64 ss, .bool true, .int .u32 pr, .string d] 30)).drew.heap.size = w2.heap.size + 1 := by show (w2.alloc _).heap.size = _; simp
  have hb3 : b0 ≤ (w2.alloc (.cells #[.int .i64 (k : Int), .int .i64 ss, .bool true, .int .u32 pr, .string d] 30)).drew.heap.size := by rw [hs4]; omega
  have qI : Src Try.prog 5 85 (.slice (some ⟨w2.heap.size, 0, none⟩) 1 1) 1 (mgc ⟨k, ss, true, pr, d⟩).toList (w2.alloc (.cells #[.int .i64 (k : Int), .int .i64 ss, .bool true, .int .u32 pr, .string d] 30)).drew := (qo_item w2 30 (mgc ⟨k, ss, true, pr, d⟩)).drew.src Try.underlying85 (mgc_one _)
  obtain ⟨rv', w8, hr8, q8, gr8, ha8⟩ := qo_append (P := Try.prog) (t := 85) (ty := 85) Try.underlying85 hi hz0 hz1 hz2 rfl D4'.r qI (by unfold maxLen; omega) (by omega) hb3
  have q8' : Qo w8 b0 5 rv' (O ++ [(⟨k, ss, true, pr, d⟩ : Mg)]).length (cellsM (O ++ [(⟨k, ss, true, pr, d⟩ : Mg)])) := by
    rw [cellsM_append, List.length_append]
    simpa [cellsM] using q8
  have hrn : ∀ i, blkOf rv' = some i → blkOf rv = some i ∨ w2.heap.size + 1 ≤ i := fun i hi => by
    rcases ha8 with e | e | e
    · exact .inl (e ▸ hi)
    · rw [hs4] at e; rw [e] at hi; cases hi; exact .inr (by omega)
    · rw [e] at hi; cases hi
  have D8 := D4'.app gr8 q8' (fun i hi => by rw [hs4]; exact hrn i hi)
  have B8 : Blk w8 g 199 #[sv, rv, .int .i64 (b : Nat)] := (gr8.block g (by rw [hs4]; omega) (fun e => D4'.nr e.symm)).trans D4'.B
  have c8 : w8.cell? ⟨g, 1, none⟩ = some rv := B8.cell 1
  have f8 : w8.frozen? ⟨g, 1, none⟩ = false := B8.frozen 1
  have hXr : blkOf rv ≠ some w.heap.size := fun e => by
    have h1 := HRL.out w.heap.size e
    omega
  have X9 : Blk (w8.setCell ⟨g, 1, none⟩ rv') w.heap.size 30 (ms k ss true pr d) := Blk.far (w := w8) ((gr8.block w.heap.size (by rw [hs4]; have := X2.lt; omega) (fun e => hXr e.symm)).trans (X2.below al X2.lt)) (p := ⟨g, 1, none⟩) (show w.heap.size ≠ g by omega) _
  have bel9 : Below b0 w (w8.setCell ⟨g, 1, none⟩ rv') := (((bel2.mono (by omega)).trans (al.mono (by omega))).grown gr8 hb3 (fun i hi => (D2.r.lt hi).1)).setCell (p := ⟨g, 1, none⟩) hgb _
  have hgF0 : Foot g sv rv Z g := .inl rfl
  have K9 : Keep g sv rv Z rv' w (w8.setCell ⟨g, 1, none⟩ rv') := ⟨by have h1 := gr8.size; have h2 := bel2.size; rw [hs4] at h1; simp [World.setCell]; omega, fun i hi hn => by
      have h2 := bel2.size
      refine (Below.heap_setCell w8 ⟨g, 1, none⟩ _ i (fun e => hn (by rw [e]; exact hgF0))).trans ((gr8.block i (by rw [hs4]; omega) (fun e => hn (.inr (.inr (.inl e.symm))))).trans ((al.block i (by omega)).trans (bel2.block i hi))), fun i hi => by
      rcases hrn i hi with h' | h'
      · exact .inl h'
      · have := bel2.size; exact .inr (by omega)⟩
  have HX9 := Lib.hid (And.intro D8 (And.intro X9 (And.intro bel9 K9)))
  obtain ⟨oa8, cap8, hrv8, _, _⟩ := q8.shape
  subst hrv8
  generalize O.length + 1 = N8 at *
  clear D8 X9 bel9 K9 B8 q8 q8' gr8 ha8 hrn qI D4' al D2 X2 bel2 hrv hs4 hi hz0 hz1 hz2 hb3
  go_upto_region 4 with (fail)
  go_cut [] (fun wx => wx = w8.setCell ⟨g, 1, none⟩ (.slice oa8 N8 cap8))
  case first =>
    go_region_law ((refine step_append_q (by rfl) _ _ _ (by rfl) (v := rv) (sv := .slice (some ⟨w2.heap.size, 0, none⟩) 1 1) (by rfl) (by rfl) hr8 ?_))
    all_goals
      go_wp2_with fail
      go_meet
      rfl
  case rest =>
  obtain ⟨D4, X4, bel4, K4⟩ := HX9.out
  rw [← hcut] at D4 X4 bel4 K4
  clear HX9 c8 f8 hr8 hcut g1 g1f x0 x1 x2 x3 x4 g0
  have g2 : wc.cell? ⟨g, 2, none⟩ = some (.int .i64 (b : Nat)) := D4.B.cell 2
  have f2 : wc.frozen? ⟨g, 2, none⟩ = false := D4.B.frozen 2
  have x4 : wc.cell? ⟨w.heap.size, 4, none⟩ = some (.string d) := X4.cell 4
  have hgF : Foot g sv rv Z g := .inl rfl
  go_upto_region 7 with (fail)
  go_region
  try rw [show (b : Int) + (d.size : Int) = ((b + d.size : Nat) : Int) by omega]
  have D5 := (D4.setB (b + d.size)).drew
  have X5 := (X4.far (p := ⟨g, 2, none⟩) (show w.heap.size ≠ g by omega) (.int .i64 ((b + d.size : Nat) : Int))).drew
  have bel5 := (bel4.setCell (p := ⟨g, 2, none⟩) hgb (.int .i64 ((b + d.size : Nat) : Int))).drew
  have K5 := (K4.setCell 2 (.int .i64 ((b + d.size : Nat) : Int)) hgF).drew
  clear D4 X4 bel4 K4 g2 f2 x4
  generalize (wc.setCell ⟨g, 2, none⟩ (.int .i64 ((b + d.size : Nat) : Int))).drew = w5 at *
  have g0 : w5.cell? ⟨g, 0, none⟩ = some (.slice (some ⟨hh, off, none⟩) Z.length cap) := (D5.B.cell 0).trans (congrArg some HV.out)
  have x0 : w5.cell? ⟨w.heap.size, 0, none⟩ = some (.int .i64 (k : Int)) := X5.cell 0
  have hFol := dfollow D5.drew HZ.out (by rw [List.length_append]; simp; omega) hh off cap HV.out hbs
  rw [HO.out] at hFol
  have HK := Lib.hid (And.intro K5 bel5)
  have HW := Lib.hid (And.intro D5.zl hgF)
  clear D5 X5 K5 bel5
  go_upto_region 8 with (fail)
  go_cut [55] (fun _ wx => ∃ rv' j, j ≤ (W0).length ∧ pick k (passes k j (z.1, W0, (O ++ [(⟨k, ss, true, pr, d⟩ : Mg)]))).1 (passes k j (z.1, W0, (O ++ [(⟨k, ss, true, pr, d⟩ : Mg)]))).2.1 = none ∧ Dw b0 g sv rv' (b + d.size) (Z.set k ((passes k j (z.1, W0, (O ++ [(⟨k, ss, true, pr, d⟩ : Mg)]))).1, z.2)) (passes k j (z.1, W0, (O ++ [(⟨k, ss, true, pr, d⟩ : Mg)]))).2.1 (passes k j (z.1, W0, (O ++ [(⟨k, ss, true, pr, d⟩ : Mg)]))).2.2 wx ∧ Keep g sv (.slice oa8 N8 cap8) Z rv' w5.drew wx ∧ Below b0 w5.drew wx)
  case first =>
    go_region_law ((refine step_call2 (by rfl) 104 Try.f104 _ _ (by rfl) Try.func104 (by kernel_rfl) (by kernel_rfl) #[.pointer (some ⟨g, 0, none⟩), .pointer (some ⟨hh, o, none⟩)] (by simp [Act.eval, Act.put, HO.out]) hFol ?_; rintro e w3 ⟨rfl, hR⟩; refine ⟨_, rfl, ?_⟩))
    all_goals
      have HR := Lib.hid hR
      clear hR hFol
      go_wp2_with fail
      go_meet
      exact HR.out
  case rest =>
  obtain ⟨rv', j, hj, hp, D6, K6, bel6⟩ := hcut
  have HX := Lib.hid (And.intro hj (And.intro hp (And.intro D6 (And.intro K6 bel6))))
  clear hj hp D6 K6 bel6 hFol
  go_wp2_with fail
  go_ret
  have hst : passes k j (z.1, W0, O ++ [⟨k, ss, true, pr, d⟩]) = (z.1, W0, O ++ [⟨k, ss, true, pr, d⟩]) := passes_eq (k := 0) HN.out (Nat.zero_le j)
  have D7 := HX.out.2.2.1
  rw [hst] at D7
  have hset : Z.set k (z.1, z.2) = Z := by
    apply List.ext_getElem?
    intro i
    by_cases e : k = i
    · subst e; rw [List.getElem?_set_self hkl, HZ.out]
    · rw [List.getElem?_set_ne e]
  have D7' : Dw b0 g sv rv' (b + d.size) (Z.set k (z.1, z.2)) W0 (O ++ [⟨k, ss, true, pr, d⟩]) _ := D7
  rw [hset] at D7'
  exact ⟨rfl, ⟨rv', D7', HK.out.1.drew.then HX.out.2.2.2.1 (fun y hy => ⟨y, hy, rfl⟩)⟩, HK.out.2.drew.trans HX.out.2.2.2.2⟩
end Go.Proofs.Ythddacgdmngfhaa.del
