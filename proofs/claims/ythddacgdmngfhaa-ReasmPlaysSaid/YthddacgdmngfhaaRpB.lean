/- Layer 17: how far a message reaches, over whatever parts (gen-rpb.py wrote this). -/
import Derived.Test.YthddacgdmngfhaaRpA
import Derived.Test.YthddacgdmngfhaaReaD
import Derived.LoopTactic
namespace Go.Proofs.Ythddacgdmngfhaa.rea
open Go.Sort (grow)
open Go.ChangeShapes Go.WideShapes Go.ChangeAt Go.RowKit kit
set_option maxRecDepth 100000

/-- What one comes to, as told. -/
def Rch (T : Nat) : Option Pk → Ending → Prop
  | none, e => e = .returned (.tuple #[.int .u32 0, .bool false])
  | some F, e => e = .returned (.tuple #[.int .u32 (ts T F.k : Nat), .bool true])
/-- How far behind the part in a box is. -/
def ptOf (h : Nat) (w : World) : Nat := match w.cell? ⟨h, 5, none⟩ with | some (.int _ n) => n.toNat | _ => 0
theorem prv_is {l : List Pk} {x : Pk} {kn : Nat} (hkn : (if x.k = 0 then 4294967295 else x.k - 1) = kn) (h64 : ∀ y ∈ l, y.k < 64) : prv l x = match pat l kn with | none => none | some y => if y.f % 2 = 1 || !alike y x then none else some y := by
  unfold prv
  rcases hk : x.k with _ | k
  · rw [hk] at hkn
    have : pat l kn = none := pat_none.2 fun y hy e => by have := h64 y hy; rw [← hkn] at e; simp at e; omega
    rw [this]
  · rw [hk] at hkn
    have : kn = k := by rw [← hkn]; simp
    rw [this]
    rfl
theorem nxt_is {l : List Pk} {x : Pk} {kn : Nat} (hkn : x.k + 1 = kn) : nxt l x = match pat l kn with | none => none | some y => if y.f / 2 % 2 = 1 || !alike y x then none else some y := by
  rw [← hkn]
  rfl
theorem alike_is {f st ss f2 st2 ss2 k k2 : Nat} {d d2 : ByteArray} : (decide (((st : Nat) : Int) = ((st2 : Nat) : Int)) && decide (((ss : Nat) : Int) = ((ss2 : Nat) : Int)) && decide (((f / 4 % 2 * 4 : Nat) : Int) = ((f2 / 4 % 2 * 4 : Nat) : Int))) = alike ⟨k2, f2, st2, ss2, d2⟩ ⟨k, f, st, ss, d⟩ := by
  unfold alike
  rw [decide_eq_decide.2 (show ((st : Nat) : Int) = ((st2 : Nat) : Int) ↔ st2 = st by omega), decide_eq_decide.2 (show ((ss : Nat) : Int) = ((ss2 : Nat) : Int) ↔ ss2 = ss by omega), decide_eq_decide.2 (show ((f / 4 % 2 * 4 : Nat) : Int) = ((f2 / 4 % 2 * 4 : Nat) : Int) ↔ f2 / 4 % 2 = f / 4 % 2 by omega)]
theorem ptOf_eq {h T : Nat} {w : World} {x : Pk} (C : Cel w h 0 (pkc T x)) : ptOf h w = x.k := by
  unfold ptOf
  rw [C.cell0 5 rfl]
  show ((x.k : Nat) : Int).toNat = x.k
  omega
set_option maxHeartbeats 4000000 in
theorem reach_down (b0 g m c T : Nat) (b : Int) (es : Array MapEntry) (L : List Pk) (E : EntK T es.toList L) (hU : Uq L) (h64 : ∀ x ∈ L, x.k < 64) (h8 : ∀ x ∈ L, x.f < 8) (x0 : Pk) (hx0 : x0 ∈ L) (w : World) (q : Pa b0 g m es c b w) : Calls Try.prog 106 #[.pointer (some ⟨g, 0, none⟩), .agg (pkc T x0), .int .i64 2, .int .i64 1, .int .i64 (-1)] w fun e w' => Rch T (down L x0.k x0) e ∧ Below w.heap.size w w' := by
  have X := Cel.of_blk (Blk.new w 40 (pkc T x0))
  have bel0 := (Below.refl w.heap.size w).alloc (Nat.le_refl _) (.cells (pkc T x0) 40)
  have q0 := q.alloc (.cells (pkc T x0) 40)
  obtain ⟨c1, hc1⟩ : ∃ c1, pkc T x0 = c1 := ⟨_, rfl⟩
  have HC := Lib.hid hc1
  rw [hc1] at X bel0 q0 ⊢
  clear hc1
  go_enter Try.func106, Try.ntmps106
  go_wp2_with fail
  obtain ⟨w1, hw1⟩ : ∃ w1, w.alloc (.cells c1 40) = w1 := ⟨_, rfl⟩
  rw [hw1] at X bel0 q0 ⊢
  clear hw1
  obtain ⟨v, hv⟩ : ∃ v, w.heap.size = v := ⟨_, rfl⟩
  have HV := Lib.hid hv
  rw [hv] at X bel0 ⊢
  have hgv : g ≠ v := by have := q.B.lt; omega
  have hmv : m ≠ v := by have := q.M.lt; omega
  clear hv q
  rw [← HC.out] at X
  go_loopw [14] (fun _ wr => ∃ x, x ∈ L ∧ down L x.k x = down L x0.k x0 ∧ Cel wr v 0 (pkc T x) ∧ Pa b0 g m es c b wr ∧ Below v w wr ∧ v < wr.heap.size) (fun _ wr => ptOf v wr)
  case atStart => exact ⟨x0, hx0, rfl, X, q0, bel0, X.lt⟩
  case round =>
    clear X q0 bel0
    obtain ⟨⟨k, f, st, ss, d⟩, hx, hd, X, Q, bel, hvl⟩ := hrel
    have hk64 : k < 64 := h64 _ hx
    have hf8 : f < 8 := h8 _ hx
    have HPT := Lib.hid (ptOf_eq X)
    have c1 : wr.cell? ⟨v, 1, none⟩ = some (.int .i64 (f : Nat)) := X.cell0 1 rfl
    have c2 : wr.cell? ⟨v, 2, none⟩ = some (.int .u32 (ts T k : Nat)) := X.cell0 2 rfl
    have g0 : wr.cell? ⟨g, 0, none⟩ = some (.map (some m)) := Q.B.cell 0
    by_cases hb : f / 2 % 2 = 1
    · have hbit : bits .and .i64 ((f : Nat) : Int) 2 = 2 := by rw [band2 f hf8, hb]; rfl
      have hres : down L x0.k x0 = some ⟨k, f, st, ss, d⟩ := hd.symm.trans (down_beg (by exact hb) _)
      have HX := Lib.hid (And.intro hres bel)
      clear bel hd hres X Q hx
      go_wp2_with fail
      refine bodyPost_ret (v := .tuple #[.int .u32 (ts T k : Nat), .bool true]) (by first | rfl | simp [results]) rfl ⟨by rw [HX.out.1]; rfl, ?_⟩
      rw [HV.out]; exact HX.out.2
    · have hbit : bits .and .i64 ((f : Nat) : Int) 2 = 0 := by rw [band2 f hf8, show f / 2 % 2 = 0 by omega]; rfl
      obtain ⟨kn, hkn⟩ : ∃ kn, (if k = 0 then 4294967295 else k - 1) = kn := ⟨_, rfl⟩
      obtain ⟨nt, hnt⟩ : ∃ nt, ts T kn = nt := ⟨_, rfl⟩
      have hkl : kn < 4294967296 := by rw [← hkn]; first | omega | (split <;> omega)
      have hwr : IntKind.u32.wrap ((ts T k : Nat) + 4294967295) = ((nt : Nat) : Int) := by
        show ((ts T k : Nat) + 4294967295 : Int) % 4294967296 = _
        rw [← hnt, ← hkn]
        unfold ts
        first | omega | (split <;> omega)
      have hw1 : IntKind.u32.wrap (-1) = 4294967295 := by decide
      rcases hp : pat L kn with _ | ⟨k2, f2, st2, ss2, d2⟩
      · have hf : Instr.findNow (.int .u32) (.int .u32 (nt : Nat)) es.toList 0 = some none := by rw [← hnt]; exact (entK_find hkl E h64 0).1 hp
        have hnone : down L x0.k x0 = none := by
          refine hd.symm.trans (down_none hb ?_)
          rw [prv_is hkn h64, hp]
        have lk1 : (Instr.lookup 205 (.map (some m)) (.int .u32 (nt : Nat)) true).run Try.prog wr = .ok (.tuple #[.agg #[.int .i64 0, .int .i64 0, .int .u32 0, .int .i64 0, .int .i64 0, .int .u32 0, .string ⟨#[]⟩, .int .u32 0, .int .u32 0, .int .i64 0, .int .i64 0, .slice none 0 0, .slice none 0 0, .slice none 0 0, .slice none 0 0], .bool false]) wr := lk_none uM uK Q.M (zeroC _) hf 
        have lk2 : ∀ o, (Instr.lookup 205 (.map (some m)) (.int .u32 (nt : Nat)) true).run Try.prog (wr.alloc o) = .ok (.tuple #[.agg #[.int .i64 0, .int .i64 0, .int .u32 0, .int .i64 0, .int .i64 0, .int .u32 0, .string ⟨#[]⟩, .int .u32 0, .int .u32 0, .int .i64 0, .int .i64 0, .slice none 0 0, .slice none 0 0, .slice none 0 0, .slice none 0 0], .bool false]) (wr.alloc o) := fun o => lk_none uM uK (Q.M.alloc o) (zeroC _) hf 
        have lk3 : ∀ o, (Instr.lookup 205 (.map (some m)) (.int .u32 (nt : Nat)) true).run Try.prog (wr.alloc o).drew = .ok (.tuple #[.agg #[.int .i64 0, .int .i64 0, .int .u32 0, .int .i64 0, .int .i64 0, .int .u32 0, .string ⟨#[]⟩, .int .u32 0, .int .u32 0, .int .i64 0, .int .i64 0, .slice none 0 0, .slice none 0 0, .slice none 0 0, .slice none 0 0], .bool false]) (wr.alloc o).drew := fun o => lk_none uM uK (Q.M.alloc o).drew (zeroC _) hf 
        have lk4 : (Instr.lookup 205 (.map (some m)) (.int .u32 (nt : Nat)) true).run Try.prog wr.drew = .ok (.tuple #[.agg #[.int .i64 0, .int .i64 0, .int .u32 0, .int .i64 0, .int .i64 0, .int .u32 0, .string ⟨#[]⟩, .int .u32 0, .int .u32 0, .int .i64 0, .int .i64 0, .slice none 0 0, .slice none 0 0, .slice none 0 0, .slice none 0 0], .bool false]) wr.drew := lk_none uM uK Q.M.drew (zeroC _) hf 

        have al := ((Below.refl wr.heap.size wr).alloc (Nat.le_refl _) (.cells #[.int .i64 0, .int .i64 0, .int .u32 0, .int .i64 0, .int .i64 0, .int .u32 0, .string ⟨#[]⟩, .int .u32 0, .int .u32 0, .int .i64 0, .int .i64 0, .slice none 0 0, .slice none 0 0, .slice none 0 0, .slice none 0 0] 40)).drew
        have HX := Lib.hid (And.intro hnone (bel.trans (al.mono (by omega))))
        have hgl := Q.B.lt
        clear bel al hd hnone X Q hx hp hf E
        go_upto_region 2 with (fail)
        go_region
        go_wp2_with fail
        refine bodyPost_ret (v := .tuple #[.int .u32 0, .bool false]) (by first | rfl | simp [results]) rfl ⟨by rw [HX.out.1]; rfl, ?_⟩
        rw [HV.out]; exact HX.out.2
      · obtain ⟨hy, hyk⟩ := pat_some hp
        have hk2 : k2 = kn := hyk
        have hy64 : k2 < 64 := h64 _ hy
        have hy8 : f2 < 8 := h8 _ hy
        obtain ⟨j, hf, _, _⟩ := (entK_find hkl E h64 0).2 _ hp
        rw [hnt] at hf
        have hf' : Instr.findNow (.int .u32) (.int .u32 (nt : Nat)) es.toList 0 = some (some (0 + j, .agg #[.int .i64 0, .int .i64 (f2 : Nat), .int .u32 ((ts T k2 : Nat) : Int), .int .i64 (st2 : Nat), .int .i64 (ss2 : Nat), .int .u32 (k2 : Nat), .string d2, .int .u32 0, .int .u32 0, .int .i64 0, .int .i64 0, .slice none 0 0, .slice none 0 0, .slice none 0 0, .slice none 0 0])) := hf
        have hgl := Q.B.lt
        have HN := Lib.hid (And.intro hk2 (And.intro hp (And.intro hy (And.intro hd (And.intro hkn hx)))))
        clear hnt hkn hyk hk2 hp hy hd hx hkl
        have lk1 : (Instr.lookup 205 (.map (some m)) (.int .u32 (nt : Nat)) true).run Try.prog wr = .ok (.tuple #[.agg #[.int .i64 0, .int .i64 (f2 : Nat), .int .u32 ((ts T k2 : Nat) : Int), .int .i64 (st2 : Nat), .int .i64 (ss2 : Nat), .int .u32 (k2 : Nat), .string d2, .int .u32 0, .int .u32 0, .int .i64 0, .int .i64 0, .slice none 0 0, .slice none 0 0, .slice none 0 0, .slice none 0 0], .bool true]) wr := lk_some uM uK Q.M hf' 
        have lk2 : ∀ o, (Instr.lookup 205 (.map (some m)) (.int .u32 (nt : Nat)) true).run Try.prog (wr.alloc o) = .ok (.tuple #[.agg #[.int .i64 0, .int .i64 (f2 : Nat), .int .u32 ((ts T k2 : Nat) : Int), .int .i64 (st2 : Nat), .int .i64 (ss2 : Nat), .int .u32 (k2 : Nat), .string d2, .int .u32 0, .int .u32 0, .int .i64 0, .int .i64 0, .slice none 0 0, .slice none 0 0, .slice none 0 0, .slice none 0 0], .bool true]) (wr.alloc o) := fun o => lk_some uM uK (Q.M.alloc o) hf' 
        have lk3 : ∀ o, (Instr.lookup 205 (.map (some m)) (.int .u32 (nt : Nat)) true).run Try.prog (wr.alloc o).drew = .ok (.tuple #[.agg #[.int .i64 0, .int .i64 (f2 : Nat), .int .u32 ((ts T k2 : Nat) : Int), .int .i64 (st2 : Nat), .int .i64 (ss2 : Nat), .int .u32 (k2 : Nat), .string d2, .int .u32 0, .int .u32 0, .int .i64 0, .int .i64 0, .slice none 0 0, .slice none 0 0, .slice none 0 0, .slice none 0 0], .bool true]) (wr.alloc o).drew := fun o => lk_some uM uK (Q.M.alloc o).drew hf' 
        have lk4 : (Instr.lookup 205 (.map (some m)) (.int .u32 (nt : Nat)) true).run Try.prog wr.drew = .ok (.tuple #[.agg #[.int .i64 0, .int .i64 (f2 : Nat), .int .u32 ((ts T k2 : Nat) : Int), .int .i64 (st2 : Nat), .int .i64 (ss2 : Nat), .int .u32 (k2 : Nat), .string d2, .int .u32 0, .int .u32 0, .int .i64 0, .int .i64 0, .slice none 0 0, .slice none 0 0, .slice none 0 0, .slice none 0 0], .bool true]) wr.drew := lk_some uM uK Q.M.drew hf' 

        go_upto_region 2 with (fail)
        go_region
        have Y2 : Cel (wr.alloc (.cells #[.int .i64 0, .int .i64 (f2 : Nat), .int .u32 ((ts T k2 : Nat) : Int), .int .i64 (st2 : Nat), .int .i64 (ss2 : Nat), .int .u32 (k2 : Nat), .string d2, .int .u32 0, .int .u32 0, .int .i64 0, .int .i64 0, .slice none 0 0, .slice none 0 0, .slice none 0 0, .slice none 0 0] 40)).drew wr.heap.size 0 (cki (f2 : Nat) (ts T k2 : Nat) (st2 : Nat) (ss2 : Nat) (k2 : Nat) d2) := (Cel.of_blk (Blk.new wr 40 (cki (f2 : Nat) (ts T k2 : Nat) (st2 : Nat) (ss2 : Nat) (k2 : Nat) d2))).drew
        have X2 : Cel (wr.alloc (.cells #[.int .i64 0, .int .i64 (f2 : Nat), .int .u32 ((ts T k2 : Nat) : Int), .int .i64 (st2 : Nat), .int .i64 (ss2 : Nat), .int .u32 (k2 : Nat), .string d2, .int .u32 0, .int .u32 0, .int .i64 0, .int .i64 0, .slice none 0 0, .slice none 0 0, .slice none 0 0, .slice none 0 0] 40)).drew v 0 (cki (f : Nat) (ts T k : Nat) (st : Nat) (ss : Nat) (k : Nat) d) := (X.alloc (.cells #[.int .i64 0, .int .i64 (f2 : Nat), .int .u32 ((ts T k2 : Nat) : Int), .int .i64 (st2 : Nat), .int .i64 (ss2 : Nat), .int .u32 (k2 : Nat), .string d2, .int .u32 0, .int .u32 0, .int .i64 0, .int .i64 0, .slice none 0 0, .slice none 0 0, .slice none 0 0, .slice none 0 0] 40)).drew
        have al := ((Below.refl wr.heap.size wr).alloc (Nat.le_refl _) (.cells #[.int .i64 0, .int .i64 (f2 : Nat), .int .u32 ((ts T k2 : Nat) : Int), .int .i64 (st2 : Nat), .int .i64 (ss2 : Nat), .int .u32 (k2 : Nat), .string d2, .int .u32 0, .int .u32 0, .int .i64 0, .int .i64 0, .slice none 0 0, .slice none 0 0, .slice none 0 0, .slice none 0 0] 40)).drew
        have bel2 := bel.trans (al.mono (by omega))
        have Q2 := Q.below al (Nat.le_refl _)
        have hvz : v < wr.heap.size := hvl
        clear hgl lk1 lk2 lk3 lk4 X bel c1 c2 g0 hf hf' al Q
        generalize (wr.alloc (.cells #[.int .i64 0, .int .i64 (f2 : Nat), .int .u32 ((ts T k2 : Nat) : Int), .int .i64 (st2 : Nat), .int .i64 (ss2 : Nat), .int .u32 (k2 : Nat), .string d2, .int .u32 0, .int .u32 0, .int .i64 0, .int .i64 0, .slice none 0 0, .slice none 0 0, .slice none 0 0, .slice none 0 0] 40)).drew = w2 at *
        obtain ⟨z, hz⟩ : ∃ z, wr.heap.size = z := ⟨_, rfl⟩
        rw [hz] at Y2 hvz ⊢
        clear hz
        have szA := szI (f : Nat) (ts T k : Nat) (st : Nat) (ss : Nat) (k : Nat) d
        have szB := szI (f2 : Nat) (ts T k2 : Nat) (st2 : Nat) (ss2 : Nat) (k2 : Nat) d2
        go_wp2_with (first | (refine wpList_load_at_g (by rfl) 40 _ rfl z 0 rfl (cki (f2 : Nat) (ts T k2 : Nat) (st2 : Nat) (ss2 : Nat) (k2 : Nat) d2) _ Y2 Try.underlying40 rfl szB ?_) | (refine wpList_load_at_g (by rfl) 40 _ rfl v 0 rfl (cki (f : Nat) (ts T k : Nat) (st : Nat) (ss : Nat) (k : Nat) d) _ X2 Try.underlying40 rfl szA ?_))
        refine (together_any _ _ _ _ _ _ _ _ _ _ _ _ (band4 f hf8) (band4 f2 hy8) _ _ _).mono ?_
        rintro e w3 ⟨he, hb3⟩
        rw [alike_is (k := k) (k2 := k2) (d := d) (d2 := d2)] at he
        have Y3 := Y2.below hb3 Y2.lt
        have X3 := X2.below hb3 X2.lt
        have bel3 := bel2.trans (hb3.mono (by have := bel2.size; have := HV.out; omega))
        have Q3 := Q2.below hb3 (Nat.le_refl _)
        have y1 : w3.cell? ⟨z, 1, none⟩ = some (.int .i64 (f2 : Nat)) := Y3.cell0 1 rfl
        clear Y2 X2 bel2 hb3 Q2
        rcases hA : alike ⟨k2, f2, st2, ss2, d2⟩ ⟨k, f, st, ss, d⟩ with _ | _
        · have hnone : down L x0.k x0 = none := by
            refine HN.out.2.2.2.1.symm.trans (down_none (c := ⟨k, f, st, ss, d⟩) hb ?_)
            rw [prv_is HN.out.2.2.2.2.1 h64, HN.out.2.1]
            simp [hA]
          have HX := Lib.hid (And.intro hnone bel3)
          rw [hA] at he
          subst he
          clear hnone bel3 X3 Q3 Y3 y1 hA
          go_wp2_with fail
          refine bodyPost_ret (v := .tuple #[.int .u32 0, .bool false]) (by first | rfl | simp [results]) rfl ⟨by rw [HX.out.1]; rfl, ?_⟩
          rw [HV.out]; exact HX.out.2
        · rw [hA] at he
          subst he
          by_cases hfl : f2 % 2 = 1
          · have hbit2 : bits .and .i64 ((f2 : Nat) : Int) 1 = 1 := by rw [band1 f2 hy8, hfl]; rfl
            have hnone : down L x0.k x0 = none := by
              refine HN.out.2.2.2.1.symm.trans (down_none (c := ⟨k, f, st, ss, d⟩) hb ?_)
              rw [prv_is HN.out.2.2.2.2.1 h64, HN.out.2.1]
              simp [hfl]
            have HX := Lib.hid (And.intro hnone bel3)
            clear hnone bel3 X3 Q3 Y3 hA
            go_wp2_with fail
            refine bodyPost_ret (v := .tuple #[.int .u32 0, .bool false]) (by first | rfl | simp [results]) rfl ⟨by rw [HX.out.1]; rfl, ?_⟩
            rw [HV.out]; exact HX.out.2
          · have hbit2 : bits .and .i64 ((f2 : Nat) : Int) 1 = 0 := by rw [band1 f2 hy8, show f2 % 2 = 0 by omega]; rfl
            have hnx : prv L ⟨k, f, st, ss, d⟩ = some ⟨k2, f2, st2, ss2, d2⟩ := by
              rw [prv_is HN.out.2.2.2.2.1 h64, HN.out.2.1]
              simp [hfl, hA]
            have hgl3 := Q3.B.lt
            go_upto_region 5 with (fail)
            go_wp2_with (first | (refine wpList_load_at rfl 40 _ rfl z 0 rfl (cki (f2 : Nat) (ts T k2 : Nat) (st2 : Nat) (ss2 : Nat) (k2 : Nat) d2) _ Y3 Try.underlying40 rfl szB ?_) | (refine wpList_store_at rfl 40 _ _ rfl v 0 (cki (f2 : Nat) (ts T k2 : Nat) (st2 : Nat) (ss2 : Nat) (k2 : Nat) d2) rfl rfl (cki (f : Nat) (ts T k : Nat) (st : Nat) (ss : Nat) (k : Nat) d) X3 szB rfl (oneI _ _ _ _ _ _) ?_))
            have K : Cel (w3.setCells v 0 (cki (f2 : Nat) (ts T k2 : Nat) (st2 : Nat) (ss2 : Nat) (k2 : Nat) d2).toList) v 0 (pkc T ⟨k2, f2, st2, ss2, d2⟩) := (X3.setCells_same (cki (f2 : Nat) (ts T k2 : Nat) (st2 : Nat) (ss2 : Nat) (k2 : Nat) d2).toList rfl).congr (by simp [pkc_eq])
            have Q4 : Pa b0 g m es c b (w3.setCells v 0 (cki (f2 : Nat) (ts T k2 : Nat) (st2 : Nat) (ss2 : Nat) (k2 : Nat) d2).toList) := ⟨blk_setCells Q3.B hgv 0 _, mapb_setCells Q3.M hmv 0 _, Q3.hg, Q3.hm, Q3.ne⟩
            have bel4 := below_setCells bel3 (Nat.le_refl _) 0 (cki (f2 : Nat) (ts T k2 : Nat) (st2 : Nat) (ss2 : Nat) (k2 : Nat) d2).toList
            have HX := Lib.hid (show down L (⟨k2, f2, st2, ss2, d2⟩ : Pk).k ⟨k2, f2, st2, ss2, d2⟩ = down L x0.k x0 from by
              rw [← HN.out.2.2.2.1]
              exact (down_step hb hnx).symm)
            have HR := Lib.hid (And.intro K (And.intro Q4 bel4))
            clear Y3 X3 y1 bel3 K Q4 bel4 szA szB Q3 hnx hA
            obtain ⟨w4, hw4⟩ : ∃ w4, w3.setCells v 0 (cki (f2 : Nat) (ts T k2 : Nat) (st2 : Nat) (ss2 : Nat) (k2 : Nat) d2).toList = w4 := ⟨_, rfl⟩
            rw [hw4] at HR ⊢
            clear hw4
            simp only [Act.put, List.setIfInBounds_toArray, List.set_cons_zero, List.set_cons_succ]
            go_roundw
            case rel =>
              exact ⟨_, HN.out.2.2.1, HX.out, HR.out.1, HR.out.2.1, HR.out.2.2, HR.out.1.lt⟩
            case measure =>
              have h1 := ptOf_eq HR.out.1
              have h2 := HPT.out
              have h3 := HN.out.1
              have h4 := HN.out.2.2.2.2.1
              simp only at h1 h2
              rw [h1, h2]
              (have h5 : ¬ k = 0 := fun e => by rw [if_pos e] at h4; omega); rw [if_neg h5] at h4; omega
set_option maxHeartbeats 4000000 in
theorem reach_up (b0 g m c T : Nat) (b : Int) (es : Array MapEntry) (L : List Pk) (E : EntK T es.toList L) (hU : Uq L) (h64 : ∀ x ∈ L, x.k < 64) (h8 : ∀ x ∈ L, x.f < 8) (x0 : Pk) (hx0 : x0 ∈ L) (w : World) (q : Pa b0 g m es c b w) : Calls Try.prog 106 #[.pointer (some ⟨g, 0, none⟩), .agg (pkc T x0), .int .i64 1, .int .i64 2, .int .i64 1] w fun e w' => Rch T (up L (64 - x0.k) x0) e ∧ Below w.heap.size w w' := by
  have X := Cel.of_blk (Blk.new w 40 (pkc T x0))
  have bel0 := (Below.refl w.heap.size w).alloc (Nat.le_refl _) (.cells (pkc T x0) 40)
  have q0 := q.alloc (.cells (pkc T x0) 40)
  obtain ⟨c1, hc1⟩ : ∃ c1, pkc T x0 = c1 := ⟨_, rfl⟩
  have HC := Lib.hid hc1
  rw [hc1] at X bel0 q0 ⊢
  clear hc1
  go_enter Try.func106, Try.ntmps106
  go_wp2_with fail
  obtain ⟨w1, hw1⟩ : ∃ w1, w.alloc (.cells c1 40) = w1 := ⟨_, rfl⟩
  rw [hw1] at X bel0 q0 ⊢
  clear hw1
  obtain ⟨v, hv⟩ : ∃ v, w.heap.size = v := ⟨_, rfl⟩
  have HV := Lib.hid hv
  rw [hv] at X bel0 ⊢
  have hgv : g ≠ v := by have := q.B.lt; omega
  have hmv : m ≠ v := by have := q.M.lt; omega
  clear hv q
  rw [← HC.out] at X
  go_loopw [14] (fun _ wr => ∃ x, x ∈ L ∧ up L (64 - x.k) x = up L (64 - x0.k) x0 ∧ Cel wr v 0 (pkc T x) ∧ Pa b0 g m es c b wr ∧ Below v w wr ∧ v < wr.heap.size) (fun _ wr => 64 - ptOf v wr)
  case atStart => exact ⟨x0, hx0, rfl, X, q0, bel0, X.lt⟩
  case round =>
    clear X q0 bel0
    obtain ⟨⟨k, f, st, ss, d⟩, hx, hd, X, Q, bel, hvl⟩ := hrel
    have hk64 : k < 64 := h64 _ hx
    have hf8 : f < 8 := h8 _ hx
    have HPT := Lib.hid (ptOf_eq X)
    have c1 : wr.cell? ⟨v, 1, none⟩ = some (.int .i64 (f : Nat)) := X.cell0 1 rfl
    have c2 : wr.cell? ⟨v, 2, none⟩ = some (.int .u32 (ts T k : Nat)) := X.cell0 2 rfl
    have g0 : wr.cell? ⟨g, 0, none⟩ = some (.map (some m)) := Q.B.cell 0
    by_cases hb : f % 2 = 1
    · have hbit : bits .and .i64 ((f : Nat) : Int) 1 = 1 := by rw [band1 f hf8, hb]; rfl
      have hres : up L (64 - x0.k) x0 = some ⟨k, f, st, ss, d⟩ := hd.symm.trans (up_end (by exact hb) _)
      have HX := Lib.hid (And.intro hres bel)
      clear bel hd hres X Q hx
      go_wp2_with fail
      refine bodyPost_ret (v := .tuple #[.int .u32 (ts T k : Nat), .bool true]) (by first | rfl | simp [results]) rfl ⟨by rw [HX.out.1]; rfl, ?_⟩
      rw [HV.out]; exact HX.out.2
    · have hbit : bits .and .i64 ((f : Nat) : Int) 1 = 0 := by rw [band1 f hf8, show f % 2 = 0 by omega]; rfl
      obtain ⟨kn, hkn⟩ : ∃ kn, k + 1 = kn := ⟨_, rfl⟩
      obtain ⟨nt, hnt⟩ : ∃ nt, ts T kn = nt := ⟨_, rfl⟩
      have hkl : kn < 4294967296 := by rw [← hkn]; first | omega | (split <;> omega)
      have hwr : IntKind.u32.wrap ((ts T k : Nat) + 1) = ((nt : Nat) : Int) := by
        show ((ts T k : Nat) + 1 : Int) % 4294967296 = _
        rw [← hnt, ← hkn]
        unfold ts
        first | omega | (split <;> omega)
      have hw1 : IntKind.u32.wrap 1 = 1 := by decide
      rcases hp : pat L kn with _ | ⟨k2, f2, st2, ss2, d2⟩
      · have hf : Instr.findNow (.int .u32) (.int .u32 (nt : Nat)) es.toList 0 = some none := by rw [← hnt]; exact (entK_find hkl E h64 0).1 hp
        have hnone : up L (64 - x0.k) x0 = none := by
          refine hd.symm.trans (up_none hb ?_)
          rw [nxt_is hkn, hp]
        have lk1 : (Instr.lookup 205 (.map (some m)) (.int .u32 (nt : Nat)) true).run Try.prog wr = .ok (.tuple #[.agg #[.int .i64 0, .int .i64 0, .int .u32 0, .int .i64 0, .int .i64 0, .int .u32 0, .string ⟨#[]⟩, .int .u32 0, .int .u32 0, .int .i64 0, .int .i64 0, .slice none 0 0, .slice none 0 0, .slice none 0 0, .slice none 0 0], .bool false]) wr := lk_none uM uK Q.M (zeroC _) hf 
        have lk2 : ∀ o, (Instr.lookup 205 (.map (some m)) (.int .u32 (nt : Nat)) true).run Try.prog (wr.alloc o) = .ok (.tuple #[.agg #[.int .i64 0, .int .i64 0, .int .u32 0, .int .i64 0, .int .i64 0, .int .u32 0, .string ⟨#[]⟩, .int .u32 0, .int .u32 0, .int .i64 0, .int .i64 0, .slice none 0 0, .slice none 0 0, .slice none 0 0, .slice none 0 0], .bool false]) (wr.alloc o) := fun o => lk_none uM uK (Q.M.alloc o) (zeroC _) hf 
        have lk3 : ∀ o, (Instr.lookup 205 (.map (some m)) (.int .u32 (nt : Nat)) true).run Try.prog (wr.alloc o).drew = .ok (.tuple #[.agg #[.int .i64 0, .int .i64 0, .int .u32 0, .int .i64 0, .int .i64 0, .int .u32 0, .string ⟨#[]⟩, .int .u32 0, .int .u32 0, .int .i64 0, .int .i64 0, .slice none 0 0, .slice none 0 0, .slice none 0 0, .slice none 0 0], .bool false]) (wr.alloc o).drew := fun o => lk_none uM uK (Q.M.alloc o).drew (zeroC _) hf 
        have lk4 : (Instr.lookup 205 (.map (some m)) (.int .u32 (nt : Nat)) true).run Try.prog wr.drew = .ok (.tuple #[.agg #[.int .i64 0, .int .i64 0, .int .u32 0, .int .i64 0, .int .i64 0, .int .u32 0, .string ⟨#[]⟩, .int .u32 0, .int .u32 0, .int .i64 0, .int .i64 0, .slice none 0 0, .slice none 0 0, .slice none 0 0, .slice none 0 0], .bool false]) wr.drew := lk_none uM uK Q.M.drew (zeroC _) hf 

        have al := ((Below.refl wr.heap.size wr).alloc (Nat.le_refl _) (.cells #[.int .i64 0, .int .i64 0, .int .u32 0, .int .i64 0, .int .i64 0, .int .u32 0, .string ⟨#[]⟩, .int .u32 0, .int .u32 0, .int .i64 0, .int .i64 0, .slice none 0 0, .slice none 0 0, .slice none 0 0, .slice none 0 0] 40)).drew
        have HX := Lib.hid (And.intro hnone (bel.trans (al.mono (by omega))))
        have hgl := Q.B.lt
        clear bel al hd hnone X Q hx hp hf E
        go_upto_region 2 with (fail)
        go_region
        go_wp2_with fail
        refine bodyPost_ret (v := .tuple #[.int .u32 0, .bool false]) (by first | rfl | simp [results]) rfl ⟨by rw [HX.out.1]; rfl, ?_⟩
        rw [HV.out]; exact HX.out.2
      · obtain ⟨hy, hyk⟩ := pat_some hp
        have hk2 : k2 = kn := hyk
        have hy64 : k2 < 64 := h64 _ hy
        have hy8 : f2 < 8 := h8 _ hy
        obtain ⟨j, hf, _, _⟩ := (entK_find hkl E h64 0).2 _ hp
        rw [hnt] at hf
        have hf' : Instr.findNow (.int .u32) (.int .u32 (nt : Nat)) es.toList 0 = some (some (0 + j, .agg #[.int .i64 0, .int .i64 (f2 : Nat), .int .u32 ((ts T k2 : Nat) : Int), .int .i64 (st2 : Nat), .int .i64 (ss2 : Nat), .int .u32 (k2 : Nat), .string d2, .int .u32 0, .int .u32 0, .int .i64 0, .int .i64 0, .slice none 0 0, .slice none 0 0, .slice none 0 0, .slice none 0 0])) := hf
        have hgl := Q.B.lt
        have HN := Lib.hid (And.intro hk2 (And.intro hp (And.intro hy (And.intro hd (And.intro hkn hx)))))
        clear hnt hkn hyk hk2 hp hy hd hx hkl
        have lk1 : (Instr.lookup 205 (.map (some m)) (.int .u32 (nt : Nat)) true).run Try.prog wr = .ok (.tuple #[.agg #[.int .i64 0, .int .i64 (f2 : Nat), .int .u32 ((ts T k2 : Nat) : Int), .int .i64 (st2 : Nat), .int .i64 (ss2 : Nat), .int .u32 (k2 : Nat), .string d2, .int .u32 0, .int .u32 0, .int .i64 0, .int .i64 0, .slice none 0 0, .slice none 0 0, .slice none 0 0, .slice none 0 0], .bool true]) wr := lk_some uM uK Q.M hf' 
        have lk2 : ∀ o, (Instr.lookup 205 (.map (some m)) (.int .u32 (nt : Nat)) true).run Try.prog (wr.alloc o) = .ok (.tuple #[.agg #[.int .i64 0, .int .i64 (f2 : Nat), .int .u32 ((ts T k2 : Nat) : Int), .int .i64 (st2 : Nat), .int .i64 (ss2 : Nat), .int .u32 (k2 : Nat), .string d2, .int .u32 0, .int .u32 0, .int .i64 0, .int .i64 0, .slice none 0 0, .slice none 0 0, .slice none 0 0, .slice none 0 0], .bool true]) (wr.alloc o) := fun o => lk_some uM uK (Q.M.alloc o) hf' 
        have lk3 : ∀ o, (Instr.lookup 205 (.map (some m)) (.int .u32 (nt : Nat)) true).run Try.prog (wr.alloc o).drew = .ok (.tuple #[.agg #[.int .i64 0, .int .i64 (f2 : Nat), .int .u32 ((ts T k2 : Nat) : Int), .int .i64 (st2 : Nat), .int .i64 (ss2 : Nat), .int .u32 (k2 : Nat), .string d2, .int .u32 0, .int .u32 0, .int .i64 0, .int .i64 0, .slice none 0 0, .slice none 0 0, .slice none 0 0, .slice none 0 0], .bool true]) (wr.alloc o).drew := fun o => lk_some uM uK (Q.M.alloc o).drew hf' 
        have lk4 : (Instr.lookup 205 (.map (some m)) (.int .u32 (nt : Nat)) true).run Try.prog wr.drew = .ok (.tuple #[.agg #[.int .i64 0, .int .i64 (f2 : Nat), .int .u32 ((ts T k2 : Nat) : Int), .int .i64 (st2 : Nat), .int .i64 (ss2 : Nat), .int .u32 (k2 : Nat), .string d2, .int .u32 0, .int .u32 0, .int .i64 0, .int .i64 0, .slice none 0 0, .slice none 0 0, .slice none 0 0, .slice none 0 0], .bool true]) wr.drew := lk_some uM uK Q.M.drew hf' 

        go_upto_region 2 with (fail)
        go_region
        have Y2 : Cel (wr.alloc (.cells #[.int .i64 0, .int .i64 (f2 : Nat), .int .u32 ((ts T k2 : Nat) : Int), .int .i64 (st2 : Nat), .int .i64 (ss2 : Nat), .int .u32 (k2 : Nat), .string d2, .int .u32 0, .int .u32 0, .int .i64 0, .int .i64 0, .slice none 0 0, .slice none 0 0, .slice none 0 0, .slice none 0 0] 40)).drew wr.heap.size 0 (cki (f2 : Nat) (ts T k2 : Nat) (st2 : Nat) (ss2 : Nat) (k2 : Nat) d2) := (Cel.of_blk (Blk.new wr 40 (cki (f2 : Nat) (ts T k2 : Nat) (st2 : Nat) (ss2 : Nat) (k2 : Nat) d2))).drew
        have X2 : Cel (wr.alloc (.cells #[.int .i64 0, .int .i64 (f2 : Nat), .int .u32 ((ts T k2 : Nat) : Int), .int .i64 (st2 : Nat), .int .i64 (ss2 : Nat), .int .u32 (k2 : Nat), .string d2, .int .u32 0, .int .u32 0, .int .i64 0, .int .i64 0, .slice none 0 0, .slice none 0 0, .slice none 0 0, .slice none 0 0] 40)).drew v 0 (cki (f : Nat) (ts T k : Nat) (st : Nat) (ss : Nat) (k : Nat) d) := (X.alloc (.cells #[.int .i64 0, .int .i64 (f2 : Nat), .int .u32 ((ts T k2 : Nat) : Int), .int .i64 (st2 : Nat), .int .i64 (ss2 : Nat), .int .u32 (k2 : Nat), .string d2, .int .u32 0, .int .u32 0, .int .i64 0, .int .i64 0, .slice none 0 0, .slice none 0 0, .slice none 0 0, .slice none 0 0] 40)).drew
        have al := ((Below.refl wr.heap.size wr).alloc (Nat.le_refl _) (.cells #[.int .i64 0, .int .i64 (f2 : Nat), .int .u32 ((ts T k2 : Nat) : Int), .int .i64 (st2 : Nat), .int .i64 (ss2 : Nat), .int .u32 (k2 : Nat), .string d2, .int .u32 0, .int .u32 0, .int .i64 0, .int .i64 0, .slice none 0 0, .slice none 0 0, .slice none 0 0, .slice none 0 0] 40)).drew
        have bel2 := bel.trans (al.mono (by omega))
        have Q2 := Q.below al (Nat.le_refl _)
        have hvz : v < wr.heap.size := hvl
        clear hgl lk1 lk2 lk3 lk4 X bel c1 c2 g0 hf hf' al Q
        generalize (wr.alloc (.cells #[.int .i64 0, .int .i64 (f2 : Nat), .int .u32 ((ts T k2 : Nat) : Int), .int .i64 (st2 : Nat), .int .i64 (ss2 : Nat), .int .u32 (k2 : Nat), .string d2, .int .u32 0, .int .u32 0, .int .i64 0, .int .i64 0, .slice none 0 0, .slice none 0 0, .slice none 0 0, .slice none 0 0] 40)).drew = w2 at *
        obtain ⟨z, hz⟩ : ∃ z, wr.heap.size = z := ⟨_, rfl⟩
        rw [hz] at Y2 hvz ⊢
        clear hz
        have szA := szI (f : Nat) (ts T k : Nat) (st : Nat) (ss : Nat) (k : Nat) d
        have szB := szI (f2 : Nat) (ts T k2 : Nat) (st2 : Nat) (ss2 : Nat) (k2 : Nat) d2
        go_wp2_with (first | (refine wpList_load_at_g (by rfl) 40 _ rfl z 0 rfl (cki (f2 : Nat) (ts T k2 : Nat) (st2 : Nat) (ss2 : Nat) (k2 : Nat) d2) _ Y2 Try.underlying40 rfl szB ?_) | (refine wpList_load_at_g (by rfl) 40 _ rfl v 0 rfl (cki (f : Nat) (ts T k : Nat) (st : Nat) (ss : Nat) (k : Nat) d) _ X2 Try.underlying40 rfl szA ?_))
        refine (together_any _ _ _ _ _ _ _ _ _ _ _ _ (band4 f hf8) (band4 f2 hy8) _ _ _).mono ?_
        rintro e w3 ⟨he, hb3⟩
        rw [alike_is (k := k) (k2 := k2) (d := d) (d2 := d2)] at he
        have Y3 := Y2.below hb3 Y2.lt
        have X3 := X2.below hb3 X2.lt
        have bel3 := bel2.trans (hb3.mono (by have := bel2.size; have := HV.out; omega))
        have Q3 := Q2.below hb3 (Nat.le_refl _)
        have y1 : w3.cell? ⟨z, 1, none⟩ = some (.int .i64 (f2 : Nat)) := Y3.cell0 1 rfl
        clear Y2 X2 bel2 hb3 Q2
        rcases hA : alike ⟨k2, f2, st2, ss2, d2⟩ ⟨k, f, st, ss, d⟩ with _ | _
        · have hnone : up L (64 - x0.k) x0 = none := by
            refine HN.out.2.2.2.1.symm.trans (up_none (c := ⟨k, f, st, ss, d⟩) hb ?_)
            rw [nxt_is HN.out.2.2.2.2.1, HN.out.2.1]
            simp [hA]
          have HX := Lib.hid (And.intro hnone bel3)
          rw [hA] at he
          subst he
          clear hnone bel3 X3 Q3 Y3 y1 hA
          go_wp2_with fail
          refine bodyPost_ret (v := .tuple #[.int .u32 0, .bool false]) (by first | rfl | simp [results]) rfl ⟨by rw [HX.out.1]; rfl, ?_⟩
          rw [HV.out]; exact HX.out.2
        · rw [hA] at he
          subst he
          by_cases hfl : f2 / 2 % 2 = 1
          · have hbit2 : bits .and .i64 ((f2 : Nat) : Int) 2 = 2 := by rw [band2 f2 hy8, hfl]; rfl
            have hnone : up L (64 - x0.k) x0 = none := by
              refine HN.out.2.2.2.1.symm.trans (up_none (c := ⟨k, f, st, ss, d⟩) hb ?_)
              rw [nxt_is HN.out.2.2.2.2.1, HN.out.2.1]
              simp [hfl]
            have HX := Lib.hid (And.intro hnone bel3)
            clear hnone bel3 X3 Q3 Y3 hA
            go_wp2_with fail
            refine bodyPost_ret (v := .tuple #[.int .u32 0, .bool false]) (by first | rfl | simp [results]) rfl ⟨by rw [HX.out.1]; rfl, ?_⟩
            rw [HV.out]; exact HX.out.2
          · have hbit2 : bits .and .i64 ((f2 : Nat) : Int) 2 = 0 := by rw [band2 f2 hy8, show f2 / 2 % 2 = 0 by omega]; rfl
            have hnx : nxt L ⟨k, f, st, ss, d⟩ = some ⟨k2, f2, st2, ss2, d2⟩ := by
              rw [nxt_is HN.out.2.2.2.2.1, HN.out.2.1]
              simp [hfl, hA]
            have hgl3 := Q3.B.lt
            go_upto_region 5 with (fail)
            go_wp2_with (first | (refine wpList_load_at rfl 40 _ rfl z 0 rfl (cki (f2 : Nat) (ts T k2 : Nat) (st2 : Nat) (ss2 : Nat) (k2 : Nat) d2) _ Y3 Try.underlying40 rfl szB ?_) | (refine wpList_store_at rfl 40 _ _ rfl v 0 (cki (f2 : Nat) (ts T k2 : Nat) (st2 : Nat) (ss2 : Nat) (k2 : Nat) d2) rfl rfl (cki (f : Nat) (ts T k : Nat) (st : Nat) (ss : Nat) (k : Nat) d) X3 szB rfl (oneI _ _ _ _ _ _) ?_))
            have K : Cel (w3.setCells v 0 (cki (f2 : Nat) (ts T k2 : Nat) (st2 : Nat) (ss2 : Nat) (k2 : Nat) d2).toList) v 0 (pkc T ⟨k2, f2, st2, ss2, d2⟩) := (X3.setCells_same (cki (f2 : Nat) (ts T k2 : Nat) (st2 : Nat) (ss2 : Nat) (k2 : Nat) d2).toList rfl).congr (by simp [pkc_eq])
            have Q4 : Pa b0 g m es c b (w3.setCells v 0 (cki (f2 : Nat) (ts T k2 : Nat) (st2 : Nat) (ss2 : Nat) (k2 : Nat) d2).toList) := ⟨blk_setCells Q3.B hgv 0 _, mapb_setCells Q3.M hmv 0 _, Q3.hg, Q3.hm, Q3.ne⟩
            have bel4 := below_setCells bel3 (Nat.le_refl _) 0 (cki (f2 : Nat) (ts T k2 : Nat) (st2 : Nat) (ss2 : Nat) (k2 : Nat) d2).toList
            have HX := Lib.hid (show up L (64 - (⟨k2, f2, st2, ss2, d2⟩ : Pk).k) ⟨k2, f2, st2, ss2, d2⟩ = up L (64 - x0.k) x0 from by
              rw [← HN.out.2.2.2.1]
              exact (up_step hb hnx hy64).symm)
            have HR := Lib.hid (And.intro K (And.intro Q4 bel4))
            clear Y3 X3 y1 bel3 K Q4 bel4 szA szB Q3 hnx hA
            obtain ⟨w4, hw4⟩ : ∃ w4, w3.setCells v 0 (cki (f2 : Nat) (ts T k2 : Nat) (st2 : Nat) (ss2 : Nat) (k2 : Nat) d2).toList = w4 := ⟨_, rfl⟩
            rw [hw4] at HR ⊢
            clear hw4
            simp only [Act.put, List.setIfInBounds_toArray, List.set_cons_zero, List.set_cons_succ]
            go_roundw
            case rel =>
              exact ⟨_, HN.out.2.2.1, HX.out, HR.out.1, HR.out.2.1, HR.out.2.2, HR.out.1.lt⟩
            case measure =>
              have h1 := ptOf_eq HR.out.1
              have h2 := HPT.out
              have h3 := HN.out.1
              have h4 := HN.out.2.2.2.2.1
              simp only at h1 h2
              rw [h1, h2]
              omega
end Go.Proofs.Ythddacgdmngfhaa.rea
