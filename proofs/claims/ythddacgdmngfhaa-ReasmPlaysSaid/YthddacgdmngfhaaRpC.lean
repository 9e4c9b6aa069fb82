/- Layer 17: whatever message taken (gen-rpc.py wrote this). -/
import Derived.Test.YthddacgdmngfhaaRpB
import Derived.Test.YthddacgdmngfhaaRpN
namespace Go.Proofs.Ythddacgdmngfhaa.rea
open Go.Sort (grow)
open Go.ChangeShapes Go.WideShapes Go.ChangeAt Go.RowKit kit
open del (ms szM)
set_option maxRecDepth 100000

/-- What of a world is left as it was, where parts turned. -/
structure Kp (g m : Nat) (w w' : World) : Prop where
  size : w.heap.size ≤ w'.heap.size
  block : ∀ i, i < w.heap.size → i ≠ g → i ≠ m → w'.heap[i]? = w.heap[i]?
section
variable {g m : Nat} {w w' w'' : World}
theorem Kp.refl (g m : Nat) (w : World) : Kp g m w w := ⟨Nat.le_refl _, fun _ _ _ _ => rfl⟩
theorem Kp.trans (h : Kp g m w w') (h' : Kp g m w' w'') : Kp g m w w'' := ⟨Nat.le_trans h.size h'.size, fun i hi h1 h2 => (h'.block i (Nat.lt_of_lt_of_le hi h.size) h1 h2).trans (h.block i hi h1 h2)⟩
theorem Kp.of_below {k : Nat} (h : Below k w w') (hk : w.heap.size ≤ k) : Kp g m w w' := ⟨h.size, fun i hi _ _ => h.block i (Nat.lt_of_lt_of_le hi hk)⟩
theorem Kp.below {k : Nat} (h : Kp g m w w') (hb : Below k w' w'') (hk : w.heap.size ≤ k) : Kp g m w w'' := ⟨Nat.le_trans h.size hb.size, fun i hi h1 h2 => (hb.block i (Nat.lt_of_lt_of_le hi hk)).trans (h.block i hi h1 h2)⟩
theorem Kp.map {es : Array MapEntry} {c : Nat} (h : Kp g m w w') (Mp : MapB w' m es c) (es' : Array MapEntry) (c' : Nat) : Kp g m w (Go.ChangeMaps.setBlock w' m (.map es' c')) := ⟨by rw [MapB.size]; exact h.size, fun i hi h1 h2 => (Mp.other es' c' h2).trans (h.block i hi h1 h2)⟩
theorem Kp.set (h : Kp g m w w') (p : Addr) (hp : p.block = g ∨ w.heap.size ≤ p.block) (v : Value) : Kp g m w (w'.setCell p v) := ⟨by simpa [World.setCell] using h.size, fun i hi h1 h2 => (Below.heap_setCell w' p v i (fun e => by rcases hp with hp | hp; exact h1 (e.trans hp); omega)).trans (h.block i hi h1 h2)⟩
end
theorem Kp.setCells {g m h : Nat} {w w' : World} (hk : Kp g m w w') (hh : w.heap.size ≤ h) : ∀ (o : Nat) (vs : List Value), Kp g m w (w'.setCells h o vs) := by
  intro o vs
  induction vs generalizing o w' with
  | nil => exact hk
  | cons v vs ih => exact ih (hk.set ⟨h, o, none⟩ (.inr hh) v) (o + 1)
theorem strCells_cat (a b : ByteArray) : Lib.strCells (a ++ b) = Lib.strCells a ++ Lib.strCells b := by simp [Lib.strCells]
theorem cells_back (s : ByteArray) : (⟨s.data.toList.toArray⟩ : ByteArray) = s := by simp
/-- The message of a first part. -/
def mkm (F : Pk) (d : ByteArray) : Array Value := #[.int .i64 (F.st : Nat), .int .i64 (if F.f / 4 % 2 = 1 then 0 else (F.ss : Nat)), .bool (decide (F.f / 4 % 2 = 1)), .int .u32 (F.k : Nat), .string d]
theorem szMm (s p : Int) (lo : Bool) (k : Int) (d : ByteArray) : (Try.prog.info? 30).map (·.size) = some (#[.int .i64 s, .int .i64 p, .bool lo, .int .u32 k, .string d] : Array Value).size := by show _ = some 5; kernel_rfl
set_option maxHeartbeats 8000000 in
theorem taken_any (b0 g m c T : Nat) (es : Array MapEntry) (L : List Pk) (E : EntK T es.toList L) (hN : Nd L) (h64 : ∀ x ∈ L, x.k < 64) (h8 : ∀ x ∈ L, x.f < 8) (h6 : ∀ x ∈ L, x.d.size ≤ 6) (hB : btk L ≤ 1000000) (F : Pk) (hF : F ∈ L) (lk : Nat) (hle : F.k ≤ lk) (hl64 : lk < 64) (hall : ∀ j, F.k ≤ j → j ≤ lk → ∃ x ∈ L, x.k = j) (w : World) (q : Pa b0 g m es c (btk L : Nat) w) (hb0 : b0 ≤ w.heap.size) : Calls Try.prog 107 #[.pointer (some ⟨g, 0, none⟩), .int .u32 (ts T F.k : Nat), .int .u32 (ts T lk : Nat)] w fun e w' => e = .returned (.agg (mkm F (cat L F.k (lk + 1 - F.k)))) ∧ (∃ es' c', Pa b0 g m es' c' (btk (rest L F.k lk) : Nat) w' ∧ EntK T es'.toList (rest L F.k lk)) ∧ Below b0 w w' ∧ Kp g m w w' := by
  have hN64 : F.k < 64 := h64 F hF
  have hf8 : F.f < 8 := h8 F hF
  have hfp := pat_mem (uq_of_nd hN) hF
  obtain ⟨j0, hf0, _, _⟩ := (entK_find (T := T) (show F.k < 4294967296 by omega) E h64 0).2 _ hfp
  obtain ⟨k, f, st, ss, d⟩ := F
  have hf0' : Instr.findNow (.int .u32) (.int .u32 (ts T k : Nat)) es.toList 0 = some (some (0 + j0, .agg #[.int .i64 0, .int .i64 (f : Nat), .int .u32 ((ts T k : Nat) : Int), .int .i64 (st : Nat), .int .i64 (ss : Nat), .int .u32 (k : Nat), .string d, .int .u32 0, .int .u32 0, .int .i64 0, .int .i64 0, .slice none 0 0, .slice none 0 0, .slice none 0 0, .slice none 0 0])) := hf0
  have HE := Lib.hid (And.intro E (And.intro hN (And.intro h64 (And.intro h6 hall))))
  clear hf0 hfp E hN hall hF
  simp only at hle hN64 hf8
  have hgl := q.B.lt
  have hml := q.M.lt
  have R1 := Blk.new w 30 #[.int .i64 0, .int .i64 0, .bool false, .int .u32 0, .string ⟨#[]⟩]
  have bel1 := (Below.refl b0 w).alloc hb0 (.cells #[.int .i64 0, .int .i64 0, .bool false, .int .u32 0, .string ⟨#[]⟩] 30)
  have K1 : Kp g m w (w.alloc (.cells #[.int .i64 0, .int .i64 0, .bool false, .int .u32 0, .string ⟨#[]⟩] 30)) := (Kp.refl g m w).below ((Below.refl w.heap.size w).alloc (Nat.le_refl _) _) (Nat.le_refl _)
  have q1 := q.alloc (.cells #[.int .i64 0, .int .i64 0, .bool false, .int .u32 0, .string ⟨#[]⟩] 30)
  go_enter Try.func107, Try.ntmps107
  go_upto_region 1 with (fail)
  clear q
  generalize w.alloc (.cells #[.int .i64 0, .int .i64 0, .bool false, .int .u32 0, .string ⟨#[]⟩] 30) = w1 at *
  have hrg : w.heap.size ≠ g := by omega
  have hrm : w.heap.size ≠ m := by omega
  obtain ⟨r, hr⟩ : ∃ r, w.heap.size = r := ⟨_, rfl⟩
  have HR0 := Lib.hid hr
  rw [hr] at R1 hrg hrm hb0 hgl hml ⊢
  clear hr
  have g0 : w1.cell? ⟨g, 0, none⟩ = some (.map (some m)) := q1.B.cell 0
  have lkA : (Instr.lookup 205 (.map (some m)) (.int .u32 (ts T k : Nat)) false).run Try.prog w1 = .ok (.agg #[.int .i64 0, .int .i64 (f : Nat), .int .u32 ((ts T k : Nat) : Int), .int .i64 (st : Nat), .int .i64 (ss : Nat), .int .u32 (k : Nat), .string d, .int .u32 0, .int .u32 0, .int .i64 0, .int .i64 0, .slice none 0 0, .slice none 0 0, .slice none 0 0, .slice none 0 0]) w1 := lk_val uM uK q1.M hf0'
  go_upto_region 2 with (fail)
  have q2 := q1.alloc (.cells #[.int .i64 0, .int .i64 (f : Nat), .int .u32 ((ts T k : Nat) : Int), .int .i64 (st : Nat), .int .i64 (ss : Nat), .int .u32 (k : Nat), .string d, .int .u32 0, .int .u32 0, .int .i64 0, .int .i64 0, .slice none 0 0, .slice none 0 0, .slice none 0 0, .slice none 0 0] 40)
  have X2 : Blk (w1.alloc (.cells #[.int .i64 0, .int .i64 (f : Nat), .int .u32 ((ts T k : Nat) : Int), .int .i64 (st : Nat), .int .i64 (ss : Nat), .int .u32 (k : Nat), .string d, .int .u32 0, .int .u32 0, .int .i64 0, .int .i64 0, .slice none 0 0, .slice none 0 0, .slice none 0 0, .slice none 0 0] 40)) w1.heap.size 40 (cki (f : Nat) (ts T k : Nat) (st : Nat) (ss : Nat) (k : Nat) d) := Blk.new w1 40 #[.int .i64 0, .int .i64 (f : Nat), .int .u32 ((ts T k : Nat) : Int), .int .i64 (st : Nat), .int .i64 (ss : Nat), .int .u32 (k : Nat), .string d, .int .u32 0, .int .u32 0, .int .i64 0, .int .i64 0, .slice none 0 0, .slice none 0 0, .slice none 0 0, .slice none 0 0]
  have R2 := R1.alloc (.cells #[.int .i64 0, .int .i64 (f : Nat), .int .u32 ((ts T k : Nat) : Int), .int .i64 (st : Nat), .int .i64 (ss : Nat), .int .u32 (k : Nat), .string d, .int .u32 0, .int .u32 0, .int .i64 0, .int .i64 0, .slice none 0 0, .slice none 0 0, .slice none 0 0, .slice none 0 0] 40)
  have bel2 := bel1.alloc (by have := q1.hg; have := q1.B.lt; omega) (.cells #[.int .i64 0, .int .i64 (f : Nat), .int .u32 ((ts T k : Nat) : Int), .int .i64 (st : Nat), .int .i64 (ss : Nat), .int .u32 (k : Nat), .string d, .int .u32 0, .int .u32 0, .int .i64 0, .int .i64 0, .slice none 0 0, .slice none 0 0, .slice none 0 0, .slice none 0 0] 40)
  have K2 := K1.below ((Below.refl w1.heap.size w1).alloc (Nat.le_refl _) (.cells #[.int .i64 0, .int .i64 (f : Nat), .int .u32 ((ts T k : Nat) : Int), .int .i64 (st : Nat), .int .i64 (ss : Nat), .int .u32 (k : Nat), .string d, .int .u32 0, .int .u32 0, .int .i64 0, .int .i64 0, .slice none 0 0, .slice none 0 0, .slice none 0 0, .slice none 0 0] 40)) K1.size
  clear q1 R1 bel1 K1 g0 lkA hf0'
  generalize w1.alloc (.cells #[.int .i64 0, .int .i64 (f : Nat), .int .u32 ((ts T k : Nat) : Int), .int .i64 (st : Nat), .int .i64 (ss : Nat), .int .u32 (k : Nat), .string d, .int .u32 0, .int .u32 0, .int .i64 0, .int .i64 0, .slice none 0 0, .slice none 0 0, .slice none 0 0, .slice none 0 0] 40) = w2 at *
  generalize w1.heap.size = xa at *
  have x1 : w2.cell? ⟨xa, 1, none⟩ = some (.int .i64 (f : Nat)) := X2.cell 1
  have x3 : w2.cell? ⟨xa, 3, none⟩ = some (.int .i64 (st : Nat)) := X2.cell 3
  have x4 : w2.cell? ⟨xa, 4, none⟩ = some (.int .i64 (ss : Nat)) := X2.cell 4
  have x5 : w2.cell? ⟨xa, 5, none⟩ = some (.int .u32 (k : Nat)) := X2.cell 5
  by_cases hlo : f / 4 % 2 = 1
  · have hb4 : bits .and .i64 ((f : Nat) : Int) 4 = 4 := by rw [band4 f hf8, hlo]; rfl
    go_upto_region 3 with (fail)
    have q3 := q2.alloc (.cells #[.int .i64 (st : Nat), .int .i64 (ss : Nat), .bool true, .int .u32 (k : Nat), .string ⟨#[]⟩] 30)
    have S3 := Blk.new w2 30 #[.int .i64 (st : Nat), .int .i64 (ss : Nat), .bool true, .int .u32 (k : Nat), .string ⟨#[]⟩]
    have R3 := R2.alloc (.cells #[.int .i64 (st : Nat), .int .i64 (ss : Nat), .bool true, .int .u32 (k : Nat), .string ⟨#[]⟩] 30)
    have bel3 := bel2.alloc (by have := q2.hg; have := q2.B.lt; omega) (.cells #[.int .i64 (st : Nat), .int .i64 (ss : Nat), .bool true, .int .u32 (k : Nat), .string ⟨#[]⟩] 30)
    have K3 := K2.below ((Below.refl w2.heap.size w2).alloc (Nat.le_refl _) (.cells #[.int .i64 (st : Nat), .int .i64 (ss : Nat), .bool true, .int .u32 (k : Nat), .string ⟨#[]⟩] 30)) K2.size
    have hrs : r < w2.heap.size := R2.lt
    have hgs : g < w2.heap.size := q2.B.lt
    have hms : m < w2.heap.size := q2.M.lt
    have hsw : w.heap.size ≤ w2.heap.size := K2.size
    clear q2 R2 X2 bel2 K2 x1 x3 x4 x5 hb4
    generalize w2.alloc (.cells #[.int .i64 (st : Nat), .int .i64 (ss : Nat), .bool true, .int .u32 (k : Nat), .string ⟨#[]⟩] 30) = w3 at *
    generalize w2.heap.size = sb at *
    have s2 : w3.cell? ⟨sb, 2, none⟩ = some (.bool true) := S3.cell 2
    have s1 : w3.cell? ⟨sb, 1, none⟩ = some (.int .i64 (ss : Nat)) := S3.cell 1
    have s1f : w3.frozen? ⟨sb, 1, none⟩ = false := S3.frozen 1
    go_upto_region 5 with (fail)
    have q3a := q3.far (p := ⟨sb, 1, none⟩) (by show g ≠ sb; omega) (by show m ≠ sb; omega) (.int .i64 0)
    have S3a : Blk (w3.setCell ⟨sb, 1, none⟩ (.int .i64 0)) sb 30 #[.int .i64 (st : Nat), .int .i64 0, .bool true, .int .u32 (k : Nat), .string ⟨#[]⟩] := S3.set_ 1 _
    have R3a := R3.far (p := ⟨sb, 1, none⟩) (by show r ≠ sb; omega) (.int .i64 0)
    have bel3a := bel3.setCell (p := ⟨sb, 1, none⟩) (by show b0 ≤ sb; omega) (.int .i64 0)
    have K3a := K3.set ⟨sb, 1, none⟩ (.inr hsw) (.int .i64 0)
    clear q3 S3 R3 bel3 K3 s1 s1f s2
    obtain ⟨wa, hwa⟩ : ∃ wa, w3.setCell ⟨sb, 1, none⟩ (.int .i64 0) = wa := ⟨_, rfl⟩
    rw [hwa] at q3a S3a R3a bel3a K3a ⊢
    clear hwa
    go_upto_region 6 with (fail)
    have H4 : bld.IsB wa.heap.size wa.heap.size [] (wa.alloc (.cells #[.pointer none, .slice none 0 0] 270)) := Lib.fresh_isBuilder 270 5 wa
    have q4 := q3a.alloc (.cells #[.pointer none, .slice none 0 0] 270)
    have S4 := S3a.alloc (.cells #[.pointer none, .slice none 0 0] 270)
    have R4 := R3a.alloc (.cells #[.pointer none, .slice none 0 0] 270)
    have bel4 := bel3a.alloc (by have := q3a.hg; have := q3a.B.lt; omega) (.cells #[.pointer none, .slice none 0 0] 270)
    have K4 := K3a.below ((Below.refl wa.heap.size wa).alloc (Nat.le_refl _) (.cells #[.pointer none, .slice none 0 0] 270)) K3a.size
    have hsb : sb < wa.heap.size := S3a.lt
    have hbw : w.heap.size ≤ wa.heap.size := K3a.size
    have hbb : wa.heap.size < (wa.alloc (.cells #[.pointer none, .slice none 0 0] 270)).heap.size := by simp
    have hbb0 : b0 ≤ wa.heap.size := by have := q3a.hg; omega
    clear q3a S3a R3a bel3a K3a
    
    generalize wa.alloc (.cells #[.pointer none, .slice none 0 0] 270) = w4 at *
    generalize wa.heap.size = bb at *
    obtain ⟨n, hn⟩ : ∃ n, lk + 1 - k = n := ⟨_, rfl⟩
    have hlk : lk = k + n - 1 := by omega
    have hn1 : 1 ≤ n := by omega
    have hkn : k + n ≤ 64 := by omega
    have w7 : IntKind.u32.wrap ((ts T lk : Nat) + 1) = ((ts T (k + n) : Nat) : Int) := by
      show (((ts T lk : Nat) : Int) + 1) % 4294967296 = _
      rw [hlk]
      unfold ts
      omega
    have HL := Lib.hid (And.intro hn (And.intro hlk hle))
    clear hn hlk hle
    go_wp2_with fail
    go_loopw [10] (fun s10 wr => ∃ (i : Nat) (es' : Array MapEntry), s10 = .int .u32 (ts T (k + i) : Nat) ∧ i ≤ n ∧ Pa b0 g m es' c (btk L : Nat) wr ∧ EntK T es'.toList (cut L k i) ∧ (cat L k i).size + btk (cut L k i) = btk L ∧ bld.IsB bb bb (Lib.strCells (cat L k i)) wr ∧ Blk wr sb 30 #[.int .i64 (st : Nat), .int .i64 0, .bool true, .int .u32 (k : Nat), .string ⟨#[]⟩] ∧ Blk wr r 30 #[.int .i64 0, .int .i64 0, .bool false, .int .u32 0, .string ⟨#[]⟩] ∧ Below b0 w wr ∧ Kp g m w wr ∧ bb < wr.heap.size) (fun s10 _ => (ts T (k + n) + 4294967296 - (intOf s10).toNat) % 4294967296)
    case atStart => exact ⟨0, es, rfl, Nat.zero_le _, q4, by rw [cut_zero]; exact HE.out.1, by rw [cut_zero]; show 0 + _ = _; omega, H4, S4, R4, bel4, K4, hbb⟩
    case round =>
      clear q4 H4 S4 R4 bel4 K4 hbb
      obtain ⟨i, es', rfl, hi, Q, EC, hsz, H, S, R, bel, KK, hbb⟩ := hrel
      have g0 : wr.cell? ⟨g, 0, none⟩ = some (.map (some m)) := Q.B.cell 0
      by_cases hin : i = n
      · have hdn : ((ts T (k + i) : Nat) : Int) = ((ts T (k + n) : Nat) : Int) := by rw [hin]
        have hEC : EntK T es'.toList (rest L k lk) ∧ (cat L k n).size + btk (rest L k lk) = btk L := by
          have h1 := cut_rest (l := L) (show k ≤ lk from HL.out.2.2)
          rw [HL.out.1] at h1
          rw [hin, h1] at EC hsz
          exact ⟨EC, hsz⟩
        rw [hin] at H
        have HY := Lib.hid hEC
        clear hEC EC hsz hin
        obtain ⟨dd, hdd⟩ : ∃ dd, cat L k n = dd := ⟨_, rfl⟩
        have HD := Lib.hid hdd
        rw [hdd] at H
        clear hdd g0
        go_wp2_with fail
        have hbS : bld.IsB bb bb (Lib.byteCells dd.data.toList) wr := H
        refine (Try.Builder_String_any bb bb dd.data.toList wr hbS (by omega)).mono ?_
        rintro e w8 ⟨rfl, hb8⟩
        rw [cells_back]
        have q8 := Q.below' hb8 (by omega) (by omega)
        have S8 := S.below hb8 (by omega)
        have R8 := R.below hb8 (by omega)
        have bel8 := bel.trans (hb8.mono hbb0)
        have K8 := KK.below hb8 hbw
        clear Q S R bel KK H hbS hb8 hbb
        have s4 : w8.cell? ⟨sb, 4, none⟩ = some (.string ⟨#[]⟩) := S8.cell 4
        have s4f : w8.frozen? ⟨sb, 4, none⟩ = false := S8.frozen 4
        go_upto_region 12 with (fail)
        have q9 := q8.far (p := ⟨sb, 4, none⟩) (by show g ≠ sb; omega) (by show m ≠ sb; omega) (.string dd)
        have S9 : Blk (w8.setCell ⟨sb, 4, none⟩ (.string dd)) sb 30 #[.int .i64 (st : Nat), .int .i64 0, .bool true, .int .u32 (k : Nat), .string dd] := S8.set_ 4 _
        have R9 := R8.far (p := ⟨sb, 4, none⟩) (by show r ≠ sb; omega) (.string dd)
        have bel9 := bel8.setCell (p := ⟨sb, 4, none⟩) (by show b0 ≤ sb; omega) (.string dd)
        have K9 := K8.set ⟨sb, 4, none⟩ (.inr hsw) (.string dd)
        clear q8 S8 R8 bel8 s4 s4f K8
        obtain ⟨w9, hw9⟩ : ∃ w9, w8.setCell ⟨sb, 4, none⟩ (.string dd) = w9 := ⟨_, rfl⟩
        rw [hw9] at q9 S9 R9 bel9 K9 ⊢
        clear hw9
        have hBs := HY.out.2
        rw [HD.out] at hBs
        obtain ⟨B2, hB2⟩ : ∃ B2, btk (rest L k lk) = B2 := ⟨_, rfl⟩
        rw [hB2] at hBs
        have HB2 := Lib.hid hB2
        clear hB2
        obtain ⟨B1, hB1⟩ : ∃ B1, btk L = B1 := ⟨_, rfl⟩
        rw [hB1] at hBs q9 hB
        clear hB1
        have g1 : w9.cell? ⟨g, 1, none⟩ = some (.int .i64 (B1 : Nat)) := q9.B.cell 1
        have g1f : w9.frozen? ⟨g, 1, none⟩ = false := q9.B.frozen 1
        have s4 : w9.cell? ⟨sb, 4, none⟩ = some (.string dd) := S9.cell 4
        have hB1' : (B1 : Int) ≤ 9223372036854775807 := by omega
        have hdz : ((dd.size : Nat) : Int) ≤ (B1 : Int) := by omega
        go_region
        rw [show ((B1 : Nat) : Int) - ((dd.size : Nat) : Int) = ((B2 : Nat) : Int) by omega]
        have q10 := (q9.byt (B2 : Nat)).drew
        have S10 := (S9.far (p := ⟨g, 1, none⟩) (by show sb ≠ g; omega) (.int .i64 (B2 : Nat))).drew
        have R10 := (R9.far (p := ⟨g, 1, none⟩) (by show r ≠ g; omega) (.int .i64 (B2 : Nat))).drew
        have bel10 := (bel9.setCell (p := ⟨g, 1, none⟩) q9.hg (.int .i64 (B2 : Nat))).drew
        have K10 := K9.set ⟨g, 1, none⟩ (.inl rfl) (.int .i64 (B2 : Nat))
        have K11 : Kp g m w (w9.setCell ⟨g, 1, none⟩ (.int .i64 (B2 : Nat))).drew := ⟨K10.size, K10.block⟩
        clear q9 S9 R9 bel9 g1 g1f s4 K9 K10
        obtain ⟨wb, hwb⟩ : ∃ wb, (w9.setCell ⟨g, 1, none⟩ (.int .i64 (B2 : Nat))).drew = wb := ⟨_, rfl⟩
        rw [hwb] at q10 S10 R10 bel10 K11 ⊢
        clear hwb
        have sz := szMm (st : Nat) (0) true (k : Nat) dd
        go_wp2_with (first | (refine wpList_load_at rfl 30 _ rfl sb 0 rfl #[.int .i64 (st : Nat), .int .i64 0, .bool true, .int .u32 (k : Nat), .string dd] _ (Cel.of_blk S10) Try.underlying30 rfl sz ?_) | (refine wpList_store_at rfl 30 _ _ rfl r 0 #[.int .i64 (st : Nat), .int .i64 0, .bool true, .int .u32 (k : Nat), .string dd] rfl rfl #[.int .i64 0, .int .i64 0, .bool false, .int .u32 0, .string ⟨#[]⟩] (Cel.of_blk R10) sz rfl (by kernel_rfl) ?_))
        have KC := (Cel.of_blk R10).setCells_same (#[.int .i64 (st : Nat), .int .i64 0, .bool true, .int .u32 (k : Nat), .string dd] : Array Value).toList rfl
        have bel11 := below_setCells bel10 hb0 0 (#[.int .i64 (st : Nat), .int .i64 0, .bool true, .int .u32 (k : Nat), .string dd] : Array Value).toList
        have q11 : Pa b0 g m es' c (B2 : Nat) (wb.setCells r 0 (#[.int .i64 (st : Nat), .int .i64 0, .bool true, .int .u32 (k : Nat), .string dd] : Array Value).toList) := ⟨blk_setCells q10.B (fun e => hrg e.symm) 0 _, mapb_setCells q10.M (fun e => hrm e.symm) 0 _, q10.hg, q10.hm, q10.ne⟩
        have K12 := K11.setCells (h := r) (by have := HR0.out; omega) 0 (#[.int .i64 (st : Nat), .int .i64 0, .bool true, .int .u32 (k : Nat), .string dd] : Array Value).toList
        refine bodyPost_ret (v := .agg #[.int .i64 (st : Nat), .int .i64 0, .bool true, .int .u32 (k : Nat), .string dd]) (results_cell_at rfl _ _ r 0 #[.int .i64 (st : Nat), .int .i64 0, .bool true, .int .u32 (k : Nat), .string dd] _ rfl (KC.congr (by simp)) Try.underlying30 rfl sz) rfl ⟨?_, ⟨es', c, by rw [HB2.out]; exact q11, HY.out.1⟩, bel11, K12⟩
        rw [HL.out.1, HD.out]
        simp only [mkm, if_pos hlo, decide_eq_true hlo]
      · have hdn : ¬ ((ts T (k + i) : Nat) : Int) = ((ts T (k + n) : Nat) : Int) := fun e => hin (by
          have := ts_inj (T := T) (a := k + i) (b := k + n) (by omega) (by omega) (by omega)
          omega)
        obtain ⟨x, hx, hxk⟩ := HE.out.2.2.2.2 (k + i) (by simp) (by have := HL.out; omega)
        have hpx : pat L (k + i) = some x := by rw [← hxk]; exact pat_mem (uq_of_nd HE.out.2.1) hx
        have hpc : pat (cut L k i) (k + i) = some x := by rw [cut_pat]; exact hpx
        obtain ⟨j, hf, hj, _⟩ := (entK_find (T := T) (show k + i < 4294967296 by omega) EC (fun y hy => HE.out.2.2.1 y (cut_mem hy)) 0).2 _ hpc
        have hx6 : x.d.size ≤ 6 := HE.out.2.2.2.1 x hx
        have hcs := cat_size (l := L) HE.out.2.2.2.1 k i
        have hcat : cat L k (i + 1) = cat L k i ++ x.d := by
          show cat L k i ++ _ = _
          rw [hpx]
        have hcut := cut_succ HE.out.2.1 hj hxk
        have hbe := btk_erase hj
        rw [hcut] at hbe
        have hEC' := entK_erase (j := j) EC
        rw [hcut, ← toList_eraseIn] at hEC'
        have hsz' : (cat L k (i + 1)).size + btk (cut L k (i + 1)) = btk L := by rw [hcat, ByteArray.size_append]; omega
        obtain ⟨k2, f2, st2, ss2, d2⟩ := x
        rw [Nat.zero_add] at hf
        simp only at hxk hx6 hcat
        have hf' : Instr.findNow (.int .u32) (.int .u32 (ts T (k + i) : Nat)) es'.toList 0 = some (some (j, .agg #[.int .i64 0, .int .i64 (f2 : Nat), .int .u32 ((ts T k2 : Nat) : Int), .int .i64 (st2 : Nat), .int .i64 (ss2 : Nat), .int .u32 (k2 : Nat), .string d2, .int .u32 0, .int .u32 0, .int .i64 0, .int .i64 0, .slice none 0 0, .slice none 0 0, .slice none 0 0, .slice none 0 0])) := hf
        have hw1 : IntKind.u32.wrap ((ts T (k + i) : Nat) + 1) = ((ts T (k + (i + 1)) : Nat) : Int) := by
          show (((ts T (k + i) : Nat) : Int) + 1) % 4294967296 = _
          unfold ts
          omega
        have HY := Lib.hid (And.intro hEC' (And.intro hsz' (And.intro hcat hi)))
        have hbs : (Lib.strCells (cat L k i)).length + d2.size ≤ 100000000 := by rw [Lib.strCells_length]; omega
        clear hx hxk hpx hpc hj hcs hcat hcut hbe hEC' hsz' EC hsz hf hi
        have lkA : (Instr.lookup 205 (.map (some m)) (.int .u32 (ts T (k + i) : Nat)) false).run Try.prog wr = .ok (.agg #[.int .i64 0, .int .i64 (f2 : Nat), .int .u32 ((ts T k2 : Nat) : Int), .int .i64 (st2 : Nat), .int .i64 (ss2 : Nat), .int .u32 (k2 : Nat), .string d2, .int .u32 0, .int .u32 0, .int .i64 0, .int .i64 0, .slice none 0 0, .slice none 0 0, .slice none 0 0, .slice none 0 0]) wr := lk_val uM uK Q.M hf'
        have hfd : ∀ w : World, (Instr.field 40 (.agg #[.int .i64 0, .int .i64 (f2 : Nat), .int .u32 ((ts T k2 : Nat) : Int), .int .i64 (st2 : Nat), .int .i64 (ss2 : Nat), .int .u32 (k2 : Nat), .string d2, .int .u32 0, .int .u32 0, .int .i64 0, .int .i64 0, .slice none 0 0, .slice none 0 0, .slice none 0 0, .slice none 0 0]) 6).run Try.prog w = .ok (.string d2) w := fun _ => by kernel_rfl
        go_wp2_with fail
        clear hfd lkA
        refine (bld.write_any bb bb _ d2 wr H hbs (by omega)).mono ?_
        rintro e w4a ⟨rfl, H5, hb5⟩
        have q5 := Q.below' hb5 (by omega) (by omega)
        have S5 := S.below hb5 (by omega)
        have R5 := R.below hb5 (by omega)
        have bel5 := bel.trans (hb5.mono hbb0)
        have K5 := KK.below hb5 hbw
        have hbb5 : bb < w4a.heap.size := Nat.lt_of_lt_of_le hbb hb5.size
        clear Q S R bel KK H g0 hb5 hbb hbs
        have g0 : w4a.cell? ⟨g, 0, none⟩ = some (.map (some m)) := q5.B.cell 0
        have dl : ∀ ty, (Builtin.delete_ #[205, 28] ty #[.map (some m), .int .u32 (ts T (k + i) : Nat)]).run Try.prog w4a = .ok (.tuple #[]) (Go.ChangeMaps.setBlock w4a m (.map (es'.eraseIdxIfInBounds j) c)) := fun ty => by rw [del_some uM uK q5.M #[205, 28] rfl ty hf']
        go_upto_region 8 with (fail)
        have q4 := q5.map (es'.eraseIdxIfInBounds j) c
        have S4 := blk_map q5.M S5 (es'.eraseIdxIfInBounds j) c
        have R4 := blk_map q5.M R5 (es'.eraseIdxIfInBounds j) c
        have bel4 := q5.M.bel bel5 q5.hm (es'.eraseIdxIfInBounds j) c
        have K4 := K5.map q5.M (es'.eraseIdxIfInBounds j) c
        have H4 : bld.IsB bb bb _ _ := .inr (used_map H5 q5.M (by omega) (es'.eraseIdxIfInBounds j) c)
        rw [← strCells_cat, ← HY.out.2.2.1] at H4
        have hbb : bb < (Go.ChangeMaps.setBlock w4a m (.map (es'.eraseIdxIfInBounds j) c)).heap.size := by rw [MapB.size]; exact hbb5
        have HW := Lib.hid (And.intro q4 (And.intro H4 (And.intro S4 (And.intro R4 (And.intro bel4 (And.intro K4 hbb))))))
        clear q5 S5 R5 bel5 H5 g0 dl hbb5 K5 q4 H4 S4 R4 bel4 K4 hbb
        obtain ⟨w5, hw5⟩ : ∃ w5, Go.ChangeMaps.setBlock w4a m (.map (es'.eraseIdxIfInBounds j) c) = w5 := ⟨_, rfl⟩
        rw [hw5] at HW ⊢
        clear hw5 hf'
        have HE2 := Lib.hid hin
        clear hin hdn
        go_wp2_with fail
        go_roundw
        case rel => exact ⟨i + 1, _, rfl, by have := HY.out.2.2.2; have := HE2.out; omega, HW.out.1, HY.out.1, HY.out.2.1, HW.out.2.1, HW.out.2.2.1, HW.out.2.2.2.1, HW.out.2.2.2.2.1, HW.out.2.2.2.2.2.1, HW.out.2.2.2.2.2.2⟩
        case measure =>
          have h1 := HY.out.2.2.2
          have h2 := HE2.out
          show (ts T (k + n) + 4294967296 - (((ts T (k + (i + 1)) : Nat) : Int)).toNat) % 4294967296 < (ts T (k + n) + 4294967296 - (((ts T (k + i) : Nat) : Int)).toNat) % 4294967296
          unfold ts
          omega
  · have hb4 : bits .and .i64 ((f : Nat) : Int) 4 = 0 := by rw [band4 f hf8, show f / 4 % 2 = 0 by omega]; rfl
    go_upto_region 3 with (fail)
    have q3 := q2.alloc (.cells #[.int .i64 (st : Nat), .int .i64 (ss : Nat), .bool false, .int .u32 (k : Nat), .string ⟨#[]⟩] 30)
    have S3 := Blk.new w2 30 #[.int .i64 (st : Nat), .int .i64 (ss : Nat), .bool false, .int .u32 (k : Nat), .string ⟨#[]⟩]
    have R3 := R2.alloc (.cells #[.int .i64 (st : Nat), .int .i64 (ss : Nat), .bool false, .int .u32 (k : Nat), .string ⟨#[]⟩] 30)
    have bel3 := bel2.alloc (by have := q2.hg; have := q2.B.lt; omega) (.cells #[.int .i64 (st : Nat), .int .i64 (ss : Nat), .bool false, .int .u32 (k : Nat), .string ⟨#[]⟩] 30)
    have K3 := K2.below ((Below.refl w2.heap.size w2).alloc (Nat.le_refl _) (.cells #[.int .i64 (st : Nat), .int .i64 (ss : Nat), .bool false, .int .u32 (k : Nat), .string ⟨#[]⟩] 30)) K2.size
    have hrs : r < w2.heap.size := R2.lt
    have hgs : g < w2.heap.size := q2.B.lt
    have hms : m < w2.heap.size := q2.M.lt
    have hsw : w.heap.size ≤ w2.heap.size := K2.size
    clear q2 R2 X2 bel2 K2 x1 x3 x4 x5 hb4
    generalize w2.alloc (.cells #[.int .i64 (st : Nat), .int .i64 (ss : Nat), .bool false, .int .u32 (k : Nat), .string ⟨#[]⟩] 30) = w3 at *
    generalize w2.heap.size = sb at *
    have s2 : w3.cell? ⟨sb, 2, none⟩ = some (.bool false) := S3.cell 2
    go_upto_region 6 with (fail)
    have H4 : bld.IsB w3.heap.size w3.heap.size [] (w3.alloc (.cells #[.pointer none, .slice none 0 0] 270)) := Lib.fresh_isBuilder 270 5 w3
    have q4 := q3.alloc (.cells #[.pointer none, .slice none 0 0] 270)
    have S4 := S3.alloc (.cells #[.pointer none, .slice none 0 0] 270)
    have R4 := R3.alloc (.cells #[.pointer none, .slice none 0 0] 270)
    have bel4 := bel3.alloc (by have := q3.hg; have := q3.B.lt; omega) (.cells #[.pointer none, .slice none 0 0] 270)
    have K4 := K3.below ((Below.refl w3.heap.size w3).alloc (Nat.le_refl _) (.cells #[.pointer none, .slice none 0 0] 270)) K3.size
    have hsb : sb < w3.heap.size := S3.lt
    have hbw : w.heap.size ≤ w3.heap.size := K3.size
    have hbb : w3.heap.size < (w3.alloc (.cells #[.pointer none, .slice none 0 0] 270)).heap.size := by simp
    have hbb0 : b0 ≤ w3.heap.size := by have := q3.hg; omega
    clear q3 S3 R3 bel3 K3
    clear s2
    generalize w3.alloc (.cells #[.pointer none, .slice none 0 0] 270) = w4 at *
    generalize w3.heap.size = bb at *
    obtain ⟨n, hn⟩ : ∃ n, lk + 1 - k = n := ⟨_, rfl⟩
    have hlk : lk = k + n - 1 := by omega
    have hn1 : 1 ≤ n := by omega
    have hkn : k + n ≤ 64 := by omega
    have w7 : IntKind.u32.wrap ((ts T lk : Nat) + 1) = ((ts T (k + n) : Nat) : Int) := by
      show (((ts T lk : Nat) : Int) + 1) % 4294967296 = _
      rw [hlk]
      unfold ts
      omega
    have HL := Lib.hid (And.intro hn (And.intro hlk hle))
    clear hn hlk hle
    go_wp2_with fail
    go_loopw [10] (fun s10 wr => ∃ (i : Nat) (es' : Array MapEntry), s10 = .int .u32 (ts T (k + i) : Nat) ∧ i ≤ n ∧ Pa b0 g m es' c (btk L : Nat) wr ∧ EntK T es'.toList (cut L k i) ∧ (cat L k i).size + btk (cut L k i) = btk L ∧ bld.IsB bb bb (Lib.strCells (cat L k i)) wr ∧ Blk wr sb 30 #[.int .i64 (st : Nat), .int .i64 (ss : Nat), .bool false, .int .u32 (k : Nat), .string ⟨#[]⟩] ∧ Blk wr r 30 #[.int .i64 0, .int .i64 0, .bool false, .int .u32 0, .string ⟨#[]⟩] ∧ Below b0 w wr ∧ Kp g m w wr ∧ bb < wr.heap.size) (fun s10 _ => (ts T (k + n) + 4294967296 - (intOf s10).toNat) % 4294967296)
    case atStart => exact ⟨0, es, rfl, Nat.zero_le _, q4, by rw [cut_zero]; exact HE.out.1, by rw [cut_zero]; show 0 + _ = _; omega, H4, S4, R4, bel4, K4, hbb⟩
    case round =>
      clear q4 H4 S4 R4 bel4 K4 hbb
      obtain ⟨i, es', rfl, hi, Q, EC, hsz, H, S, R, bel, KK, hbb⟩ := hrel
      have g0 : wr.cell? ⟨g, 0, none⟩ = some (.map (some m)) := Q.B.cell 0
      by_cases hin : i = n
      · have hdn : ((ts T (k + i) : Nat) : Int) = ((ts T (k + n) : Nat) : Int) := by rw [hin]
        have hEC : EntK T es'.toList (rest L k lk) ∧ (cat L k n).size + btk (rest L k lk) = btk L := by
          have h1 := cut_rest (l := L) (show k ≤ lk from HL.out.2.2)
          rw [HL.out.1] at h1
          rw [hin, h1] at EC hsz
          exact ⟨EC, hsz⟩
        rw [hin] at H
        have HY := Lib.hid hEC
        clear hEC EC hsz hin
        obtain ⟨dd, hdd⟩ : ∃ dd, cat L k n = dd := ⟨_, rfl⟩
        have HD := Lib.hid hdd
        rw [hdd] at H
        clear hdd g0
        go_wp2_with fail
        have hbS : bld.IsB bb bb (Lib.byteCells dd.data.toList) wr := H
        refine (Try.Builder_String_any bb bb dd.data.toList wr hbS (by omega)).mono ?_
        rintro e w8 ⟨rfl, hb8⟩
        rw [cells_back]
        have q8 := Q.below' hb8 (by omega) (by omega)
        have S8 := S.below hb8 (by omega)
        have R8 := R.below hb8 (by omega)
        have bel8 := bel.trans (hb8.mono hbb0)
        have K8 := KK.below hb8 hbw
        clear Q S R bel KK H hbS hb8 hbb
        have s4 : w8.cell? ⟨sb, 4, none⟩ = some (.string ⟨#[]⟩) := S8.cell 4
        have s4f : w8.frozen? ⟨sb, 4, none⟩ = false := S8.frozen 4
        go_upto_region 12 with (fail)
        have q9 := q8.far (p := ⟨sb, 4, none⟩) (by show g ≠ sb; omega) (by show m ≠ sb; omega) (.string dd)
        have S9 : Blk (w8.setCell ⟨sb, 4, none⟩ (.string dd)) sb 30 #[.int .i64 (st : Nat), .int .i64 (ss : Nat), .bool false, .int .u32 (k : Nat), .string dd] := S8.set_ 4 _
        have R9 := R8.far (p := ⟨sb, 4, none⟩) (by show r ≠ sb; omega) (.string dd)
        have bel9 := bel8.setCell (p := ⟨sb, 4, none⟩) (by show b0 ≤ sb; omega) (.string dd)
        have K9 := K8.set ⟨sb, 4, none⟩ (.inr hsw) (.string dd)
        clear q8 S8 R8 bel8 s4 s4f K8
        obtain ⟨w9, hw9⟩ : ∃ w9, w8.setCell ⟨sb, 4, none⟩ (.string dd) = w9 := ⟨_, rfl⟩
        rw [hw9] at q9 S9 R9 bel9 K9 ⊢
        clear hw9
        have hBs := HY.out.2
        rw [HD.out] at hBs
        obtain ⟨B2, hB2⟩ : ∃ B2, btk (rest L k lk) = B2 := ⟨_, rfl⟩
        rw [hB2] at hBs
        have HB2 := Lib.hid hB2
        clear hB2
        obtain ⟨B1, hB1⟩ : ∃ B1, btk L = B1 := ⟨_, rfl⟩
        rw [hB1] at hBs q9 hB
        clear hB1
        have g1 : w9.cell? ⟨g, 1, none⟩ = some (.int .i64 (B1 : Nat)) := q9.B.cell 1
        have g1f : w9.frozen? ⟨g, 1, none⟩ = false := q9.B.frozen 1
        have s4 : w9.cell? ⟨sb, 4, none⟩ = some (.string dd) := S9.cell 4
        have hB1' : (B1 : Int) ≤ 9223372036854775807 := by omega
        have hdz : ((dd.size : Nat) : Int) ≤ (B1 : Int) := by omega
        go_region
        rw [show ((B1 : Nat) : Int) - ((dd.size : Nat) : Int) = ((B2 : Nat) : Int) by omega]
        have q10 := (q9.byt (B2 : Nat)).drew
        have S10 := (S9.far (p := ⟨g, 1, none⟩) (by show sb ≠ g; omega) (.int .i64 (B2 : Nat))).drew
        have R10 := (R9.far (p := ⟨g, 1, none⟩) (by show r ≠ g; omega) (.int .i64 (B2 : Nat))).drew
        have bel10 := (bel9.setCell (p := ⟨g, 1, none⟩) q9.hg (.int .i64 (B2 : Nat))).drew
        have K10 := K9.set ⟨g, 1, none⟩ (.inl rfl) (.int .i64 (B2 : Nat))
        have K11 : Kp g m w (w9.setCell ⟨g, 1, none⟩ (.int .i64 (B2 : Nat))).drew := ⟨K10.size, K10.block⟩
        clear q9 S9 R9 bel9 g1 g1f s4 K9 K10
        obtain ⟨wb, hwb⟩ : ∃ wb, (w9.setCell ⟨g, 1, none⟩ (.int .i64 (B2 : Nat))).drew = wb := ⟨_, rfl⟩
        rw [hwb] at q10 S10 R10 bel10 K11 ⊢
        clear hwb
        have sz := szMm (st : Nat) ((ss : Nat)) false (k : Nat) dd
        go_wp2_with (first | (refine wpList_load_at rfl 30 _ rfl sb 0 rfl #[.int .i64 (st : Nat), .int .i64 (ss : Nat), .bool false, .int .u32 (k : Nat), .string dd] _ (Cel.of_blk S10) Try.underlying30 rfl sz ?_) | (refine wpList_store_at rfl 30 _ _ rfl r 0 #[.int .i64 (st : Nat), .int .i64 (ss : Nat), .bool false, .int .u32 (k : Nat), .string dd] rfl rfl #[.int .i64 0, .int .i64 0, .bool false, .int .u32 0, .string ⟨#[]⟩] (Cel.of_blk R10) sz rfl (by kernel_rfl) ?_))
        have KC := (Cel.of_blk R10).setCells_same (#[.int .i64 (st : Nat), .int .i64 (ss : Nat), .bool false, .int .u32 (k : Nat), .string dd] : Array Value).toList rfl
        have bel11 := below_setCells bel10 hb0 0 (#[.int .i64 (st : Nat), .int .i64 (ss : Nat), .bool false, .int .u32 (k : Nat), .string dd] : Array Value).toList
        have q11 : Pa b0 g m es' c (B2 : Nat) (wb.setCells r 0 (#[.int .i64 (st : Nat), .int .i64 (ss : Nat), .bool false, .int .u32 (k : Nat), .string dd] : Array Value).toList) := ⟨blk_setCells q10.B (fun e => hrg e.symm) 0 _, mapb_setCells q10.M (fun e => hrm e.symm) 0 _, q10.hg, q10.hm, q10.ne⟩
        have K12 := K11.setCells (h := r) (by have := HR0.out; omega) 0 (#[.int .i64 (st : Nat), .int .i64 (ss : Nat), .bool false, .int .u32 (k : Nat), .string dd] : Array Value).toList
        refine bodyPost_ret (v := .agg #[.int .i64 (st : Nat), .int .i64 (ss : Nat), .bool false, .int .u32 (k : Nat), .string dd]) (results_cell_at rfl _ _ r 0 #[.int .i64 (st : Nat), .int .i64 (ss : Nat), .bool false, .int .u32 (k : Nat), .string dd] _ rfl (KC.congr (by simp)) Try.underlying30 rfl sz) rfl ⟨?_, ⟨es', c, by rw [HB2.out]; exact q11, HY.out.1⟩, bel11, K12⟩
        rw [HL.out.1, HD.out]
        simp only [mkm, if_neg hlo, decide_eq_false hlo]
      · have hdn : ¬ ((ts T (k + i) : Nat) : Int) = ((ts T (k + n) : Nat) : Int) := fun e => hin (by
          have := ts_inj (T := T) (a := k + i) (b := k + n) (by omega) (by omega) (by omega)
          omega)
        obtain ⟨x, hx, hxk⟩ := HE.out.2.2.2.2 (k + i) (by simp) (by have := HL.out; omega)
        have hpx : pat L (k + i) = some x := by rw [← hxk]; exact pat_mem (uq_of_nd HE.out.2.1) hx
        have hpc : pat (cut L k i) (k + i) = some x := by rw [cut_pat]; exact hpx
        obtain ⟨j, hf, hj, _⟩ := (entK_find (T := T) (show k + i < 4294967296 by omega) EC (fun y hy => HE.out.2.2.1 y (cut_mem hy)) 0).2 _ hpc
        have hx6 : x.d.size ≤ 6 := HE.out.2.2.2.1 x hx
        have hcs := cat_size (l := L) HE.out.2.2.2.1 k i
        have hcat : cat L k (i + 1) = cat L k i ++ x.d := by
          show cat L k i ++ _ = _
          rw [hpx]
        have hcut := cut_succ HE.out.2.1 hj hxk
        have hbe := btk_erase hj
        rw [hcut] at hbe
        have hEC' := entK_erase (j := j) EC
        rw [hcut, ← toList_eraseIn] at hEC'
        have hsz' : (cat L k (i + 1)).size + btk (cut L k (i + 1)) = btk L := by rw [hcat, ByteArray.size_append]; omega
        obtain ⟨k2, f2, st2, ss2, d2⟩ := x
        rw [Nat.zero_add] at hf
        simp only at hxk hx6 hcat
        have hf' : Instr.findNow (.int .u32) (.int .u32 (ts T (k + i) : Nat)) es'.toList 0 = some (some (j, .agg #[.int .i64 0, .int .i64 (f2 : Nat), .int .u32 ((ts T k2 : Nat) : Int), .int .i64 (st2 : Nat), .int .i64 (ss2 : Nat), .int .u32 (k2 : Nat), .string d2, .int .u32 0, .int .u32 0, .int .i64 0, .int .i64 0, .slice none 0 0, .slice none 0 0, .slice none 0 0, .slice none 0 0])) := hf
        have hw1 : IntKind.u32.wrap ((ts T (k + i) : Nat) + 1) = ((ts T (k + (i + 1)) : Nat) : Int) := by
          show (((ts T (k + i) : Nat) : Int) + 1) % 4294967296 = _
          unfold ts
          omega
        have HY := Lib.hid (And.intro hEC' (And.intro hsz' (And.intro hcat hi)))
        have hbs : (Lib.strCells (cat L k i)).length + d2.size ≤ 100000000 := by rw [Lib.strCells_length]; omega
        clear hx hxk hpx hpc hj hcs hcat hcut hbe hEC' hsz' EC hsz hf hi
        have lkA : (Instr.lookup 205 (.map (some m)) (.int .u32 (ts T (k + i) : Nat)) false).run Try.prog wr = .ok (.agg #[.int .i64 0, .int .i64 (f2 : Nat), .int .u32 ((ts T k2 : Nat) : Int), .int .i64 (st2 : Nat), .int .i64 (ss2 : Nat), .int .u32 (k2 : Nat), .string d2, .int .u32 0, .int .u32 0, .int .i64 0, .int .i64 0, .slice none 0 0, .slice none 0 0, .slice none 0 0, .slice none 0 0]) wr := lk_val uM uK Q.M hf'
        have hfd : ∀ w : World, (Instr.field 40 (.agg #[.int .i64 0, .int .i64 (f2 : Nat), .int .u32 ((ts T k2 : Nat) : Int), .int .i64 (st2 : Nat), .int .i64 (ss2 : Nat), .int .u32 (k2 : Nat), .string d2, .int .u32 0, .int .u32 0, .int .i64 0, .int .i64 0, .slice none 0 0, .slice none 0 0, .slice none 0 0, .slice none 0 0]) 6).run Try.prog w = .ok (.string d2) w := fun _ => by kernel_rfl
        go_wp2_with fail
        clear hfd lkA
        refine (bld.write_any bb bb _ d2 wr H hbs (by omega)).mono ?_
        rintro e w4a ⟨rfl, H5, hb5⟩
        have q5 := Q.below' hb5 (by omega) (by omega)
        have S5 := S.below hb5 (by omega)
        have R5 := R.below hb5 (by omega)
        have bel5 := bel.trans (hb5.mono hbb0)
        have K5 := KK.below hb5 hbw
        have hbb5 : bb < w4a.heap.size := Nat.lt_of_lt_of_le hbb hb5.size
        clear Q S R bel KK H g0 hb5 hbb hbs
        have g0 : w4a.cell? ⟨g, 0, none⟩ = some (.map (some m)) := q5.B.cell 0
        have dl : ∀ ty, (Builtin.delete_ #[205, 28] ty #[.map (some m), .int .u32 (ts T (k + i) : Nat)]).run Try.prog w4a = .ok (.tuple #[]) (Go.ChangeMaps.setBlock w4a m (.map (es'.eraseIdxIfInBounds j) c)) := fun ty => by rw [del_some uM uK q5.M #[205, 28] rfl ty hf']
        go_upto_region 8 with (fail)
        have q4 := q5.map (es'.eraseIdxIfInBounds j) c
        have S4 := blk_map q5.M S5 (es'.eraseIdxIfInBounds j) c
        have R4 := blk_map q5.M R5 (es'.eraseIdxIfInBounds j) c
        have bel4 := q5.M.bel bel5 q5.hm (es'.eraseIdxIfInBounds j) c
        have K4 := K5.map q5.M (es'.eraseIdxIfInBounds j) c
        have H4 : bld.IsB bb bb _ _ := .inr (used_map H5 q5.M (by omega) (es'.eraseIdxIfInBounds j) c)
        rw [← strCells_cat, ← HY.out.2.2.1] at H4
        have hbb : bb < (Go.ChangeMaps.setBlock w4a m (.map (es'.eraseIdxIfInBounds j) c)).heap.size := by rw [MapB.size]; exact hbb5
        have HW := Lib.hid (And.intro q4 (And.intro H4 (And.intro S4 (And.intro R4 (And.intro bel4 (And.intro K4 hbb))))))
        clear q5 S5 R5 bel5 H5 g0 dl hbb5 K5 q4 H4 S4 R4 bel4 K4 hbb
        obtain ⟨w5, hw5⟩ : ∃ w5, Go.ChangeMaps.setBlock w4a m (.map (es'.eraseIdxIfInBounds j) c) = w5 := ⟨_, rfl⟩
        rw [hw5] at HW ⊢
        clear hw5 hf'
        have HE2 := Lib.hid hin
        clear hin hdn
        go_wp2_with fail
        go_roundw
        case rel => exact ⟨i + 1, _, rfl, by have := HY.out.2.2.2; have := HE2.out; omega, HW.out.1, HY.out.1, HY.out.2.1, HW.out.2.1, HW.out.2.2.1, HW.out.2.2.2.1, HW.out.2.2.2.2.1, HW.out.2.2.2.2.2.1, HW.out.2.2.2.2.2.2⟩
        case measure =>
          have h1 := HY.out.2.2.2
          have h2 := HE2.out
          show (ts T (k + n) + 4294967296 - (((ts T (k + (i + 1)) : Nat) : Int)).toNat) % 4294967296 < (ts T (k + n) + 4294967296 - (((ts T (k + i) : Nat) : Int)).toNat) % 4294967296
          unfold ts
          omega
end Go.Proofs.Ythddacgdmngfhaa.rea
