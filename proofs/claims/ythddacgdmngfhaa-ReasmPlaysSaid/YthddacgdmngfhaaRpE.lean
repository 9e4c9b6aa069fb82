/- Layer 17: how many wait; the document's own words: the chunk of a number, chunks of one message (gen-rpe.py wrote this). -/
import Derived.Test.YthddacgdmngfhaaRpD
import Derived.Test.YthddacgdmngfhaaKitS
import Derived.Test.YthddacgdmngfhaaKitQ
namespace Go.Proofs.Ythddacgdmngfhaa.rea
open Go.Sort (grow)
open Go.ChangeShapes Go.WideShapes Go.ChangeAt Go.RowKit kit
set_option maxRecDepth 100000

theorem len_any {b0 g m c : Nat} {es : Array MapEntry} {b : Int} (w : World) (q : Pa b0 g m es c b w) : Calls Try.prog 62 #[.pointer (some ⟨g, 0, none⟩)] w fun e w' => e = .returned (.int .i64 es.size) ∧ w' = w := by
  have g0 : w.cell? ⟨g, 0, none⟩ = some (.map (some m)) := q.B.cell 0
  have hl : ∀ ty, (Builtin.len_ #[205] ty #[.map (some m)]).run Try.prog w = .ok (.int .i64 es.size) w := fun ty => len_map uM q.M #[205] rfl ty
  go_enter Try.func62, Try.ntmps62
  go_wp2_with fail
  go_ret
  exact ⟨rfl, rfl⟩
theorem bytes_any {b0 g m c : Nat} {es : Array MapEntry} {b : Int} (w : World) (q : Pa b0 g m es c b w) : Calls Try.prog 63 #[.pointer (some ⟨g, 0, none⟩)] w fun e w' => e = .returned (.int .i64 b) ∧ w' = w := by
  have g1 : w.cell? ⟨g, 1, none⟩ = some (.int .i64 b) := q.B.cell 1
  go_enter Try.func63, Try.ntmps63
  go_wp2_with fail
  go_ret
  exact ⟨rfl, rfl⟩
theorem quo4 (f : Nat) (h : f < 8) : Int.tdiv ((f : Nat) : Int) 4 = ((f / 4 : Nat) : Int) := by
  have : ∀ f : Fin 8, Int.tdiv ((f.val : Nat) : Int) 4 = ((f.val / 4 : Nat) : Int) := by decide
  exact this ⟨f, h⟩
theorem rem2 (f : Nat) (h : f < 8) : Int.tmod ((f : Nat) : Int) 2 = ((f % 2 : Nat) : Int) := by
  have : ∀ f : Fin 8, Int.tmod ((f.val : Nat) : Int) 2 = ((f.val % 2 : Nat) : Int) := by decide
  exact this ⟨f, h⟩
theorem quo2 (f : Nat) (h : f < 8) : Int.tdiv ((f : Nat) : Int) 2 = ((f / 2 : Nat) : Int) := by
  have : ∀ f : Fin 8, Int.tdiv ((f.val : Nat) : Int) 2 = ((f.val / 2 : Nat) : Int) := by decide
  exact this ⟨f, h⟩
theorem qr4 (f : Nat) (h : f < 8) : (wrap64 (((f : Nat) : Int) / 4)).tmod 2 = ((f / 4 % 2 : Nat) : Int) := by
  have : ∀ f : Fin 8, (wrap64 (((f.val : Nat) : Int) / 4)).tmod 2 = ((f.val / 4 % 2 : Nat) : Int) := by decide +kernel
  exact this ⟨f, h⟩
theorem qr2 (f : Nat) (h : f < 8) : (wrap64 (((f : Nat) : Int) / 2)).tmod 2 = ((f / 2 % 2 : Nat) : Int) := by
  have : ∀ f : Fin 8, (wrap64 (((f.val : Nat) : Int) / 2)).tmod 2 = ((f.val / 2 % 2 : Nat) : Int) := by decide +kernel
  exact this ⟨f, h⟩
/-- Whether two chunks are of one message, in the document's words. -/
theorem ralike (T : Nat) (a b : Pk) (ha : a.f < 8) (hb : b.f < 8) (w : World) : Calls Try.prog 109 #[.agg (pkc T a), .agg (pkc T b)] w fun e w' => e = .returned (.bool (alike a b)) ∧ Below w.heap.size w w' := by
  obtain ⟨k, f, st, ss, d⟩ := a
  obtain ⟨k2, f2, st2, ss2, d2⟩ := b
  rw [pkc_eq, pkc_eq]
  have N0 : Blk ((w.alloc (.cells (cki (f : Nat) (ts T k : Nat) (st : Nat) (ss : Nat) (k : Nat) d) 40)).alloc (.cells (cki (f2 : Nat) (ts T k2 : Nat) (st2 : Nat) (ss2 : Nat) (k2 : Nat) d2) 40)) w.heap.size 40 (cki (f : Nat) (ts T k : Nat) (st : Nat) (ss : Nat) (k : Nat) d) := (Blk.new w _ _).alloc _
  have Z0 : Blk ((w.alloc (.cells (cki (f : Nat) (ts T k : Nat) (st : Nat) (ss : Nat) (k : Nat) d) 40)).alloc (.cells (cki (f2 : Nat) (ts T k2 : Nat) (st2 : Nat) (ss2 : Nat) (k2 : Nat) d2) 40)) (w.heap.size + 1) 40 (cki (f2 : Nat) (ts T k2 : Nat) (st2 : Nat) (ss2 : Nat) (k2 : Nat) d2) := blk_new2 _ _ _ _
  have bel0 := ((Below.refl w.heap.size w).alloc (Nat.le_refl _) (.cells (cki (f : Nat) (ts T k : Nat) (st : Nat) (ss : Nat) (k : Nat) d) 40)).alloc (by simp) (.cells (cki (f2 : Nat) (ts T k2 : Nat) (st2 : Nat) (ss2 : Nat) (k2 : Nat) d2) 40)
  go_enter Try.func109, Try.ntmps109
  go_upto_region 1 with (fail)
  obtain ⟨w0, hw0⟩ : ∃ w0, (w.alloc (.cells (cki (f : Nat) (ts T k : Nat) (st : Nat) (ss : Nat) (k : Nat) d) 40)).alloc (.cells (cki (f2 : Nat) (ts T k2 : Nat) (st2 : Nat) (ss2 : Nat) (k2 : Nat) d2) 40) = w0 := ⟨_, rfl⟩
  rw [hw0] at N0 Z0 bel0
  have hw0' : (w.alloc (.cells #[.int .i64 0, .int .i64 (f : Nat), .int .u32 (ts T k : Nat), .int .i64 (st : Nat), .int .i64 (ss : Nat), .int .u32 (k : Nat), .string d, .int .u32 0, .int .u32 0, .int .i64 0, .int .i64 0, .slice none 0 0, .slice none 0 0, .slice none 0 0, .slice none 0 0] 40)).alloc (.cells #[.int .i64 0, .int .i64 (f2 : Nat), .int .u32 (ts T k2 : Nat), .int .i64 (st2 : Nat), .int .i64 (ss2 : Nat), .int .u32 (k2 : Nat), .string d2, .int .u32 0, .int .u32 0, .int .i64 0, .int .i64 0, .slice none 0 0, .slice none 0 0, .slice none 0 0, .slice none 0 0] 40) = w0 := hw0
  first | rw [hw0] | rw [hw0']
  clear hw0 hw0'
  have a1 : w0.cell? ⟨w.heap.size, 1, none⟩ = some (.int .i64 (f : Nat)) := N0.cell 1
  have a3 : w0.cell? ⟨w.heap.size, 3, none⟩ = some (.int .i64 (st : Nat)) := N0.cell 3
  have a4 : w0.cell? ⟨w.heap.size, 4, none⟩ = some (.int .i64 (ss : Nat)) := N0.cell 4
  have b1 : w0.cell? ⟨w.heap.size + 1, 1, none⟩ = some (.int .i64 (f2 : Nat)) := Z0.cell 1
  have b3 : w0.cell? ⟨w.heap.size + 1, 3, none⟩ = some (.int .i64 (st2 : Nat)) := Z0.cell 3
  have b4 : w0.cell? ⟨w.heap.size + 1, 4, none⟩ = some (.int .i64 (ss2 : Nat)) := Z0.cell 4
  have ra := qr4 f ha
  have rb := qr4 f2 hb
  clear N0 Z0
  obtain ⟨A, hA⟩ : ∃ A, f / 4 % 2 = A := ⟨_, rfl⟩
  obtain ⟨B, hB⟩ : ∃ B, f2 / 4 % 2 = B := ⟨_, rfl⟩
  rw [hA] at ra
  rw [hB] at rb
  have hal : alike ⟨k, f, st, ss, d⟩ ⟨k2, f2, st2, ss2, d2⟩ = (decide (st = st2) && decide (ss = ss2) && decide (A = B)) := by rw [← hA, ← hB]; rfl
  have HAL := Lib.hid hal
  clear hal hA hB
  by_cases h1 : st = st2
  · by_cases h2 : ss = ss2
    · by_cases h3 : A = B
      · subst h1 h2 h3
        go_wp2_with fail
        go_ret
        exact ⟨by rw [HAL.out]; simp, bel0⟩
      · subst h1 h2
        have e3 : decide ((A : Int) = (B : Int)) = false := decide_eq_false (by omega)
        go_wp2_with fail
        go_ret
        exact ⟨by rw [HAL.out]; simp [h3]; omega, bel0⟩
    · subst h1
      have e2 : decide ((ss : Int) = (ss2 : Int)) = false := decide_eq_false (by omega)
      go_wp2_with fail
      go_ret
      exact ⟨by rw [HAL.out]; simp [h2], bel0⟩
  · have e1 : decide ((st : Int) = (st2 : Int)) = false := decide_eq_false (by omega)
    go_wp2_with fail
    go_ret
    exact ⟨by rw [HAL.out]; simp [h1], bel0⟩
/-- What is told of a number. -/
def AtP (T : Nat) : Option Pk → Ending → Prop
  | none, e => e = .returned (.tuple #[.agg #[.int .i64 0, .int .i64 0, .int .u32 0, .int .i64 0, .int .i64 0, .int .u32 0, .string ⟨#[]⟩, .int .u32 0, .int .u32 0, .int .i64 0, .int .i64 0, .slice none 0 0, .slice none 0 0, .slice none 0 0, .slice none 0 0], .bool false])
  | some x, e => e = .returned (.tuple #[.agg (pkc T x), .bool true])
theorem pat_first {k : Nat} {x : Pk} : ∀ {l : List Pk} {i : Nat}, l[i]? = some x → x.k = k → (∀ (j : Nat) y, j < i → l[j]? = some y → y.k ≠ k) → pat l k = some x
  | [], _, h, _, _ => by simp at h
  | z :: r, 0, h, hk, _ => by
    obtain rfl : z = x := by simpa using h
    unfold pat
    rw [if_pos hk]
  | z :: r, i + 1, h, hk, hno => by
    unfold pat
    rw [if_neg (hno 0 z (Nat.zero_lt_succ i) rfl)]
    exact pat_first (by simpa using h) hk fun j y hj hy => hno (j + 1) y (by omega) (by simpa using hy)
theorem pat_never {k : Nat} {l : List Pk} (h : ∀ (j : Nat) y, j < l.length → l[j]? = some y → y.k ≠ k) : pat l k = none := pat_none.2 fun x hx => by
  obtain ⟨j, hj⟩ := List.getElem?_of_mem hx
  exact h j x (List.getElem?_eq_some_iff.1 hj).1 hj
/-- The chunk of a number, in the document's words. -/
theorem at_any {b0 T : Nat} {v : Value} {M : List Pk} {w : World} (q : Qo w b0 15 v M.length (cellsK T M)) (hn : 0 < M.length) (h64 : ∀ x ∈ M, x.k < 64) (hl : M.length ≤ 1000) (kn : Nat) (hk : kn < 4294967296) : Calls Try.prog 108 #[v, .int .u32 (ts T kn : Nat)] w fun e w' => AtP T (pat M kn) e ∧ Below w.heap.size w w' := by
  obtain ⟨h, off, cap, rfl, hcap, _, _, hh, _, _⟩ := q.show_ hn
  obtain ⟨w1, hw1⟩ : ∃ w1, w.alloc (.cells #[.int .i64 0, .int .i64 0, .int .u32 0, .int .i64 0, .int .i64 0, .int .u32 0, .string ⟨#[]⟩, .int .u32 0, .int .u32 0, .int .i64 0, .int .i64 0, .slice none 0 0, .slice none 0 0, .slice none 0 0, .slice none 0 0] 40) = w1 := ⟨_, rfl⟩
  have q1 : Qo w1 b0 15 (.slice (some ⟨h, off, none⟩) M.length cap) M.length (cellsK T M) := by rw [← hw1]; exact q.alloc _
  have R : Blk w1 w.heap.size 40 #[.int .i64 0, .int .i64 0, .int .u32 0, .int .i64 0, .int .i64 0, .int .u32 0, .string ⟨#[]⟩, .int .u32 0, .int .u32 0, .int .i64 0, .int .i64 0, .slice none 0 0, .slice none 0 0, .slice none 0 0, .slice none 0 0] := by rw [← hw1]; exact Blk.new w 40 #[.int .i64 0, .int .i64 0, .int .u32 0, .int .i64 0, .int .i64 0, .int .u32 0, .string ⟨#[]⟩, .int .u32 0, .int .u32 0, .int .i64 0, .int .i64 0, .slice none 0 0, .slice none 0 0, .slice none 0 0, .slice none 0 0]
  have bel : Below w.heap.size w w1 := by rw [← hw1]; exact (Below.refl w.heap.size w).alloc (Nat.le_refl _) _
  obtain ⟨h', off', cap', e', _, _, _, hh1, _, CC⟩ := q1.show_ hn
  simp only [Value.slice.injEq, Option.some.injEq, Addr.mk.injEq, and_true] at e'
  obtain ⟨⟨rfl, rfl⟩, -, -⟩ := e'
  obtain ⟨bx, hbx⟩ : ∃ bx, w.heap.size = bx := ⟨_, rfl⟩
  have HBX := Lib.hid hbx
  rw [hbx] at R hh bel
  have hne : h ≠ bx := by omega
  go_enter Try.func108, Try.ntmps108
  go_wp2_with fail
  try rw [hw1]
  try rw [hbx]
  clear hw1 q hbx
  have HX := Lib.hid (And.intro bel (And.intro h64 R))
  clear bel h64
  have hml : ((M.length : Nat) : Int) ≤ 9223372036854775807 := by omega
  go_loopw [6] (fun s6 wr => ∃ i : Nat, s6 = .int .i64 (i : Nat) ∧ i ≤ M.length ∧ (∀ (j : Nat) y, j < i → M[j]? = some y → y.k ≠ kn) ∧ wr = w1) (fun s6 _ => M.length - (intOf s6).toNat)
  case atStart => exact ⟨0, rfl, Nat.zero_le _, fun j y hj => absurd hj (Nat.not_lt_zero j), rfl⟩
  case round =>
    obtain ⟨i, rfl, hi, hno, rfl⟩ := hrel
    by_cases hlt : i < M.length
    · have hii : (i : Int) < (M.length : Int) := by omega
      have hi0 : (0 : Int) ≤ (i : Int) := by omega
      obtain ⟨y, hy⟩ : ∃ y, M[i]? = some y := ⟨_, List.getElem?_eq_getElem hlt⟩
      have hy64 : y.k < 64 := HX.out.2.1 y (List.mem_of_getElem? hy)
      have C : Cel wr h (off + i * 15) (pkc T y) := CC i (pkc T y) hlt (Nat.le_refl 15) (cellsK_get hy)
      have y2 : wr.cell? ⟨h, off + i * 15 + 2, none⟩ = some (.int .u32 (ts T y.k : Nat)) := C.cell 2 (u := .int .u32 (ts T y.k : Nat)) rfl
      have HY := Lib.hid (And.intro hy hno)
      by_cases hyk : y.k = kn
      · have hpat : pat M kn = some y := pat_first hy hyk hno
        obtain ⟨k2, f2, st2, ss2, d2⟩ := y
        obtain rfl : k2 = kn := hyk
        have HP := Lib.hid hpat
        have C' : Cel wr h (off + i * 15) (cki (f2 : Nat) (ts T k2 : Nat) (st2 : Nat) (ss2 : Nat) (k2 : Nat) d2) := C
        have szB := szI (f2 : Nat) (ts T k2 : Nat) (st2 : Nat) (ss2 : Nat) (k2 : Nat) d2
        clear hy hno hpat C hi
        go_wp2_with (first | (refine wpList_load_at rfl 40 _ rfl h (off + i * 15) rfl _ _ C' Try.underlying40 rfl szB ?_) | (refine wpList_store_at rfl 40 _ _ rfl bx 0 (cki (f2 : Nat) (ts T k2 : Nat) (st2 : Nat) (ss2 : Nat) (k2 : Nat) d2) rfl rfl #[.int .i64 0, .int .i64 0, .int .u32 0, .int .i64 0, .int .i64 0, .int .u32 0, .string ⟨#[]⟩, .int .u32 0, .int .u32 0, .int .i64 0, .int .i64 0, .slice none 0 0, .slice none 0 0, .slice none 0 0, .slice none 0 0] (Cel.of_blk HX.out.2.2) szB rfl (oneI _ _ _ _ _ _) ?_))
        have KC := (Cel.of_blk HX.out.2.2).setCells_same (cki (f2 : Nat) (ts T k2 : Nat) (st2 : Nat) (ss2 : Nat) (k2 : Nat) d2).toList rfl
        have belE := below_setCells HX.out.1 (Nat.le_refl bx) 0 (cki (f2 : Nat) (ts T k2 : Nat) (st2 : Nat) (ss2 : Nat) (k2 : Nat) d2).toList
        refine bodyPost_ret (v := .tuple #[.agg (cki (f2 : Nat) (ts T k2 : Nat) (st2 : Nat) (ss2 : Nat) (k2 : Nat) d2), .bool true]) (by rw [results_cell_tmp_at rfl _ _ bx 0 (cki (f2 : Nat) (ts T k2 : Nat) (st2 : Nat) (ss2 : Nat) (k2 : Nat) d2) _ rfl (KC.congr (by simp)) Try.underlying40 rfl szB]; rfl) rfl ?_
        refine ⟨by rw [HP.out]; rfl, ?_⟩
        rw [HBX.out]
        exact belE
      · have hne2 : ¬ ((ts T y.k : Nat) : Int) = ((ts T kn : Nat) : Int) := fun e => hyk (ts_inj (T := T) (by omega) hk (by omega))
        have hde : decide (((ts T y.k : Nat) : Int) = ((ts T kn : Nat) : Int)) = false := decide_eq_false hne2
        obtain ⟨t1, ht1⟩ : ∃ t1, ts T y.k = t1 := ⟨_, rfl⟩
        obtain ⟨t2, ht2⟩ : ∃ t2, ts T kn = t2 := ⟨_, rfl⟩
        rw [ht1] at y2 hne2 hde
        rw [ht2] at hne2 hde ⊢
        clear ht1 ht2 C hy hno
        have HK := Lib.hid hyk
        clear hyk
        go_wp2_with fail
        go_roundw
        case rel => exact ⟨i + 1, by go_num, by omega, fun j z hj hz => by
          by_cases e : j = i
          · subst e
            have : z = y := by have := HY.out.1; rw [hz] at this; exact Option.some.inj this
            rw [this]; exact HK.out
          · exact HY.out.2 j z (by omega) hz, trivial⟩
        case measure => simp [intOf]; omega
    · obtain rfl : i = M.length := by omega
      have hpat : pat M kn = none := pat_never fun j y hj hy => hno j y hj hy
      have HP := Lib.hid hpat
      have szB := szI 0 0 0 0 0 ⟨#[]⟩
      clear hpat hno hi
      go_wp2_with (refine wpList_store_at rfl 40 _ _ rfl bx 0 #[.int .i64 0, .int .i64 0, .int .u32 0, .int .i64 0, .int .i64 0, .int .u32 0, .string ⟨#[]⟩, .int .u32 0, .int .u32 0, .int .i64 0, .int .i64 0, .slice none 0 0, .slice none 0 0, .slice none 0 0, .slice none 0 0] rfl rfl #[.int .i64 0, .int .i64 0, .int .u32 0, .int .i64 0, .int .i64 0, .int .u32 0, .string ⟨#[]⟩, .int .u32 0, .int .u32 0, .int .i64 0, .int .i64 0, .slice none 0 0, .slice none 0 0, .slice none 0 0, .slice none 0 0] (Cel.of_blk HX.out.2.2) szB rfl (by kernel_rfl) ?_)
      have KC := (Cel.of_blk HX.out.2.2).setCells_same (#[.int .i64 0, .int .i64 0, .int .u32 0, .int .i64 0, .int .i64 0, .int .u32 0, .string ⟨#[]⟩, .int .u32 0, .int .u32 0, .int .i64 0, .int .i64 0, .slice none 0 0, .slice none 0 0, .slice none 0 0, .slice none 0 0] : Array Value).toList rfl
      have belE := below_setCells HX.out.1 (Nat.le_refl bx) 0 (#[.int .i64 0, .int .i64 0, .int .u32 0, .int .i64 0, .int .i64 0, .int .u32 0, .string ⟨#[]⟩, .int .u32 0, .int .u32 0, .int .i64 0, .int .i64 0, .slice none 0 0, .slice none 0 0, .slice none 0 0, .slice none 0 0] : Array Value).toList
      refine bodyPost_ret (v := .tuple #[.agg #[.int .i64 0, .int .i64 0, .int .u32 0, .int .i64 0, .int .i64 0, .int .u32 0, .string ⟨#[]⟩, .int .u32 0, .int .u32 0, .int .i64 0, .int .i64 0, .slice none 0 0, .slice none 0 0, .slice none 0 0, .slice none 0 0], .bool false]) (by rw [results_cell_tmp_at rfl _ _ bx 0 #[.int .i64 0, .int .i64 0, .int .u32 0, .int .i64 0, .int .i64 0, .int .u32 0, .string ⟨#[]⟩, .int .u32 0, .int .u32 0, .int .i64 0, .int .i64 0, .slice none 0 0, .slice none 0 0, .slice none 0 0, .slice none 0 0] _ rfl (KC.congr (by simp)) Try.underlying40 rfl szB]; rfl) rfl ?_
      refine ⟨by rw [HP.out]; rfl, ?_⟩
      rw [HBX.out]
      exact belE
end Go.Proofs.Ythddacgdmngfhaa.rea
