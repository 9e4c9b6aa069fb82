/- Layer 40: the bytes of an object of which one piece came. -/
import Derived.Test.YthddacgdmngfhaaFilB
namespace Go.Proofs.Ythddacgdmngfhaa.fil
open Go.Sort (grow)
open Go.ChangeShapes Go.WideShapes Go.ChangeAt Go.RowKit kit oct byt
open Go.ChangeMaps (setBlock)
set_option maxRecDepth 100000

theorem uI : Try.prog.underlying 3 = some (.int .i64) := by kernel_rfl
theorem heap_setCells {g k : Nat} (hne : k ≠ g) : ∀ (vs : List Value) (o : Nat) (w : World), (w.setCells g o vs).heap[k]? = w.heap[k]?
  | [], _, _ => rfl
  | v :: r, o, w => (heap_setCells hne r (o + 1) (w.setCell ⟨g, o, none⟩ v)).trans (Below.heap_setCell w ⟨g, o, none⟩ v k hne)
theorem left_one (e : MapEntry) : (leftOf #[e] #[]).size = 1 := by simp [leftOf]
set_option maxHeartbeats 1000000 in
theorem whole_lt (b n o : Nat) (i : Int) (d : ByteArray) (w : World) (M : MapB w b #[⟨.int .i64 o, .agg (pc i n o d), 0⟩] 1) (h0 : o < n) (h1 : n ≤ 20000) (h2 : o + d.size ≤ n) :
    Calls Try.prog 92 #[.agg #[.int .i64 n, .map (some b)]] w fun e w' => e = .returned (.tuple #[.string (whl n o d), .bool (decide (d.size = n))]) ∧ Below w.heap.size w w' := by
  obtain ⟨i0, hi, hz0, hz1, hz2⟩ := info_parts infoB
  have hno : ¬ n = o := by omega
  have hbl := M.lt
  have X1 := Blk.new w 182 #[.int .i64 n, .map (some b)]
  have M1 := M.alloc (.cells #[.int .i64 n, .map (some b)] 182)
  have bel1 := (Below.refl w.heap.size w).alloc (Nat.le_refl _) (.cells #[.int .i64 n, .map (some b)] 182)
  go_enter Try.func92, Try.ntmps92
  go_upto_region 1 with (fail)
  clear M
  generalize w.alloc (.cells #[.int .i64 n, .map (some b)] 182) = w1 at *
  have x0 : w1.cell? ⟨w.heap.size, 0, none⟩ = some (.int .i64 n) := X1.cell 0
  have hx1 := X1.lt
  go_upto_region 2 with (at_make; refine wpList_make_full _ rfl _ _ 45 rfl w.heap.size 5 i0 (.int .u8 0) 1 Try.underlying45 hi hz0 hz1 .i64 .i64 n n n rfl rfl rfl rfl (by rw [hz2]; omega) (by unfold maxLen; omega) bel1.size ?_; intro w2 own2 grow2)
  have I2 := noughts_of own2
  have hb2 : Below w1.heap.size w1 w2 := ⟨grow2.os, grow2.tape, grow2.output, grow2.size, fun k hk => grow2.block k hk (by simp)⟩
  have X2 := X1.below hb2 hx1
  have M2 := M1.below hb2 M1.lt
  have bel2 := bel1.trans (hb2.mono bel1.size)
  have hgw : w.heap.size < w1.heap.size := hx1
  have hbw : b < w1.heap.size := M1.lt
  clear own2 grow2 hb2 X1 M1 bel1 x0 hx1
  generalize w1.heap.size = g at *
  have hrg := run_range_map (P := Try.prog) w2 180 3 177 b #[⟨.int .i64 o, .agg (pc i n o d), 0⟩] 1 uMP M2
  have x1 : w2.cell? ⟨w.heap.size, 1, none⟩ = some (.map (some b)) := X2.cell 1
  go_wp2_with fail
  have hrr : (w2.alloc (.mapIter (some b) 1 #[] 1)).heap[w2.heap.size]? = some (.mapIter (some b) 1 #[] 1) := (Go.MapKept.heap_alloc w2 _).1
  have X3 := X2.alloc (.mapIter (some b) 1 #[] 1)
  have M3 := M2.alloc (.mapIter (some b) 1 #[] 1)
  have I3 := I2.alloc (.mapIter (some b) 1 #[] 1)
  have bel3 := bel2.alloc bel2.size (.mapIter (some b) 1 #[] 1)
  have hgr : g < w2.heap.size := I2.lt
  clear X2 M2 I2 bel2 hrg x1
  generalize w2.alloc (.mapIter (some b) 1 #[] 1) = w3 at *
  generalize w2.heap.size = r at *
  have hbr : b ≠ r := by omega
  have hgr2 : g ≠ r := by omega
  have hwr : w.heap.size ≠ r := by omega
  refine wp_loop_rounds 2 ?_
  rw [rounds_succ]
  obtain ⟨E, hE⟩ : ∃ E : Array MapEntry, E = #[⟨.int .i64 o, .agg (pc i n o d), 0⟩] := ⟨_, rfl⟩
  have hEl : E.toList = [⟨.int .i64 o, .agg (pc i n o d), 0⟩] := by rw [hE]
  have hsz1 : (leftOf E #[]).size = 1 := by rw [hE]; simp [leftOf]
  have hsz2 : (leftOf E (#[].push 0)).size = 0 := by rw [hE]; simp [leftOf]
  have hmem : ∀ e ∈ (leftOf E #[]).toList, e = ⟨.int .i64 o, .agg (pc i n o d), 0⟩ := by rw [hE]; simp [leftOf]
  rw [← hE] at M3
  have hbn : ∀ x ∈ E.toList, x.born < 1 := by rw [hEl]; simp
  have hnd : (E.toList.map (·.born)).Nodup := by rw [hEl]; simp
  have hin : (⟨.int .i64 o, .agg (pc i n o d), 0⟩ : MapEntry) ∈ E.toList := by rw [hEl]; simp
  clear hE hEl
  rcases run_next_at (P := Try.prog) w3 0 r b 1 1 #[] E 1 hrr M3 hbn (Nat.le_refl _) with ⟨hz, _⟩ | ⟨e, he, w4, hw4, hn⟩
  · omega
  obtain rfl := hmem e he
  have M4 : MapB w4 b E 1 := by rcases hw4 with rfl | rfl <;> exact M3
  have X4 : Blk w4 w.heap.size 182 #[.int .i64 n, .map (some b)] := by rcases hw4 with rfl | rfl <;> exact X3
  have I4 : IsBytes w4 g (List.replicate n 0) := by rcases hw4 with rfl | rfl <;> exact I3
  have bel4 : Below w.heap.size w w4 := by rcases hw4 with rfl | rfl; exact bel3; exact bel3.drew
  have hr4 : w4.heap[r]? = some (.mapIter (some b) 1 #[] 1) := by rcases hw4 with rfl | rfl <;> exact hrr
  have hset := Go.MapKept.heap_set (o' := .mapIter (some b) 1 (#[].push 0) 1) hr4
  have M5 : MapB (setBlock w4 r (.mapIter (some b) 1 (#[].push 0) 1)) b E 1 := (hset.2 b hbr).trans M4
  have X5 : Blk (setBlock w4 r (.mapIter (some b) 1 (#[].push 0) 1)) w.heap.size 182 #[.int .i64 n, .map (some b)] := (hset.2 _ hwr).trans X4
  have I5 : IsBytes (setBlock w4 r (.mapIter (some b) 1 (#[].push 0) 1)) g (List.replicate n 0) := ⟨by rw [MapB.size]; exact I4.lt, fun j hj => ⟨(World.cell?_of_block (a := ⟨g, j, none⟩) (hset.2 g hgr2)).trans (I4.2 j hj).1, (World.frozen?_of_block (a := ⟨g, j, none⟩) (hset.2 g hgr2)).trans (I4.2 j hj).2⟩⟩
  have bel5 : Below w.heap.size w (setBlock w4 r (.mapIter (some b) 1 (#[].push 0) 1)) := ⟨bel4.os, bel4.tape, bel4.output, by rw [MapB.size]; exact bel4.size, fun k hk => (hset.2 k (by omega)).trans (bel4.block k hk)⟩
  have hr5 := hset.1
  have hn2 : (Instr.next (.pointer (some ⟨r, 0, none⟩)) false 0).run Try.prog w3 = .ok (.tuple #[.bool true, .int .i64 o, .agg (pc i n o d)]) (setBlock w4 r (.mapIter (some b) 1 (#[].push 0) 1)) := hn
  have hent := run_entry_at (P := Try.prog) (setBlock w4 r (.mapIter (some b) 1 (#[].push 0) 1)) r b 1 #[] E 1 ⟨.int .i64 o, .agg (pc i n o d), 0⟩ hr5 M5 hin hnd
  clear hn hset hr4 bel4 I4 X4 M4 hw4 he hmem hrr M3 I3 X3 bel3
  have hr5' : (setBlock w4 r (.mapIter (some b) 1 (#[].push 0) 1)).heap[r]? = some (.mapIter (some b) 1 (#[].push 0) 1) := hr5
  have H5 := Lib.hid hr5'
  clear hr5'
  clear hr5
  generalize setBlock w4 r (.mapIter (some b) 1 (#[].push 0) 1) = w5 at *
  have hent2 : (Instr.entry (.pointer (some ⟨r, 0, none⟩))).run Try.prog w5 = .ok (.tuple #[.int .i64 o, .agg #[.int .u32 i, .int .i64 n, .int .i64 o, .string d]]) w5 := hent
  clear hent
  go_upto_region 6 with (fail)
  have P6 := Blk.new w5 177 #[.int .u32 i, .int .i64 n, .int .i64 o, .string d]
  have X6 := X5.alloc (.cells #[.int .u32 i, .int .i64 n, .int .i64 o, .string d] 177)
  have M6 := M5.alloc (.cells #[.int .u32 i, .int .i64 n, .int .i64 o, .string d] 177)
  have I6 := I5.alloc (.cells #[.int .u32 i, .int .i64 n, .int .i64 o, .string d] 177)
  have bel6 := bel5.alloc bel5.size (.cells #[.int .u32 i, .int .i64 n, .int .i64 o, .string d] 177)
  have hrl : r < w5.heap.size := (Array.getElem?_eq_some_iff.1 H5.out).1
  have hr6 : (w5.alloc (.cells #[.int .u32 i, .int .i64 n, .int .i64 o, .string d] 177)).heap[r]? = some (.mapIter (some b) 1 (#[].push 0) 1) := ((Go.MapKept.heap_alloc w5 _).2 r hrl).trans H5.out
  have H6 := Lib.hid hr6
  have hgp : g < w5.heap.size := I5.lt
  clear X5 M5 I5 bel5 H5 hr6 hent2 hn2
  generalize w5.alloc (.cells #[.int .u32 i, .int .i64 n, .int .i64 o, .string d] 177) = w6 at *
  generalize w5.heap.size = p at *
  have p3 : w6.cell? ⟨p, 3, none⟩ = some (.string d) := P6.cell 3
  have hcp := fun (W : World) (I : IsBytes W g (List.replicate n 0)) ty => run_copy_at (P := Try.prog) W 45 9 ty 5 g o (n - o) d (n - o) Try.underlying45 (by kernel_rfl) (by omega) I (by simp; omega)
  have hcp6 := hcp w6.drew I6.drew
  have hdl : d.size ≤ 20000 := by omega
  have hon : (o : Int) ≤ (n : Int) := by omega
  clear hcp
  go_region
  all_goals
    have I7 : IsBytes (w6.drew.setCells g o (d.data.toList.map bv)) g (laid (List.replicate n 0) d.data.toList o) := set_cells_at I6.drew d.data.toList o (by simp; omega)
    have X7 := blk_setCells X6.drew (show w.heap.size ≠ g by omega) o (d.data.toList.map bv)
    have M7 : MapB (w6.drew.setCells g o (d.data.toList.map bv)) b E 1 := (heap_setCells (show b ≠ g by omega) _ _ _).trans M6
    have hr7 : (w6.drew.setCells g o (d.data.toList.map bv)).heap[r]? = some (.mapIter (some b) 1 (#[].push 0) 1) := (heap_setCells (show r ≠ g by omega) _ _ _).trans H6.out
    have bel7 : Below w.heap.size w (w6.drew.setCells g o (d.data.toList.map bv)) := below_setCells bel6.drew (by omega) _ _
    clear hcp6 I6 X6 M6 H6 bel6 p3 P6
    generalize w6.drew.setCells g o (d.data.toList.map bv) = w7 at *
    have hn7 : (Instr.next (.pointer (some ⟨r, 0, none⟩)) false 0).run Try.prog w7 = .ok (.tuple #[.bool false]) w7 := by
      rcases run_next_at (P := Try.prog) w7 0 r b 1 1 (#[].push 0) E 1 hr7 M7 hbn (Nat.le_refl _) with ⟨_, h⟩ | ⟨e, he, _⟩
      · exact h
      · exfalso
        have : (leftOf E (#[].push 0)).toList = [] := List.eq_nil_of_length_eq_zero (by simpa using hsz2)
        rw [this] at he
        cases he
    have x0 : w7.cell? ⟨w.heap.size, 0, none⟩ = some (.int .i64 n) := X7.cell 0
    have hcv : ∀ W : World, IsBytes W g (laid (List.replicate n 0) d.data.toList o) → (convert 45 9 (.slice (some ⟨g, 0, none⟩) n n)).run Try.prog W = .ok (.string (whl n o d)) W := fun W I => conv_bytes Try.underlying45 (by kernel_rfl) Try.underlying9 I n n (by rw [laid_len _ _ _ (by simp; omega)]; simp)
    have hcv1 := hcv w7 I7
    have hcv2 := hcv w7.drew I7.drew
    have hdi : ((d.size : Int) == (n : Int)) = decide (d.size = n) := by
      by_cases q : d.size = n
      · simp [q]
      · have : ¬ (d.size : Int) = n := by omega
        simp [q, this]
    go_wp2_with fail
    rw [rounds_succ]
    go_wp2_with fail
    go_region
    all_goals
      go_wp2_with fail
      go_ret2
      exact ⟨by simp [hdi], bel7.drew⟩
set_option maxHeartbeats 1000000 in
theorem whole_zero (b : Nat) (i : Int) (w : World) (M : MapB w b #[⟨.int .i64 0, .agg (pc i 0 0 ⟨#[]⟩), 0⟩] 1) :
    Calls Try.prog 92 #[.agg #[.int .i64 0, .map (some b)]] w fun e w' => e = .returned (.tuple #[.string ⟨#[]⟩, .bool (true)]) ∧ Below w.heap.size w w' := by
  obtain ⟨i0, hi, hz0, hz1, hz2⟩ := info_parts infoB
  have hbl := M.lt
  have X1 := Blk.new w 182 #[.int .i64 0, .map (some b)]
  have M1 := M.alloc (.cells #[.int .i64 0, .map (some b)] 182)
  have bel1 := (Below.refl w.heap.size w).alloc (Nat.le_refl _) (.cells #[.int .i64 0, .map (some b)] 182)
  go_enter Try.func92, Try.ntmps92
  go_upto_region 1 with (fail)
  clear M
  generalize w.alloc (.cells #[.int .i64 0, .map (some b)] 182) = w1 at *
  have x0 : w1.cell? ⟨w.heap.size, 0, none⟩ = some (.int .i64 0) := X1.cell 0
  have hx1 := X1.lt
  go_upto_region 2 with (at_make; refine wpList_make_full _ rfl _ _ 45 rfl w.heap.size 5 i0 (.int .u8 0) 1 Try.underlying45 hi hz0 hz1 .i64 .i64 0 0 0 rfl rfl rfl rfl (by rw [hz2]; omega) (by unfold maxLen; omega) bel1.size ?_; intro w2 own2 grow2)
  have I2 := noughts_of own2
  have hb2 : Below w1.heap.size w1 w2 := ⟨grow2.os, grow2.tape, grow2.output, grow2.size, fun k hk => grow2.block k hk (by simp)⟩
  have X2 := X1.below hb2 hx1
  have M2 := M1.below hb2 M1.lt
  have bel2 := bel1.trans (hb2.mono bel1.size)
  have hgw : w.heap.size < w1.heap.size := hx1
  have hbw : b < w1.heap.size := M1.lt
  clear own2 grow2 hb2 X1 M1 bel1 x0 hx1
  generalize w1.heap.size = g at *
  have hrg := run_range_map (P := Try.prog) w2 180 3 177 b #[⟨.int .i64 0, .agg (pc i 0 0 ⟨#[]⟩), 0⟩] 1 uMP M2
  have x1 : w2.cell? ⟨w.heap.size, 1, none⟩ = some (.map (some b)) := X2.cell 1
  go_wp2_with fail
  have hrr : (w2.alloc (.mapIter (some b) 1 #[] 1)).heap[w2.heap.size]? = some (.mapIter (some b) 1 #[] 1) := (Go.MapKept.heap_alloc w2 _).1
  have X3 := X2.alloc (.mapIter (some b) 1 #[] 1)
  have M3 := M2.alloc (.mapIter (some b) 1 #[] 1)
  have I3 := I2.alloc (.mapIter (some b) 1 #[] 1)
  have bel3 := bel2.alloc bel2.size (.mapIter (some b) 1 #[] 1)
  have hgr : g < w2.heap.size := I2.lt
  clear X2 M2 I2 bel2 hrg x1
  generalize w2.alloc (.mapIter (some b) 1 #[] 1) = w3 at *
  generalize w2.heap.size = r at *
  have hbr : b ≠ r := by omega
  have hgr2 : g ≠ r := by omega
  have hwr : w.heap.size ≠ r := by omega
  refine wp_loop_rounds 2 ?_
  rw [rounds_succ]
  obtain ⟨E, hE⟩ : ∃ E : Array MapEntry, E = #[⟨.int .i64 0, .agg (pc i 0 0 ⟨#[]⟩), 0⟩] := ⟨_, rfl⟩
  have hEl : E.toList = [⟨.int .i64 0, .agg (pc i 0 0 ⟨#[]⟩), 0⟩] := by rw [hE]
  have hsz1 : (leftOf E #[]).size = 1 := by rw [hE]; simp [leftOf]
  have hsz2 : (leftOf E (#[].push 0)).size = 0 := by rw [hE]; simp [leftOf]
  have hmem : ∀ e ∈ (leftOf E #[]).toList, e = ⟨.int .i64 0, .agg (pc i 0 0 ⟨#[]⟩), 0⟩ := by rw [hE]; simp [leftOf]
  rw [← hE] at M3
  have hbn : ∀ x ∈ E.toList, x.born < 1 := by rw [hEl]; simp
  have hnd : (E.toList.map (·.born)).Nodup := by rw [hEl]; simp
  have hin : (⟨.int .i64 0, .agg (pc i 0 0 ⟨#[]⟩), 0⟩ : MapEntry) ∈ E.toList := by rw [hEl]; simp
  clear hE hEl
  rcases run_next_at (P := Try.prog) w3 0 r b 1 1 #[] E 1 hrr M3 hbn (Nat.le_refl _) with ⟨hz, _⟩ | ⟨e, he, w4, hw4, hn⟩
  · omega
  obtain rfl := hmem e he
  have M4 : MapB w4 b E 1 := by rcases hw4 with rfl | rfl <;> exact M3
  have X4 : Blk w4 w.heap.size 182 #[.int .i64 0, .map (some b)] := by rcases hw4 with rfl | rfl <;> exact X3
  have I4 : IsBytes w4 g ([]) := by rcases hw4 with rfl | rfl <;> exact I3
  have bel4 : Below w.heap.size w w4 := by rcases hw4 with rfl | rfl; exact bel3; exact bel3.drew
  have hr4 : w4.heap[r]? = some (.mapIter (some b) 1 #[] 1) := by rcases hw4 with rfl | rfl <;> exact hrr
  have hset := Go.MapKept.heap_set (o' := .mapIter (some b) 1 (#[].push 0) 1) hr4
  have M5 : MapB (setBlock w4 r (.mapIter (some b) 1 (#[].push 0) 1)) b E 1 := (hset.2 b hbr).trans M4
  have X5 : Blk (setBlock w4 r (.mapIter (some b) 1 (#[].push 0) 1)) w.heap.size 182 #[.int .i64 0, .map (some b)] := (hset.2 _ hwr).trans X4
  have I5 : IsBytes (setBlock w4 r (.mapIter (some b) 1 (#[].push 0) 1)) g ([]) := ⟨by rw [MapB.size]; exact I4.lt, fun j hj => ⟨(World.cell?_of_block (a := ⟨g, j, none⟩) (hset.2 g hgr2)).trans (I4.2 j hj).1, (World.frozen?_of_block (a := ⟨g, j, none⟩) (hset.2 g hgr2)).trans (I4.2 j hj).2⟩⟩
  have bel5 : Below w.heap.size w (setBlock w4 r (.mapIter (some b) 1 (#[].push 0) 1)) := ⟨bel4.os, bel4.tape, bel4.output, by rw [MapB.size]; exact bel4.size, fun k hk => (hset.2 k (by omega)).trans (bel4.block k hk)⟩
  have hr5 := hset.1
  have hn2 : (Instr.next (.pointer (some ⟨r, 0, none⟩)) false 0).run Try.prog w3 = .ok (.tuple #[.bool true, .int .i64 0, .agg (pc i 0 0 ⟨#[]⟩)]) (setBlock w4 r (.mapIter (some b) 1 (#[].push 0) 1)) := hn
  have hent := run_entry_at (P := Try.prog) (setBlock w4 r (.mapIter (some b) 1 (#[].push 0) 1)) r b 1 #[] E 1 ⟨.int .i64 0, .agg (pc i 0 0 ⟨#[]⟩), 0⟩ hr5 M5 hin hnd
  clear hn hset hr4 bel4 I4 X4 M4 hw4 he hmem hrr M3 I3 X3 bel3
  have hr5' : (setBlock w4 r (.mapIter (some b) 1 (#[].push 0) 1)).heap[r]? = some (.mapIter (some b) 1 (#[].push 0) 1) := hr5
  have H5 := Lib.hid hr5'
  clear hr5'
  clear hr5
  generalize setBlock w4 r (.mapIter (some b) 1 (#[].push 0) 1) = w5 at *
  have hent2 : (Instr.entry (.pointer (some ⟨r, 0, none⟩))).run Try.prog w5 = .ok (.tuple #[.int .i64 0, .agg #[.int .u32 i, .int .i64 0, .int .i64 0, .string ⟨#[]⟩]]) w5 := hent
  clear hent
  go_upto_region 6 with (fail)
  have P6 := Blk.new w5 177 #[.int .u32 i, .int .i64 0, .int .i64 0, .string ⟨#[]⟩]
  have X6 := X5.alloc (.cells #[.int .u32 i, .int .i64 0, .int .i64 0, .string ⟨#[]⟩] 177)
  have M6 := M5.alloc (.cells #[.int .u32 i, .int .i64 0, .int .i64 0, .string ⟨#[]⟩] 177)
  have I6 := I5.alloc (.cells #[.int .u32 i, .int .i64 0, .int .i64 0, .string ⟨#[]⟩] 177)
  have bel6 := bel5.alloc bel5.size (.cells #[.int .u32 i, .int .i64 0, .int .i64 0, .string ⟨#[]⟩] 177)
  have hrl : r < w5.heap.size := (Array.getElem?_eq_some_iff.1 H5.out).1
  have hr6 : (w5.alloc (.cells #[.int .u32 i, .int .i64 0, .int .i64 0, .string ⟨#[]⟩] 177)).heap[r]? = some (.mapIter (some b) 1 (#[].push 0) 1) := ((Go.MapKept.heap_alloc w5 _).2 r hrl).trans H5.out
  have H6 := Lib.hid hr6
  have hgp : g < w5.heap.size := I5.lt
  clear X5 M5 I5 bel5 H5 hr6 hent2 hn2
  generalize w5.alloc (.cells #[.int .u32 i, .int .i64 0, .int .i64 0, .string ⟨#[]⟩] 177) = w6 at *
  generalize w5.heap.size = p at *
  have p3 : w6.cell? ⟨p, 3, none⟩ = some (.string ⟨#[]⟩) := P6.cell 3
  have hcp := fun (W : World) (I : IsBytes W g []) ty => run_copy_at (P := Try.prog) W 45 9 ty 5 g 0 0 ⟨#[]⟩ 0 Try.underlying45 (by kernel_rfl) (Nat.le_refl _) I (Nat.le_refl _)
  have hcp6 := hcp w6.drew I6.drew
  clear hcp
  go_region
  all_goals
    have I7 : IsBytes (w6.drew.setCells g 0 []) g [] := I6.drew
    have X7 := blk_setCells X6.drew (show w.heap.size ≠ g by omega) 0 []
    have M7 : MapB (w6.drew.setCells g 0 []) b E 1 := (heap_setCells (show b ≠ g by omega) _ _ _).trans M6
    have hr7 : (w6.drew.setCells g 0 []).heap[r]? = some (.mapIter (some b) 1 (#[].push 0) 1) := (heap_setCells (show r ≠ g by omega) _ _ _).trans H6.out
    have bel7 : Below w.heap.size w (w6.drew.setCells g 0 []) := below_setCells bel6.drew (by omega) _ _
    clear hcp6 I6 X6 M6 H6 bel6 p3 P6
    generalize w6.drew.setCells g 0 [] = w7 at *
    have hn7 : (Instr.next (.pointer (some ⟨r, 0, none⟩)) false 0).run Try.prog w7 = .ok (.tuple #[.bool false]) w7 := by
      rcases run_next_at (P := Try.prog) w7 0 r b 1 1 (#[].push 0) E 1 hr7 M7 hbn (Nat.le_refl _) with ⟨_, h⟩ | ⟨e, he, _⟩
      · exact h
      · exfalso
        have : (leftOf E (#[].push 0)).toList = [] := List.eq_nil_of_length_eq_zero (by simpa using hsz2)
        rw [this] at he
        cases he
    have x0 : w7.cell? ⟨w.heap.size, 0, none⟩ = some (.int .i64 0) := X7.cell 0
    have hcv : ∀ W : World, IsBytes W g [] → (convert 45 9 (.slice (some ⟨g, 0, none⟩) 0 0)).run Try.prog W = .ok (.string ⟨#[]⟩) W := fun W I => conv_bytes Try.underlying45 (by kernel_rfl) Try.underlying9 I 0 0 rfl
    have hcv1 := hcv w7 I7
    have hcv2 := hcv w7.drew I7.drew
    go_wp2_with fail
    rw [rounds_succ]
    go_wp2_with fail
    go_region
    all_goals
      go_wp2_with fail
      go_ret2
      exact ⟨by first | rfl | simp, bel7.drew⟩
theorem whole_any (b n o : Nat) (i : Int) (d : ByteArray) (w : World) (M : MapB w b #[⟨.int .i64 o, .agg (pc i n o d), 0⟩] 1) (h0 : o < n ∨ n = 0) (h1 : n ≤ 20000) (h2 : o + d.size ≤ n) :
    Calls Try.prog 92 #[.agg #[.int .i64 n, .map (some b)]] w fun e w' => e = .returned (.tuple #[.string (whl n o d), .bool (decide (d.size = n))]) ∧ Below w.heap.size w w' := by
  rcases h0 with h0 | h0
  · exact whole_lt b n o i d w M h0 h1 h2
  · subst h0
    obtain rfl : o = 0 := by omega
    have hd : d = ⟨#[]⟩ := by
      apply ByteArray.ext
      apply Array.eq_empty_of_size_eq_zero
      show d.size = 0
      omega
    subst hd
    exact whole_zero b i w M
end Go.Proofs.Ythddacgdmngfhaa.fil
