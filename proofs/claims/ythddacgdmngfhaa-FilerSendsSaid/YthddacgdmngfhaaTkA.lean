/- Layer 40: the bytes of an object of which some pieces came, in whatever order they are looked at. -/
import Derived.Test.YthddacgdmngfhaaTkM
namespace Go.Proofs.Ythddacgdmngfhaa.fil
open Go.Sort (grow)
open Go.ChangeShapes Go.WideShapes Go.ChangeAt Go.RowKit kit oct byt
open Go.ChangeMaps (setBlock)
set_option maxRecDepth 100000

theorem isBytes_setBlock {w : World} {r g : Nat} {o o' : Obj} {l : List UInt8} (I : IsBytes w g l) (hr : w.heap[r]? = some o) (hne : g ≠ r) : IsBytes (setBlock w r o') g l :=
  have hset := Go.MapKept.heap_set (o' := o') hr
  ⟨by rw [MapB.size]; exact I.lt, fun j hj => ⟨(World.cell?_of_block (a := ⟨g, j, none⟩) (hset.2 g hne)).trans (I.2 j hj).1, (World.frozen?_of_block (a := ⟨g, j, none⟩) (hset.2 g hne)).trans (I.2 j hj).2⟩⟩
set_option maxHeartbeats 4000000 in
theorem whole_gen (i : Int) (D : ByteArray) (n b : Nat) (es : Array MapEntry) (S : List Nat) (w : World) (M : MapB w b es S.length) (hes : es.toList = ents i D 0 S) (hS : S.Nodup) (hD : D.size = n) (hlt : ∀ k ∈ S, k * 500 < n) (hn0 : 0 < n) (h1 : n ≤ 20000) :
    Calls Try.prog 92 #[.agg #[.int .i64 n, .map (some b)]] w fun e w' => ∃ X : ByteArray, e = .returned (.tuple #[.string X, .bool (decide (cov n S = n))]) ∧ (cov n S = n → X = D) ∧ Below w.heap.size w w' := by
  obtain ⟨i0, hi, hz0, hz1, hz2⟩ := info_parts infoB
  have hbl := M.lt
  have X1 := Blk.new w 182 #[.int .i64 n, .map (some b)]
  have M1 := M.alloc (.cells #[.int .i64 n, .map (some b)] 182)
  have bel1 := (Below.refl w.heap.size w).alloc (Nat.le_refl _) (.cells #[.int .i64 n, .map (some b)] 182)
  have HS := Lib.hid (And.intro hes (And.intro hS (And.intro hD (And.intro hlt hn0))))
  clear hes hS hD hlt hn0
  go_enter Try.func92, Try.ntmps92
  go_upto_region 1 with (fail)
  clear M
  generalize w.alloc (.cells #[.int .i64 n, .map (some b)] 182) = w1 at *
  have x0 : w1.cell? ⟨w.heap.size, 0, none⟩ = some (.int .i64 n) := X1.cell 0
  have hx1 := X1.lt
  go_upto_region 2 with (at_make; refine wpList_make_full _ rfl _ _ 45 rfl w.heap.size 5 i0 (.int .u8 0) 1 Try.underlying45 hi hz0 hz1 .i64 .i64 n n n rfl rfl rfl rfl (by rw [hz2]; omega) (by unfold maxLen; omega) bel1.size ?_; intro w2 own2 grow2)
  have I2 := noughts_of own2
  have hb2 : Below w1.heap.size w1 w2 := ⟨grow2.os, grow2.tape, grow2.output, grow2.size, fun k hk => grow2.block k hk (by simp)⟩
  have X2 := X1.below hb2 hx1
  have M2 := M1.below hb2 M1.lt
  have bel2 := bel1.trans (hb2.mono bel1.size)
  have hgw : w.heap.size < w1.heap.size := hx1
  have hbw : b < w1.heap.size := M1.lt
  clear own2 grow2 hb2 X1 M1 bel1 x0 hx1
  generalize w1.heap.size = g at *
  have hrg := run_range_map (P := Try.prog) w2 180 3 177 b es S.length uMP M2
  have x1 : w2.cell? ⟨w.heap.size, 1, none⟩ = some (.map (some b)) := X2.cell 1
  go_wp2_with fail
  have hrr : (w2.alloc (.mapIter (some b) S.length #[] S.length)).heap[w2.heap.size]? = some (.mapIter (some b) S.length #[] S.length) := (Go.MapKept.heap_alloc w2 _).1
  have X3 := X2.alloc (.mapIter (some b) S.length #[] S.length)
  have M3 := M2.alloc (.mapIter (some b) S.length #[] S.length)
  have I3 := I2.alloc (.mapIter (some b) S.length #[] S.length)
  have bel3 := bel2.alloc bel2.size (.mapIter (some b) S.length #[] S.length)
  have hgr : g < w2.heap.size := I2.lt
  clear X2 M2 I2 bel2 hrg x1
  generalize w2.alloc (.mapIter (some b) S.length #[] S.length) = w3 at *
  generalize w2.heap.size = r at *
  have hbr : b ≠ r := by omega
  have hgr2 : g ≠ r := by omega
  have hwr : w.heap.size ≠ r := by omega
  go_loopw [5] (fun s5 wr => ∃ (T : List Nat) (l : List UInt8) (seen : Array Nat) (c0 : Nat), s5 = .int .i64 (cov n T : Nat) ∧ Lk n D S seen T l ∧ IsBytes wr g l ∧ MapB wr b es S.length ∧ Blk wr w.heap.size 182 #[.int .i64 n, .map (some b)] ∧ wr.heap[r]? = some (.mapIter (some b) S.length seen c0) ∧ S.length ≤ c0 ∧ Below w.heap.size w wr) (fun s5 _ => n - (intOf s5).toNat)
  case atStart => exact ⟨[], _, #[], S.length, by rw [cov_nil]; rfl, Lk.nil (by simp), I3, M3, X3, hrr, Nat.le_refl _, bel3⟩
  case round =>
    clear hrr X3 M3 I3 bel3
    obtain ⟨T, l, seen, c0, rfl, L, I3, M3, X3, hrr, hc0, bel3⟩ := hrel
    obtain ⟨hes, hS, hD, hlt, hn0⟩ := HS.out
    have hbn : ∀ x ∈ es.toList, x.born < S.length := fun x hx => by
      rw [hes] at hx
      obtain ⟨j, k, h1, h2⟩ := ents_mem i D S 0 x hx
      rw [h2]
      have := (List.getElem?_eq_some_iff.1 h1).1
      show 0 + j < _
      omega
    have hnd : (es.toList.map (·.born)).Nodup := by rw [hes]; exact ents_nodup i D S 0
    rcases run_next_at (P := Try.prog) wr 0 r b S.length c0 seen es S.length hrr M3 hbn hc0 with ⟨hz, hn⟩ | ⟨e, he, w4, hw4, hn⟩
    · have hall : ∀ j k, S[j]? = some k → seen.contains j = true := fun j k hj => by
        cases hc : seen.contains j with
        | true => rfl
        | false =>
          exfalso
          have hm : ∃ e ∈ ents i D 0 S, e.born = j := by
            have hb : (ents i D 0 S).map (·.born) = List.range' 0 S.length := ents_born i D S 0
            have : j ∈ (ents i D 0 S).map (·.born) := by
              rw [hb, List.mem_range'_1]
              have := (List.getElem?_eq_some_iff.1 hj).1
              omega
            obtain ⟨e, h1, h2⟩ := List.mem_map.1 this
            exact ⟨e, h1, h2⟩
          obtain ⟨e, h1, h2⟩ := hm
          have : e ∈ (leftOf es seen) := by
            unfold leftOf
            rw [Array.mem_filter]
            refine ⟨by rw [← Array.mem_toList_iff, hes]; exact h1, ?_⟩
            rw [h2, hc]
            rfl
          have h0 : leftOf es seen = #[] := Array.eq_empty_of_size_eq_zero hz
          rw [h0] at this
          simp at this
      obtain ⟨hcv, hfl⟩ := L.all hD hall
      rw [hcv]
      have x0 : wr.cell? ⟨w.heap.size, 0, none⟩ = some (.int .i64 n) := X3.cell 0
      obtain ⟨X, hX⟩ : ∃ X : ByteArray, (⟨l.toArray⟩ : ByteArray) = X := ⟨_, rfl⟩
      have hcvr : ∀ W : World, IsBytes W g l → (convert 45 9 (.slice (some ⟨g, 0, none⟩) n n)).run Try.prog W = .ok (.string X) W := fun W I => by
        rw [← hX]
        exact conv_bytes Try.underlying45 (by kernel_rfl) Try.underlying9 I n n L.len.symm
      have hcv1 := hcvr wr I3
      have hcv2 := hcvr wr.drew I3.drew
      have hdi : ((cov n S : Int) == (n : Int)) = decide (cov n S = n) := by
        by_cases q : cov n S = n
        · simp [q]
        · have : ¬ (cov n S : Int) = n := by omega
          simp [q, this]
      have HF := Lib.hid (And.intro hX hfl)
      have HDI := Lib.hid hdi
      clear hX hfl hes hS hD hlt hbn hnd hz hall hcv hcvr hdi L
      go_wp2_with fail
      go_region
      all_goals
        go_wp2_with fail
        go_ret2
        exact ⟨X, by simp [HDI.out], fun q => (by rw [← HF.out.1, HF.out.2 q]), bel3.drew⟩
    · have he' : e ∈ es.toList ∧ seen.contains e.born = false := by
        unfold leftOf at he
        rw [Array.mem_toList_iff, Array.mem_filter] at he
        exact ⟨by rw [Array.mem_toList_iff]; exact he.1, by simpa using he.2⟩
      have hin := he'.1
      rw [hes] at hin
      obtain ⟨j, q, hjq, rfl⟩ := ents_mem i D S 0 e hin
      have hin2 := he'.1
      have hsj : seen.contains j = false := by have := he'.2; rwa [Nat.zero_add] at this
      obtain ⟨hqT, L'⟩ := L.cons hS hD hjq hsj (hlt q (List.mem_of_getElem? hjq))
      have hq1 := hlt q (List.mem_of_getElem? hjq)
      have hcc := cov_cons q T hqT n
      have hcl := cov_le n (q :: T)
      have hds := pcD_size D q
      have hfit : q * 500 + (pcD D q).data.toList.length ≤ l.length := by
        have : (pcD D q).data.toList.length = (pcD D q).size := by simp
        rw [this, L.len]
        omega
      have M4 : MapB w4 b es S.length := by rcases hw4 with rfl | rfl <;> exact M3
      have X4 : Blk w4 w.heap.size 182 #[.int .i64 n, .map (some b)] := by rcases hw4 with rfl | rfl <;> exact X3
      have I4 : IsBytes w4 g l := by rcases hw4 with rfl | rfl <;> exact I3
      have bel4 : Below w.heap.size w w4 := by rcases hw4 with rfl | rfl; exact bel3; exact bel3.drew
      have hr4 : w4.heap[r]? = some (.mapIter (some b) S.length seen c0) := by rcases hw4 with rfl | rfl <;> exact hrr
      rw [Nat.zero_add] at hn hin2
      have hset := Go.MapKept.heap_set (o' := .mapIter (some b) S.length (seen.push j) S.length) hr4
      have M5 : MapB (setBlock w4 r (.mapIter (some b) S.length (seen.push j) S.length)) b es S.length := (hset.2 b hbr).trans M4
      have X5 : Blk (setBlock w4 r (.mapIter (some b) S.length (seen.push j) S.length)) w.heap.size 182 #[.int .i64 n, .map (some b)] := (hset.2 _ hwr).trans X4
      have I5 : IsBytes (setBlock w4 r (.mapIter (some b) S.length (seen.push j) S.length)) g l := isBytes_setBlock I4 hr4 hgr2
      have bel5 : Below w.heap.size w (setBlock w4 r (.mapIter (some b) S.length (seen.push j) S.length)) := ⟨bel4.os, bel4.tape, bel4.output, by rw [MapB.size]; exact bel4.size, fun k hk => (hset.2 k (by omega)).trans (bel4.block k hk)⟩
      have hr5 : (setBlock w4 r (.mapIter (some b) S.length (seen.push j) S.length)).heap[r]? = some (.mapIter (some b) S.length (seen.push j) S.length) := hset.1
      have hent := run_entry_at (P := Try.prog) (setBlock w4 r (.mapIter (some b) S.length (seen.push j) S.length)) r b S.length seen es S.length ⟨.int .i64 ((q * 500 : Nat) : Int), .agg (pc i D.size ((q * 500 : Nat) : Int) (pcD D q)), j⟩ hr5 M5 hin2 hnd
      clear hset hr4 bel4 I4 X4 M4 hw4 he he' hin hin2 hrr M3 I3 X3 bel3 hbn hnd hes hS hlt hsj hjq L
      have H5 := Lib.hid hr5
      clear hr5
      generalize setBlock w4 r (.mapIter (some b) S.length (seen.push j) S.length) = w5 at *
      obtain ⟨d, hd⟩ : ∃ d, pcD D q = d := ⟨_, rfl⟩
      obtain ⟨o, ho⟩ : ∃ o : Nat, q * 500 = o := ⟨_, rfl⟩
      rw [hd, ho] at L' hds hfit hent hn
      rw [ho] at hq1 hcc
      rw [hD] at hent hn hds
      have HL := Lib.hid (And.intro L' (And.intro hcc (And.intro hcl hds)))
      have hent2 : (Instr.entry (.pointer (some ⟨r, 0, none⟩))).run Try.prog w5 = .ok (.tuple #[.int .i64 o, .agg #[.int .u32 i, .int .i64 n, .int .i64 o, .string d]]) w5 := hent
      have hn2 : (Instr.next (.pointer (some ⟨r, 0, none⟩)) false 0).run Try.prog wr = .ok (.tuple #[.bool true, .int .i64 o, .agg #[.int .u32 i, .int .i64 n, .int .i64 o, .string d]]) w5 := hn
      have hC : cov n T + d.size = cov n (q :: T) := by omega
      have hC1 : cov n (q :: T) ≤ 20000 := by omega
      have hd0 : 0 < d.size := by omega
      have hC2 : cov n (q :: T) ≤ n := hcl
      have hdn : o + d.size ≤ n := by omega
      clear hent hn hcc hcl hds hD L' hqT
      generalize cov n T = CT at *
      go_upto_region 6 with (fail)
      have P6 := Blk.new w5 177 #[.int .u32 i, .int .i64 n, .int .i64 o, .string d]
      have X6 := X5.alloc (.cells #[.int .u32 i, .int .i64 n, .int .i64 o, .string d] 177)
      have M6 := M5.alloc (.cells #[.int .u32 i, .int .i64 n, .int .i64 o, .string d] 177)
      have I6 := I5.alloc (.cells #[.int .u32 i, .int .i64 n, .int .i64 o, .string d] 177)
      have bel6 := bel5.alloc bel5.size (.cells #[.int .u32 i, .int .i64 n, .int .i64 o, .string d] 177)
      have hrl : r < w5.heap.size := (Array.getElem?_eq_some_iff.1 H5.out).1
      have hr6 : (w5.alloc (.cells #[.int .u32 i, .int .i64 n, .int .i64 o, .string d] 177)).heap[r]? = some (.mapIter (some b) S.length (seen.push j) S.length) := ((Go.MapKept.heap_alloc w5 _).2 r hrl).trans H5.out
      have H6 := Lib.hid hr6
      have hgp : g < w5.heap.size := I5.lt
      clear X5 M5 I5 bel5 H5 hr6 hent2 hn2
      generalize w5.alloc (.cells #[.int .u32 i, .int .i64 n, .int .i64 o, .string d] 177) = w6 at *
      generalize w5.heap.size = p at *
      have p3 : w6.cell? ⟨p, 3, none⟩ = some (.string d) := P6.cell 3
      have hll : l.length = n := by have := HL.out.1.len; rw [laid_len _ _ _ hfit] at this; exact this
      have hcp := fun (W : World) (I : IsBytes W g l) ty => run_copy_at (P := Try.prog) W 45 9 ty 5 g o (n - o) d (n - o) Try.underlying45 (by kernel_rfl) (by omega) I (by omega)
      have hcp6 := hcp w6.drew I6.drew
      have hon : (o : Int) ≤ (n : Int) := by omega
      have hno : ¬ n = o := by omega
      have hwC : IntKind.i64.wrap ((CT : Int) + (d.size : Int)) = ((CT + d.size : Nat) : Int) := by rw [IntKind.wrap_i64]; omega
      clear hcp
      go_region
      all_goals
        have I7 : IsBytes (w6.drew.setCells g o (d.data.toList.map bv)) g (laid l d.data.toList o) := set_cells_at I6.drew d.data.toList o hfit
        have X7 := blk_setCells X6.drew (show w.heap.size ≠ g by omega) o (d.data.toList.map bv)
        have M7 : MapB (w6.drew.setCells g o (d.data.toList.map bv)) b es S.length := (heap_setCells (show b ≠ g by omega) _ _ _).trans M6
        have hr7 : (w6.drew.setCells g o (d.data.toList.map bv)).heap[r]? = some (.mapIter (some b) S.length (seen.push j) S.length) := (heap_setCells (show r ≠ g by omega) _ _ _).trans H6.out
        have bel7 : Below w.heap.size w (w6.drew.setCells g o (d.data.toList.map bv)) := below_setCells bel6.drew (by omega) _ _
        clear hcp6 I6 X6 M6 H6 bel6 p3 P6
        generalize w6.drew.setCells g o (d.data.toList.map bv) = w7 at *
        go_wp2_with fail
        go_roundw
        case rel => exact ⟨q :: T, _, _, S.length, by first | (rw [← hC]; done) | (rw [← hC]; rfl) | (rw [← hC, hwC]; done), HL.out.1, I7, M7, X7, hr7, Nat.le_refl _, bel7⟩
        case measure => first | (simp [intOf]; omega) | (simp only [hwC, intOf]; omega)
end Go.Proofs.Ythddacgdmngfhaa.fil
