/- Layer 42: packets of few ways. -/
import Derived.Test.YtdocphkpeonldaaStoG
import Derived.Test.YtdocphkpeonldaaStoD
import Derived.Deep.AppendLies
namespace Go.Proofs.Ytdocphkpeonldaa.storm
open Go.Sort (grow)
open Go.ChangeShapes Go.WideShapes Go.ChangeAt Go.RowKit kit
set_option maxRecDepth 100000

/-- A row of packets in memory. -/
structure RowI (w : World) (a : Addr) (len : Nat) (E : Nat → It) : Prop where
  lt : 0 < len → a.block < w.heap.size
  cell : ∀ i, i < len → ∀ (j : Nat) u, (ir (E i))[j]? = some u → w.cell? ((a.add (i * 6)).add j) = some u
theorem addr0 (a : Addr) : a.add 0 = a := by
  obtain ⟨b, o, e⟩ := a
  cases e <;> rfl
theorem add_block (a : Addr) (i : Nat) : (a.add i).block = a.block := by unfold Addr.add; split <;> rfl
theorem RowI.below {w w' : World} {a : Addr} {len B : Nat} {E : Nat → It} (h : RowI w a len E) (hb : Below B w w') (hB : 0 < len → a.block < B) : RowI w' a len E :=
  ⟨fun h0 => Nat.lt_of_lt_of_le (h.lt h0) hb.size, fun i hi j u hu => (hb.cell (p := (a.add (i * 6)).add j) (by rw [add_block, add_block]; exact hB (by omega))).trans (h.cell i hi j u hu)⟩
/-- A packet brought near; the first ones. -/
def nr (x : It) : It := ⟨x.leg % 2, 0, x.fr % 2, x.to % 2, ⟨#[120]⟩, x.bent⟩
def nl (E : Nat → It) : Nat → List It
  | 0 => []
  | n + 1 => nl E n ++ [nr (E n)]
theorem nl_len (E : Nat → It) (n : Nat) : (nl E n).length = n := by
  induction n with
  | zero => rfl
  | succ n ih => simp [nl, ih]
theorem nl_at (E : Nat → It) (n k : Nat) (hk : k < n) : (nl E n).getD k it0 = nr (E k) := by
  induction n with
  | zero => exact absurd hk (Nat.not_lt_zero k)
  | succ n ih =>
    by_cases h : k < n
    · have e : (nl E (n + 1)).getD k it0 = (nl E n).getD k it0 := by
        show (nl E n ++ [nr (E n)]).getD k it0 = _
        simp [List.getD, List.getElem?_append_left (show k < (nl E n).length by rw [nl_len]; exact h)]
      rw [e]
      exact ih h
    · obtain rfl : k = n := by omega
      show (nl E k ++ [nr (E k)]).getD k it0 = nr (E k)
      simp [List.getD, List.getElem?_append_right (show (nl E k).length ≤ k by rw [nl_len]; exact Nat.le_refl k), nl_len]
theorem nr_way (x : It) : ∃ l f t : Int, iw (nr x) = wy l f t ∧ (l = 0 ∨ l = 1) ∧ (f = 0 ∨ f = 1) ∧ (t = 0 ∨ t = 1) ∧ (nr x).leg = l ∧ (nr x).fr = f ∧ (nr x).to = t :=
  ⟨x.leg % 2, x.fr % 2, x.to % 2, rfl, by omega, by omega, by omega, rfl, rfl, rfl⟩
theorem nr_wf (x : It) : WfI (nr x) := by
  obtain ⟨l, f, t, _, h1, h2, h3, e1, e2, e3⟩ := nr_way x
  constructor
  · rw [e1]; rcases h1 with rfl | rfl <;> rfl
  · rw [e2]; rcases h2 with rfl | rfl <;> rfl
  · rw [e3]; rcases h3 with rfl | rfl <;> rfl
theorem infoI : (Try.prog.info? 70).map (fun i => (i.zero, i.size, i.bytes)) = some (some (.agg #[.int .i64 0, .int .i64 0, .int .u32 0, .int .u32 0, .string ByteArray.empty, .bool false]), 6, 48) := by kernel_rfl
theorem ir_one (x : It) : ∀ u ∈ (ir x).toList, u.oneCell' = true := by
  intro u hu
  simp [ir] at hu
  rcases hu with rfl | rfl | rfl | rfl | rfl | rfl <;> rfl
theorem u32_bit (x : Int) (h : (Lit.int .u32 x).wf = true) : bits .and .u32 x 1 = x % 2 := by
  obtain ⟨h1, h2⟩ := bounds_u32 h
  obtain ⟨n, rfl⟩ : ∃ n : Nat, x = n := ⟨x.toNat, by omega⟩
  have := u32_and_nat n 1 (by omega) (by omega)
  rw [show ((1 : Nat) : Int) = 1 from rfl, Nat.and_one_is_mod] at this
  rw [this]
  omega
theorem i64_bit (x : Int) : bits .and .i64 x 1 = x % 2 := by
  have := i64_mask x 1 (by omega)
  simpa using this
set_option maxHeartbeats 4000000 in
theorem items_any (oa : Option Addr) (a : Addr) (len cap : Nat) (E : Nat → It) (w : World) (hlc : len ≤ cap) (hcm : cap ≤ maxLen) (hoa : 0 < len → oa = some a) (hr : RowI w a len E) (hwf : ∀ i, i < len → (Lit.int .i64 (E i).leg).wf = true ∧ (Lit.int .u32 (E i).fr).wf = true ∧ (Lit.int .u32 (E i).to).wf = true) :
    Calls Try.prog 32 #[.slice oa len cap] w fun e w' => ∃ (n g c : Nat), e = .returned (.slice (some ⟨g, 0, none⟩) n c) ∧ n ≤ len ∧ n ≤ 9 ∧ w.heap.size ≤ g ∧ n ≤ c ∧ c ≤ maxLen ∧ Net w' g (nl E n) ∧ Below w.heap.size w w' := by
  obtain ⟨i0, hi, hz0, hz1, hz2⟩ := info_parts infoI
  unfold maxLen at hcm
  obtain ⟨nn, hnn, hn1, hn2⟩ : ∃ n : Nat, n = min len 9 ∧ n ≤ len ∧ n ≤ 9 := ⟨min len 9, rfl, by omega, by omega⟩
  have HR := Lib.hid hr
  have HNN := Lib.hid hnn
  have HWF := Lib.hid hwf
  have hal := hr.lt
  clear hr hnn hwf
  go_enter Try.func32, Try.ntmps32
  go_upto_region 3 with (fail)
  have B0 := Blk.new w 70 #[]
  have bel0 := (Below.refl w.heap.size w).alloc (Nat.le_refl _) (.cells #[] 70)
  have hs0 : w.heap.size < (w.alloc (.cells #[] 70)).heap.size := by simp
  generalize w.alloc (.cells #[] 70) = w0 at *
  go_loopw [3, 4] (fun s3 s4 wr => ∃ (n g c : Nat), n ≤ nn ∧ s4 = .int .i64 n ∧ s3 = .slice (some ⟨g, 0, none⟩) n c ∧ wr.ownsRow w.heap.size 70 6 (.slice (some ⟨g, 0, none⟩) n c) n (cellsI (nl E n)) ∧ Below w.heap.size w wr) (fun _ s4 _ => nn - (intOf s4).toNat)
  case atStart => exact ⟨0, w.heap.size, 0, by omega, rfl, rfl, own_none B0 (Nat.le_refl _) (by unfold maxLen; omega) rfl, bel0⟩
  case round =>
    clear B0 bel0 hs0
    obtain ⟨n, g, c, hn, rfl, rfl, own, bel⟩ := hrel
    by_cases hlt : n < nn
    · have hl1 : n < len := by omega
      obtain rfl := hoa (by omega)
      have hl2 : n < 9 := by omega
      have hl3 : (n : Int) < (len : Int) := by omega
      have R1 := HR.out.below bel (fun h => hal h)
      obtain ⟨wf1, wf2, wf3⟩ := HWF.out n hl1
      have hlE := R1.cell n hl1
      obtain ⟨x, hx⟩ : ∃ x, E n = x := ⟨_, rfl⟩
      rw [hx] at hlE wf1 wf2 wf3
      have HE := Lib.hid (show nr (E n) = nr x by rw [hx])
      clear hx R1
      obtain ⟨xl, xn, xf, xt, xs, xb⟩ := x
      have d0 : wr.cell? (a.add (n * 6)) = some (.int .i64 xl) := by
        have := hlE 0 _ rfl
        rwa [addr0] at this
      have d2 : wr.cell? { block := (a.add (n * 6)).block, off := (a.add (n * 6)).off + 2 } = some (.int .u32 xf) := by
        have := hlE 2 _ rfl
        exact this
      have d3 : wr.cell? { block := (a.add (n * 6)).block, off := (a.add (n * 6)).off + 3 } = some (.int .u32 xt) := by
        have := hlE 3 _ rfl
        exact this
      have d5 : wr.cell? { block := (a.add (n * 6)).block, off := (a.add (n * 6)).off + 5 } = some (.bool xb) := by
        have := hlE 5 _ rfl
        exact this
      clear hlE
      have b0 := i64_bit xl
      have b2 := u32_bit xf wf2
      have b3 := u32_bit xt wf3
      have hab : (a.add (n * 6)).block < wr.heap.size := by rw [add_block]; have := hal (by omega); have := bel.size; omega
      have hge : some (a.add (n * 6)).block ≠ (Value.slice (some ⟨g, 0, none⟩) n c).ownBlock := fun q => by
        have h1 := own_ge own _ q.symm
        rw [add_block] at h1
        have := hal (by omega)
        omega
      obtain ⟨l, hl⟩ : ∃ l, xl % 2 = l := ⟨_, rfl⟩
      obtain ⟨f, hf⟩ : ∃ f, xf % 2 = f := ⟨_, rfl⟩
      obtain ⟨t, ht⟩ : ∃ t, xt % 2 = t := ⟨_, rfl⟩
      rw [hl] at b0
      rw [hf] at b2
      rw [ht] at b3
      have HIR := Lib.hid (show ir (nr (E n)) = #[.int .i64 l, .int .i64 0, .int .u32 f, .int .u32 t, .string ⟨#[120]⟩, .bool xb] by rw [HE.out, ← hl, ← hf, ← ht]; rfl)
      clear hl hf ht wf1 wf2 wf3 HE
      have al := (Below.refl wr.heap.size wr).alloc (Nat.le_refl _) (.cells #[.int .i64 l, .int .i64 0, .int .u32 f, .int .u32 t, .string ⟨#[120]⟩, .bool xb] 70)
      have own4 := Lib.hid (own_all (w' := (wr.alloc (.cells #[.int .i64 l, .int .i64 0, .int .u32 f, .int .u32 t, .string ⟨#[120]⟩, .bool xb] 70)).drew) own al.drew)
      have h63 : n + 1 ≤ maxLen := by unfold maxLen; omega
      have hbs := bel.size
      have hone : ∀ u ∈ (#[.int .i64 l, .int .i64 0, .int .u32 f, .int .u32 t, .string ⟨#[120]⟩, .bool xb] : Array Value).toList, u.oneCell' = true := ir_one ⟨l, 0, f, t, ⟨#[120]⟩, xb⟩
      go_upto_region 5 with (fail)
      generalize hap : a.add (n * 6) = ap at *
      go_region_held3 (fun w' => w'.cell? ap = some (.int .i64 xl) ∧ w'.cell? { block := ap.block, off := ap.off + 2 } = some (.int .u32 xf) ∧ w'.cell? { block := ap.block, off := ap.off + 3 } = some (.int .u32 xt) ∧ w'.cell? { block := ap.block, off := ap.off + 5 } = some (.bool xb))
        (first
          | go_keep
          | (go_split_ands
             refine ⟨?_, ?_, ?_, ?_⟩
             · (refine (hgrow.cell_far _ (by simp; omega) hge).trans ?_; assumption)
             · (refine (hgrow.cell_far { block := ap.block, off := _ } (by simp; omega) hge).trans ?_; assumption)
             · (refine (hgrow.cell_far { block := ap.block, off := _ } (by simp; omega) hge).trans ?_; assumption)
             · (refine (hgrow.cell_far { block := ap.block, off := _ } (by simp; omega) hge).trans ?_; assumption)))
        ((refine step_append_lies _ (by rfl) _ _ _ (by rfl) w.heap.size 70 i0 (.agg #[.int .i64 0, .int .i64 0, .int .u32 0, .int .u32 0, .string ByteArray.empty, .bool false]) 6 48 Try.underlying56 hi hz0 hz1 hz2 (by rfl) (by decide) (.slice (some ⟨g, 0, none⟩) n c) n (cellsI (nl E n)) (by rfl) own4.out ⟨wr.heap.size, 0, none⟩ 1 1 (#[.int .i64 l, .int .i64 0, .int .u32 f, .int .u32 t, .string ⟨#[120]⟩, .bool xb] : Array Value).toList (by rfl) (by rfl) (World.news_of_block (cs := #[.int .i64 l, .int .i64 0, .int .u32 f, .int .u32 t, .string ⟨#[120]⟩, .bool xb]) (heap_alloc_new _ _)) hone (by omega) h63 (by omega) (by simp; omega) (wr.heap.size + 1) (by simp) ?_; intro g8 c8 w8 own8 hgrow hat hlt8))
      have bel8 : Below w.heap.size w w8 := ((bel.alloc bel.size _).drew).grown hgrow (by simp; omega) (fun k hk => own_ge own k hk)
      have own9 : w8.ownsRow w.heap.size 70 6 (.slice (some ⟨g8, 0, none⟩) (n + 1) c8) (n + 1) (cellsI (nl E (n + 1))) := by
        show World.ownsRow _ _ _ _ _ _ (cellsI (nl E n ++ [nr (E n)]))
        rw [cellsI_snoc, HIR.out]
        exact own8
      have HO9 := Lib.hid own9
      clear own8 own9 own4 hgrow hat hlt8 d0 d2 d3 d5
      go_wp2_with fail
      go_roundw
      case rel => exact ⟨n + 1, g8, c8, by omega, by go_num, rfl, HO9.out, bel8⟩
      case measure => simp [intOf]; omega
    · obtain rfl : n = nn := by omega
      have hd : (decide ((n : Int) < (len : Int)) && decide ((n : Int) < 9)) = false := by have := HNN.out; simp; omega
      have hgl : g < wr.heap.size := own_lt own g rfl
      have hgw : w.heap.size ≤ g := own_ge own g rfl
      obtain ⟨_, _, _, hc1, hc2, _⟩ := own_blk own
      have C0 : Net wr g (nl E n) := ⟨hgl, fun k hk => cel_of_cells (Cel.of_owns own) k hk⟩
      have HC := Lib.hid C0
      clear own C0 hi hz0 hz1 hz2 i0
      rcases (by have := HNN.out; omega : (n < len ∧ ¬ n < 9) ∨ ¬ n < len) with ⟨hq, hq2⟩ | hq
      all_goals
        go_wp2_with fail
        go_ret
        exact ⟨n, g, c, rfl, hn1, hn2, hgw, hc1, hc2, HC.out, bel⟩
end Go.Proofs.Ytdocphkpeonldaa.storm
