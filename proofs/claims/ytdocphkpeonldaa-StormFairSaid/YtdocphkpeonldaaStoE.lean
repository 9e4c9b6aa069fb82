/- Layer 42: numbers drawn of any storm; what is noted of a way. -/
import Derived.Test.YtdocphkpeonldaaStoC
import Derived.OwnWalk
import Derived.Deep.CutBlock
import Derived.Deep.DeepCutAuto
import Derived.Deep.RegionLaw
namespace Go.Proofs.Ytdocphkpeonldaa.storm
open Go.Sort (grow)
open Go.ChangeShapes Go.WideShapes Go.ChangeAt Go.RowKit kit
open Go.WideMaps (KeyLaw)
set_option maxRecDepth 100000

/-- A storm as it stands. -/
structure Stm (w : World) (g mp : Nat) (l d b m : Int) (f : Value → Int) : Prop where
  blk : ∃ x, Blk w g 160 (sr x l d b m mp)
  cnt : Cnt Try.prog 162 w mp f
/-- Two blocks alone turn, and those that come. -/
structure Mv (b0 g mp : Nat) (w w' : World) : Prop where
  two : Two g mp w w'
  bel : Below b0 w w'
section
variable {b0 g mp : Nat} {w w1 w2 : World} {l d b m : Int} {f : Value → Int}
theorem Mv.refl (b0 g mp : Nat) (w : World) : Mv b0 g mp w w := ⟨Two.refl g mp w, Below.refl b0 w⟩
theorem Mv.trans (h : Mv b0 g mp w w1) (k : Mv b0 g mp w1 w2) : Mv b0 g mp w w2 := ⟨h.two.trans k.two, h.bel.trans k.bel⟩
theorem Mv.below (h : Mv b0 g mp w w1) (hb : Below w1.heap.size w1 w2) (hB : b0 ≤ w1.heap.size) : Mv b0 g mp w w2 := ⟨h.two.below hb h.two.size, h.bel.trans (hb.mono hB)⟩
theorem Mv.alloc (h : Mv b0 g mp w w1) (hB : b0 ≤ w1.heap.size) (o : Obj) : Mv b0 g mp w (w1.alloc o) := h.below ((Below.refl _ _).alloc (Nat.le_refl _) o) hB
theorem Mv.drew (h : Mv b0 g mp w w1) : Mv b0 g mp w w1.drew := ⟨h.two.drew, h.bel.drew⟩
theorem Mv.setG (h : Mv b0 g mp w w1) (hg : b0 ≤ g) (o : Nat) (v : Value) : Mv b0 g mp w (w1.setCell ⟨g, o, none⟩ v) := ⟨h.two.setG o v, h.bel.setCell (p := ⟨g, o, none⟩) hg v⟩
theorem Mv.setM (h : Mv b0 g mp w w1) (hm : b0 ≤ mp) {es : Array MapEntry} {c : Nat} (M : MapB w1 mp es c) (es' : Array MapEntry) (c' : Nat) : Mv b0 g mp w (Go.ChangeMaps.setBlock w1 mp (.map es' c')) := ⟨h.two.setM M es' c', M.bel h.bel hm es' c'⟩
/-- A block of the walk's own is written. -/
theorem Mv.setR (h : Mv b0 g mp w w1) {r : Nat} (hr : w.heap.size ≤ r) (hB : b0 ≤ r) (o : Nat) (vs : List Value) : Mv b0 g mp w (w1.setCells r o vs) :=
  ⟨h.two.below (below_setCells (Below.refl r w1) (Nat.le_refl _) o vs) hr, below_setCells h.bel hB o vs⟩
theorem Stm.below {k : Nat} (h : Stm w g mp l d b m f) (hb : Below k w w1) (hg : g < k) (hm : mp < k) : Stm w1 g mp l d b m f := by
  obtain ⟨⟨x, B⟩, C⟩ := h
  exact ⟨⟨x, B.below hb hg⟩, C.below hb hm⟩
theorem Stm.glt (h : Stm w g mp l d b m f) : g < w.heap.size := by obtain ⟨⟨x, B⟩, _⟩ := h; exact B.lt
theorem Stm.mlt (h : Stm w g mp l d b m f) : mp < w.heap.size := h.cnt.lt
theorem Stm.alloc (h : Stm w g mp l d b m f) (o : Obj) : Stm (w.alloc o) g mp l d b m f := h.below ((Below.refl w.heap.size w).alloc (Nat.le_refl _) o) h.glt h.mlt
theorem Stm.drew (h : Stm w g mp l d b m f) : Stm w.drew g mp l d b m f := ⟨h.blk, h.cnt.drew⟩
theorem setCells_oth {r k : Nat} (hk : k ≠ r) : ∀ (vs : List Value) (o : Nat) (w : World), (w.setCells r o vs).heap[k]? = w.heap[k]?
  | [], _, _ => rfl
  | v :: vs, o, w => (setCells_oth hk vs (o + 1) (w.setCell ⟨r, o, none⟩ v)).trans (Below.heap_setCell w ⟨r, o, none⟩ v k hk)
theorem Stm.setR (h : Stm w g mp l d b m f) {r : Nat} (hg : g ≠ r) (hm : mp ≠ r) (o : Nat) (vs : List Value) : Stm (w.setCells r o vs) g mp l d b m f := by
  obtain ⟨⟨x, B⟩, C⟩ := h
  exact ⟨⟨x, blk_setCells B hg o vs⟩, C.block (setCells_oth hm vs o w)⟩
end
theorem drawn (x n : Int) (h1 : 1 ≤ n) (h2 : n ≤ 9223372036854775807) : ∃ r : Nat, wrap64 ((IntKind.u64.wrap (IntKind.u64.wrap (x * 6364136223846793005) + 1442695040888963407) / 8589934592).tmod n) = r ∧ (r : Int) < n := by
  obtain ⟨y, hy, hy0⟩ : ∃ y, IntKind.u64.wrap (IntKind.u64.wrap (x * 6364136223846793005) + 1442695040888963407) = y ∧ 0 ≤ y := ⟨_, rfl, by show 0 ≤ _ % 18446744073709551616; exact Int.emod_nonneg _ (by decide)⟩
  rw [hy]
  have hd : 0 ≤ y / 8589934592 := Int.ediv_nonneg hy0 (by decide)
  have ht : (y / 8589934592).tmod n = (y / 8589934592) % n := Int.tmod_eq_emod_of_nonneg hd
  have k1 : 0 ≤ (y / 8589934592) % n := Int.emod_nonneg _ (by omega)
  have k2 : (y / 8589934592) % n < n := Int.emod_lt_of_pos _ (by omega)
  rw [ht]
  generalize (y / 8589934592) % n = z at *
  refine ⟨z.toNat, ?_, by omega⟩
  have : wrap64 z = z := by unfold wrap64; omega
  rw [this]
  omega
theorem draw_gen (b0 g mp : Nat) (l d b m n : Int) (f : Value → Int) (h1 : 1 ≤ n) (h2 : n ≤ 9223372036854775807) (w : World) (S : Stm w g mp l d b m f) (hg : b0 ≤ g) (hgm : mp ≠ g) : Calls Try.prog 86 #[.pointer (some ⟨g, 0, none⟩), .int .i64 n] w fun e w' => ∃ r : Nat, e = .returned (.int .i64 r) ∧ (r : Int) < n ∧ Stm w' g mp l d b m f ∧ Mv b0 g mp w w' := by
  obtain ⟨⟨x, B⟩, C⟩ := S
  have c0 : w.cell? ⟨g, 0, none⟩ = some (.int .u64 x) := B.cell 0
  have f0 := B.frozen 0
  have hu := u64_pos n h1 h2
  have hz : (n == 0) = false := beq_eq_false_iff_ne.2 (by omega)
  have hz1 : ¬ n = 0 := by omega
  have hd := drawn x n h1 h2
  have HD := Lib.hid hd
  have HB := Lib.hid B
  have HC := Lib.hid C
  clear hd B C
  go_enter Try.func86, Try.ntmps86
  go_wp2
  obtain ⟨r, hr, hlt⟩ := HD.out
  go_ret
  exact ⟨r, ret_int hr, hlt, ⟨⟨_, HB.out.set_ 0 _⟩, HC.out.block (Below.heap_setCell w ⟨g, 0, none⟩ _ mp hgm)⟩, (Mv.refl b0 g mp w).setG hg 0 _⟩
theorem chance_gen (b0 g mp : Nat) (l d b m o : Int) (f : Value → Int) (w : World) (S : Stm w g mp l d b m f) (hg : b0 ≤ g) (hgm : mp ≠ g) : Calls Try.prog 88 #[.pointer (some ⟨g, 0, none⟩), .int .i64 o] w fun e w' => ∃ c : Bool, e = .returned (.bool c) ∧ (c = true → 0 < o) ∧ Stm w' g mp l d b m f ∧ Mv b0 g mp w w' := by
  have hd := fun w S => draw_gen b0 g mp l d b m 100 f (by omega) (by omega) w S hg hgm
  go_enter Try.func88, Try.ntmps88
  go_wp2_with fail
  refine (hd _ S).mono ?_
  rintro e w1 ⟨r, rfl, hr, S1, M1⟩
  go_wp2_with fail
  go_ret
  exact ⟨_, rfl, fun h => by have := of_decide_eq_true h; omega, S1, M1⟩
theorem wayOf_any (x : It) (w : World) : Calls Try.prog 87 #[.agg (ir x)] w fun e w' => e = .returned (iw x) ∧ Below w.heap.size w w' := by
  obtain ⟨a, b, c, d, s, t⟩ := x
  have sz : (Try.prog.info? 162).map (·.size) = some (#[.int .i64 a, .int .u32 c, .int .u32 d] : Array Value).size := by show _ = some 3; kernel_rfl
  have one : (#[.int .i64 a, .int .u32 c, .int .u32 d] : Array Value).all (·.oneCell') = true := by kernel_rfl
  unfold ir iw wy
  dsimp only
  have X0 := (Blk.new w 70 #[.int .i64 a, .int .i64 b, .int .u32 c, .int .u32 d, .string s, .bool t]).alloc (.cells #[.int .i64 0, .int .u32 0, .int .u32 0] 162)
  have R0 := blk_new2 w (.cells #[.int .i64 a, .int .i64 b, .int .u32 c, .int .u32 d, .string s, .bool t] 70) 162 #[.int .i64 0, .int .u32 0, .int .u32 0]
  have bel0 := ((Below.refl w.heap.size w).alloc (Nat.le_refl _) (.cells #[.int .i64 a, .int .i64 b, .int .u32 c, .int .u32 d, .string s, .bool t] 70)).alloc (by simp) (.cells #[.int .i64 0, .int .u32 0, .int .u32 0] 162)
  go_enter Try.func87, Try.ntmps87
  go_upto_region 1 with (fail)
  generalize (w.alloc (.cells #[.int .i64 a, .int .i64 b, .int .u32 c, .int .u32 d, .string s, .bool t] 70)).alloc (.cells #[.int .i64 0, .int .u32 0, .int .u32 0] 162) = w1 at *
  have x0 : w1.cell? ⟨w.heap.size, 0, none⟩ = some (.int .i64 a) := X0.cell 0
  have x2 : w1.cell? ⟨w.heap.size, 2, none⟩ = some (.int .u32 c) := X0.cell 2
  have x3 : w1.cell? ⟨w.heap.size, 3, none⟩ = some (.int .u32 d) := X0.cell 3
  have Z := (Cel.of_blk R0).setCells_same (#[.int .i64 a, .int .u32 c, .int .u32 d] : Array Value).toList rfl
  have bel1 := below_setCells bel0 (show w.heap.size ≤ w.heap.size + 1 by omega) 0 (#[.int .i64 a, .int .u32 c, .int .u32 d] : Array Value).toList
  go_wp2_with (refine wpList_store_at rfl 162 _ _ rfl (w.heap.size + 1) 0 #[.int .i64 a, .int .u32 c, .int .u32 d] rfl rfl #[.int .i64 0, .int .u32 0, .int .u32 0] (Cel.of_blk R0) sz rfl one ?_)
  exact bodyPost_ret (v := .agg #[.int .i64 a, .int .u32 c, .int .u32 d]) (results_cell_at rfl _ _ (w.heap.size + 1) 0 #[.int .i64 a, .int .u32 c, .int .u32 d] _ rfl (Z.congr rfl) Try.underlying162 rfl sz) rfl ⟨rfl, bel1⟩
open Classical in
/-- A count turned at one place. -/
noncomputable def up (f : Value → Int) (v : Value) (n : Int) : Value → Int := fun y => if y = v then n else f y
end Go.Proofs.Ytdocphkpeonldaa.storm
