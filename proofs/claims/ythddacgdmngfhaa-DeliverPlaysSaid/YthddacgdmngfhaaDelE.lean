/- Layer 18: two messages that follow; what is read. -/
import Derived.Test.YthddacgdmngfhaaDelD
namespace Go.Proofs.Ythddacgdmngfhaa.del
open Go.Sort (grow)
open Go.ChangeShapes Go.WideShapes Go.ChangeAt Go.RowKit kit
set_option maxRecDepth 100000

def ma : Array Value := ms 0 0 false 0 ⟨#[97]⟩
def mb : Array Value := ms 0 1 false 0 ⟨#[98]⟩
def e1 : MapEntry := ⟨.int .u16 1, .agg mb, 0⟩
def e0 : MapEntry := ⟨.int .u16 0, .agg ma, 1⟩
def es (i : Nat) : Array MapEntry := match i with | 0 => #[e1, e0] | 1 => #[e1] | _ => #[]
def rw' (i : Nat) : List Value := match i with | 0 => [] | 1 => ma.toList | _ => ma.toList ++ mb.toList
def nx (h : Nat) (w : World) : Nat := match w.cell? ⟨h, 0, none⟩ with | some (.int _ k) => 2 - k.toNat | _ => 0
theorem infoM : (Try.prog.info? 30).map (fun i => (i.zero, i.size, i.bytes)) = some (some (.agg (ms 0 0 false 0 ⟨#[]⟩)), 5, 40) := by kernel_rfl
/-- What stands where so many messages followed. -/
def Fol (b0 g h m i : Nat) (w : World) : Prop := ∃ l, Q b0 g h m i (es i) 2 l 2 w ∧ w.ownsRow b0 30 5 l i (rw' i) ∧ (∀ k, l.ownBlock = some k → k ≠ g ∧ k ≠ h ∧ k ≠ m)
theorem er0 : (es 0).eraseIdxIfInBounds 1 = es 1 := by first | (simp [es, Array.eraseIdxIfInBounds]; done) | (apply Array.toList_inj.1; simp [es, Array.eraseIdxIfInBounds]; done) | (unfold Array.eraseIdxIfInBounds; rw [dif_pos (by decide)]; apply Array.toList_inj.1; rw [Array.toList_eraseIdx]; rfl)
theorem er1 : (es 1).eraseIdxIfInBounds 0 = es 2 := by first | (simp [es, Array.eraseIdxIfInBounds]; done) | (apply Array.toList_inj.1; simp [es, Array.eraseIdxIfInBounds]; done) | (unfold Array.eraseIdxIfInBounds; rw [dif_pos (by decide)]; apply Array.toList_inj.1; rw [Array.toList_eraseIdx]; rfl)
set_option maxHeartbeats 8000000 in
theorem follow_two (b0 g h m : Nat) (w : World) (q : Q b0 g h m 0 (es 0) 2 (.slice none 0 0) 2 w) :
    Calls Try.prog 104 #[.pointer (some ⟨g, 0, none⟩), .pointer (some ⟨h, 0, none⟩)] w fun e w' => e = .returned (.tuple #[]) ∧ Fol b0 g h m 2 w' ∧ Below b0 w w' := by
  obtain ⟨i0, hi, hz0, hz1, hz2⟩ := info_parts infoM
  go_enter Try.func104, Try.ntmps104
  go_wp2_with fail
  go_loopw [6] (fun _ wr => ∃ i, i ≤ 2 ∧ Fol b0 g h m i wr ∧ Below b0 w wr) (fun _ wr => nx h wr)
  case atStart => exact ⟨0, by omega, ⟨_, q, World.ownsRow_nil _ _ _ _, fun k hk => by simp [Value.ownBlock] at hk⟩, Below.refl _ _⟩
  case round =>
    clear q
    obtain ⟨i, hi2, ⟨l, q, own, hne⟩, bel⟩ := hrel
    have HO := Lib.hid own
    have HNE := Lib.hid hne
    clear own hne
    have C := q.C
    have M := q.M
    have hl := C.lt
    have HNX0 := Lib.hid (show nx h wr = 2 - i by unfold nx; rw [C.cell0 0 (u := .int .u16 i) rfl]; simp)
    rcases (by omega : i = 0 ∨ i = 1 ∨ i = 2) with rfl | rfl | rfl
    · have HNX := Lib.hid (show nx h wr = 2 from HNX0.out)
      clear HNX0
      have c0 : wr.cell? ⟨h, 0, none⟩ = some (.int .u16 0) := C.cell0 0 (u := .int .u16 0) rfl
      have c1 : wr.cell? ⟨h, 1, none⟩ = some (.map (some m)) := C.cell0 1 (u := .map (some m)) rfl
      have lk1 : (Instr.lookup 200 (.map (some m)) (.int .u16 0) true).run Try.prog wr = .ok (.tuple #[.agg #[.int .i64 0, .int .i64 0, .bool false, .int .u32 0, .string ⟨#[97]⟩], .bool true]) wr := lk_some uM uK M (i := 1) (v := .agg ma) rfl
      have lk2 : ∀ o, (Instr.lookup 200 (.map (some m)) (.int .u16 0) true).run Try.prog (wr.alloc o) = .ok (.tuple #[.agg #[.int .i64 0, .int .i64 0, .bool false, .int .u32 0, .string ⟨#[97]⟩], .bool true]) (wr.alloc o) := fun o => lk_some uM uK (M.alloc o) (i := 1) (v := .agg ma) rfl
      have lk3 : ∀ o, (Instr.lookup 200 (.map (some m)) (.int .u16 0) true).run Try.prog (wr.alloc o).drew = .ok (.tuple #[.agg #[.int .i64 0, .int .i64 0, .bool false, .int .u32 0, .string ⟨#[97]⟩], .bool true]) (wr.alloc o).drew := fun o => lk_some uM uK (M.alloc o).drew (i := 1) (v := .agg ma) rfl
      have lk4 : (Instr.lookup 200 (.map (some m)) (.int .u16 0) true).run Try.prog wr.drew = .ok (.tuple #[.agg #[.int .i64 0, .int .i64 0, .bool false, .int .u32 0, .string ⟨#[97]⟩], .bool true]) wr.drew := lk_some uM uK M.drew (i := 1) (v := .agg ma) rfl
      go_upto_region 0 with (fail)
      go_region
      have V1 : Blk (wr.alloc (.cells #[.int .i64 0, .int .i64 0, .bool false, .int .u32 0, .string ⟨#[97]⟩] 30)).drew wr.heap.size 30 #[.int .i64 0, .int .i64 0, .bool false, .int .u32 0, .string ⟨#[97]⟩] := (Blk.new wr 30 #[.int .i64 0, .int .i64 0, .bool false, .int .u32 0, .string ⟨#[97]⟩]).drew
      have q1 := (q.below ((Below.refl wr.heap.size wr).alloc (Nat.le_refl _) (.cells #[.int .i64 0, .int .i64 0, .bool false, .int .u32 0, .string ⟨#[97]⟩] 30)) (Nat.le_refl _)).drew
      have hgl : g < wr.heap.size := by obtain ⟨cap, B, _⟩ := q.B; exact B.lt
      have hml : m < wr.heap.size := q.M.lt
      have bel1 := (bel.alloc (by have := q.hg; omega) (.cells #[.int .i64 0, .int .i64 0, .bool false, .int .u32 0, .string ⟨#[97]⟩] 30)).drew
      have HO1 := Lib.hid (show (wr.alloc (.cells #[.int .i64 0, .int .i64 0, .bool false, .int .u32 0, .string ⟨#[97]⟩] 30)).drew.ownsRow b0 30 5 l 0 (rw' 0) from own_all HO.out (((Below.refl wr.heap.size wr).alloc (Nat.le_refl _) (.cells #[.int .i64 0, .int .i64 0, .bool false, .int .u32 0, .string ⟨#[97]⟩] 30)).drew))
      have hv0 : wr.heap.size ≠ g := by omega
      have hv1 : wr.heap.size ≠ h := by omega
      have hv2 : wr.heap.size ≠ m := by omega
      clear HO q C M bel c0 c1 lk1 lk2 lk3 lk4 hl
      generalize (wr.alloc (.cells #[.int .i64 0, .int .i64 0, .bool false, .int .u32 0, .string ⟨#[97]⟩] 30)).drew = w1 at *
      generalize wr.heap.size = v at *
      have C := q1.C
      have M := q1.M
      have c0 : w1.cell? ⟨h, 0, none⟩ = some (.int .u16 0) := C.cell0 0 (u := .int .u16 0) rfl
      have c1 : w1.cell? ⟨h, 1, none⟩ = some (.map (some m)) := C.cell0 1 (u := .map (some m)) rfl
      have heq : (es 0).eraseIdxIfInBounds 1 = es 1 := er0
      have dl1 : ∀ ty, (Builtin.delete_ #[200, 163] ty #[.map (some m), .int .u16 0]).run Try.prog w1 = .ok (.tuple #[]) (Go.ChangeMaps.setBlock w1 m (.map (es 1) 2)) := fun ty => by rw [del_some uM uK M #[200, 163] rfl ty (i := 1) (v := .agg ma) rfl, heq]
      have dl2 : ∀ ty, (Builtin.delete_ #[200, 163] ty #[.map (some m), .int .u16 0]).run Try.prog w1.drew = .ok (.tuple #[]) (Go.ChangeMaps.setBlock w1.drew m (.map (es 1) 2)) := fun ty => by rw [del_some uM uK M.drew #[200, 163] rfl ty (i := 1) (v := .agg ma) rfl, heq]
      go_upto_region 2 with (fail)
      go_region
      have q2 : Q b0 g h m 0 (es 1) 2 l 2 (Go.ChangeMaps.setBlock w1.drew m (.map (es 1) 2)) := ⟨by obtain ⟨cap, B, e⟩ := q1.B; exact ⟨cap, blk_map M.drew B.drew _ _, e⟩, cel_map M.drew C.drew (Ne.symm q1.ne3) _ _, M.drew.set_ _ _, q1.hg, q1.hh, q1.hm, q1.ne1, q1.ne2, q1.ne3⟩
      have V2 : Blk (Go.ChangeMaps.setBlock w1.drew m (.map (es 1) 2)) v 30 #[.int .i64 0, .int .i64 0, .bool false, .int .u32 0, .string ⟨#[97]⟩] := blk_map M.drew V1.drew _ _
      have bel2 : Below b0 w (Go.ChangeMaps.setBlock w1.drew m (.map (es 1) 2)) := M.drew.bel bel1.drew q1.hm _ _
      have HO2 := Lib.hid (show (Go.ChangeMaps.setBlock w1.drew m (.map (es 1) 2)).ownsRow b0 30 5 l 0 (rw' 0) from own_other HO1.out (fun k hk => M.drew.other _ _ ((HNE.out k hk).2.2)))
      clear HO1 q1 V1 bel1 C M c0 c1 dl1 dl2 heq
      generalize Go.ChangeMaps.setBlock w1.drew m (.map (es 1) 2) = w2 at *
      have C := q2.C
      have c0 : w2.cell? ⟨h, 0, none⟩ = some (.int .u16 0) := C.cell0 0 (u := .int .u16 0) rfl
      have f0 : w2.frozen? ⟨h, 0, none⟩ = false := C.frozen0 0 (by show 0 < 2; omega)
      go_upto_region 4 with (fail)
      have q3 : Q b0 g h m 1 (es 1) 2 l 2 (w2.setCell ⟨h, 0, none⟩ (.int .u16 1)) := ⟨by obtain ⟨cap, B, e⟩ := q2.B; exact ⟨cap, B.far (p := ⟨h, 0, none⟩) (Ne.symm q2.ne1) _, e⟩, C.set_ 0 _, q2.M.far (p := ⟨h, 0, none⟩) q2.ne3 _, q2.hg, q2.hh, q2.hm, q2.ne1, q2.ne2, q2.ne3⟩
      have V3 : Blk (w2.setCell ⟨h, 0, none⟩ (.int .u16 1)) v 30 #[.int .i64 0, .int .i64 0, .bool false, .int .u32 0, .string ⟨#[97]⟩] := V2.far (p := ⟨h, 0, none⟩) hv1 _
      have bel3 : Below b0 w (w2.setCell ⟨h, 0, none⟩ (.int .u16 1)) := bel2.setCell (p := ⟨h, 0, none⟩) q2.hh _
      have HO3 := Lib.hid (show (w2.setCell ⟨h, 0, none⟩ (.int .u16 1)).ownsRow b0 30 5 l 0 (rw' 0) from own_other HO2.out (fun k hk => Below.heap_setCell _ _ _ _ ((HNE.out k hk).2.1)))
      clear HO2 q2 V2 bel2 C c0 f0
      generalize w2.setCell ⟨h, 0, none⟩ (.int .u16 1) = w3 at *
      obtain ⟨cap, B3, hc1, hc2⟩ := q3.B
      have hgl3 := B3.lt
      have hhl3 := q3.C.lt
      have hml3 := q3.M.lt
      have g1 : w3.cell? ⟨g, 1, none⟩ = some l := B3.cell 1
      have g1f : w3.frozen? ⟨g, 1, none⟩ = false := B3.frozen 1
      have y0 : w3.cell? ⟨v, 0, none⟩ = some (.int .i64 0) := V3.cell 0
      have y1 : w3.cell? ⟨v, 1, none⟩ = some (.int .i64 0) := V3.cell 1
      have y2 : w3.cell? ⟨v, 2, none⟩ = some (.bool false) := V3.cell 2
      have y3 : w3.cell? ⟨v, 3, none⟩ = some (.int .u32 0) := V3.cell 3
      have y4 : w3.cell? ⟨v, 4, none⟩ = some (.string ⟨#[97]⟩) := V3.cell 4
      have hb3 : b0 ≤ w3.heap.size := by have := q3.hg; omega
      have B4 := B3.alloc (.cells #[.int .i64 0, .int .i64 0, .bool false, .int .u32 0, .string ⟨#[97]⟩] 30)
      have g4 : (w3.alloc (.cells #[.int .i64 0, .int .i64 0, .bool false, .int .u32 0, .string ⟨#[97]⟩] 30)).cell? ⟨g, 1, none⟩ = some l := B4.cell 1
      have HOA := Lib.hid (own_all HO3.out ((Below.refl w3.heap.size w3).alloc (Nat.le_refl _) (.cells #[.int .i64 0, .int .i64 0, .bool false, .int .u32 0, .string ⟨#[97]⟩] 30)))
      have hvl := V3.lt
      go_region_law ((refine step_append_lies _ (by rfl) _ _ _ (by rfl) b0 30 i0 (.agg (ms 0 0 false 0 ⟨#[]⟩)) 5 40 Try.underlying85 hi hz0 hz1 hz2 (by rfl) (by decide) l 0 (rw' 0) (by rfl) HOA.out ⟨w3.heap.size, 0, none⟩ 1 1 (Array.toList #[.int .i64 0, .int .i64 0, .bool false, .int .u32 0, .string ⟨#[97]⟩]) (by rfl) (by rfl) (World.news_of_block (cs := #[.int .i64 0, .int .i64 0, .bool false, .int .u32 0, .string ⟨#[97]⟩]) (heap_alloc_new _ _)) (by decide) (by omega) (by unfold maxLen; omega) (by omega) (by simp; omega) (w3.heap.size + 1) (by simp) ?_; intro h8 cap8 w8 hown8 hgrow hat hlt; have B8 : Blk w8 g 199 #[.slice (some ⟨h, 0, none⟩) 2 cap, l, .int .i64 2] := (hgrow.block g (by simp; omega) (fun e => (HNE.out g e.symm).1 rfl)).trans B4; have c8 : w8.cell? ⟨g, 1, none⟩ = some l := B8.cell 1; have f8 : w8.frozen? ⟨g, 1, none⟩ = false := B8.frozen 1))
      all_goals
        have hne8 : h8 ≠ g ∧ h8 ≠ h ∧ h8 ≠ m := by
          rcases hat with e | e
          · exact HNE.out h8 e
          · omega
        have C8 : Cel w8 h 0 (st 1 m) := (q3.C.alloc (.cells #[.int .i64 0, .int .i64 0, .bool false, .int .u32 0, .string ⟨#[97]⟩] 30)).block (hgrow.block h (by simp; omega) (fun e => (HNE.out h e.symm).2.1 rfl)) (Nat.lt_of_lt_of_le (by simp; omega) hgrow.size)
        have M8 : MapB w8 m (es 1) 2 := (q3.M.alloc (.cells #[.int .i64 0, .int .i64 0, .bool false, .int .u32 0, .string ⟨#[97]⟩] 30)).block (hgrow.block m (by simp; omega) (fun e => (HNE.out m e.symm).2.2 rfl))
        have bel8 : Below b0 w w8 := ((bel3.alloc hb3 (.cells #[.int .i64 0, .int .i64 0, .bool false, .int .u32 0, .string ⟨#[97]⟩] 30)).drew).grown hgrow (by simp; omega) (fun k hk => own_ge HO3.out k hk)
        have q9 : Q b0 g h m 1 (es 1) 2 (.slice (some ⟨h8, 0, none⟩) 1 cap8) 2 (w8.setCell ⟨g, 1, none⟩ (.slice (some ⟨h8, 0, none⟩) 1 cap8)) := ⟨⟨cap, B8.set_ 1 _, hc1, hc2⟩, C8.far (p := ⟨g, 1, none⟩) q3.ne1 _, M8.far (p := ⟨g, 1, none⟩) q3.ne2 _, q3.hg, q3.hh, q3.hm, q3.ne1, q3.ne2, q3.ne3⟩
        have own9 : (w8.setCell ⟨g, 1, none⟩ (.slice (some ⟨h8, 0, none⟩) 1 cap8)).ownsRow b0 30 5 (.slice (some ⟨h8, 0, none⟩) 1 cap8) 1 (rw' 1) := own_other hown8 (fun k hk => Below.heap_setCell _ _ _ _ (by simp [Value.ownBlock] at hk; show k ≠ g; omega))
        have bel9 : Below b0 w (w8.setCell ⟨g, 1, none⟩ (.slice (some ⟨h8, 0, none⟩) 1 cap8)) := bel8.setCell (p := ⟨g, 1, none⟩) q3.hg _
        have HX := Lib.hid (show ∃ i, i ≤ 2 ∧ Fol b0 g h m i (w8.setCell ⟨g, 1, none⟩ (.slice (some ⟨h8, 0, none⟩) 1 cap8)) ∧ Below b0 w (w8.setCell ⟨g, 1, none⟩ (.slice (some ⟨h8, 0, none⟩) 1 cap8)) from ⟨1, by omega, ⟨_, q9, own9, fun k hk => by simp [Value.ownBlock] at hk; omega⟩, bel9⟩)
        have hn9 : nx h (w8.setCell ⟨g, 1, none⟩ (.slice (some ⟨h8, 0, none⟩) 1 cap8)) = 1 := by unfold nx; rw [q9.C.cell0 0 (u := .int .u16 1) rfl]; rfl
        have HN9 := Lib.hid hn9
        clear hown8 q9 own9 bel9 bel8 M8 C8 hn9
        go_wp2_with fail
        go_roundw
        case rel => exact HX.out
        case measure => rw [show nx h wr = _ from HNX.out]; have := HN9.out; omega
    · have HNX := Lib.hid (show nx h wr = 1 from HNX0.out)
      clear HNX0
      have c0 : wr.cell? ⟨h, 0, none⟩ = some (.int .u16 1) := C.cell0 0 (u := .int .u16 1) rfl
      have c1 : wr.cell? ⟨h, 1, none⟩ = some (.map (some m)) := C.cell0 1 (u := .map (some m)) rfl
      have lk1 : (Instr.lookup 200 (.map (some m)) (.int .u16 1) true).run Try.prog wr = .ok (.tuple #[.agg #[.int .i64 0, .int .i64 1, .bool false, .int .u32 0, .string ⟨#[98]⟩], .bool true]) wr := lk_some uM uK M (i := 0) (v := .agg mb) rfl
      have lk2 : ∀ o, (Instr.lookup 200 (.map (some m)) (.int .u16 1) true).run Try.prog (wr.alloc o) = .ok (.tuple #[.agg #[.int .i64 0, .int .i64 1, .bool false, .int .u32 0, .string ⟨#[98]⟩], .bool true]) (wr.alloc o) := fun o => lk_some uM uK (M.alloc o) (i := 0) (v := .agg mb) rfl
      have lk3 : ∀ o, (Instr.lookup 200 (.map (some m)) (.int .u16 1) true).run Try.prog (wr.alloc o).drew = .ok (.tuple #[.agg #[.int .i64 0, .int .i64 1, .bool false, .int .u32 0, .string ⟨#[98]⟩], .bool true]) (wr.alloc o).drew := fun o => lk_some uM uK (M.alloc o).drew (i := 0) (v := .agg mb) rfl
      have lk4 : (Instr.lookup 200 (.map (some m)) (.int .u16 1) true).run Try.prog wr.drew = .ok (.tuple #[.agg #[.int .i64 0, .int .i64 1, .bool false, .int .u32 0, .string ⟨#[98]⟩], .bool true]) wr.drew := lk_some uM uK M.drew (i := 0) (v := .agg mb) rfl
      go_upto_region 0 with (fail)
      go_region
      have V1 : Blk (wr.alloc (.cells #[.int .i64 0, .int .i64 1, .bool false, .int .u32 0, .string ⟨#[98]⟩] 30)).drew wr.heap.size 30 #[.int .i64 0, .int .i64 1, .bool false, .int .u32 0, .string ⟨#[98]⟩] := (Blk.new wr 30 #[.int .i64 0, .int .i64 1, .bool false, .int .u32 0, .string ⟨#[98]⟩]).drew
      have q1 := (q.below ((Below.refl wr.heap.size wr).alloc (Nat.le_refl _) (.cells #[.int .i64 0, .int .i64 1, .bool false, .int .u32 0, .string ⟨#[98]⟩] 30)) (Nat.le_refl _)).drew
      have hgl : g < wr.heap.size := by obtain ⟨cap, B, _⟩ := q.B; exact B.lt
      have hml : m < wr.heap.size := q.M.lt
      have bel1 := (bel.alloc (by have := q.hg; omega) (.cells #[.int .i64 0, .int .i64 1, .bool false, .int .u32 0, .string ⟨#[98]⟩] 30)).drew
      have HO1 := Lib.hid (show (wr.alloc (.cells #[.int .i64 0, .int .i64 1, .bool false, .int .u32 0, .string ⟨#[98]⟩] 30)).drew.ownsRow b0 30 5 l 1 (rw' 1) from own_all HO.out (((Below.refl wr.heap.size wr).alloc (Nat.le_refl _) (.cells #[.int .i64 0, .int .i64 1, .bool false, .int .u32 0, .string ⟨#[98]⟩] 30)).drew))
      have hv0 : wr.heap.size ≠ g := by omega
      have hv1 : wr.heap.size ≠ h := by omega
      have hv2 : wr.heap.size ≠ m := by omega
      clear HO q C M bel c0 c1 lk1 lk2 lk3 lk4 hl
      generalize (wr.alloc (.cells #[.int .i64 0, .int .i64 1, .bool false, .int .u32 0, .string ⟨#[98]⟩] 30)).drew = w1 at *
      generalize wr.heap.size = v at *
      have C := q1.C
      have M := q1.M
      have c0 : w1.cell? ⟨h, 0, none⟩ = some (.int .u16 1) := C.cell0 0 (u := .int .u16 1) rfl
      have c1 : w1.cell? ⟨h, 1, none⟩ = some (.map (some m)) := C.cell0 1 (u := .map (some m)) rfl
      have heq : (es 1).eraseIdxIfInBounds 0 = es 2 := er1
      have dl1 : ∀ ty, (Builtin.delete_ #[200, 163] ty #[.map (some m), .int .u16 1]).run Try.prog w1 = .ok (.tuple #[]) (Go.ChangeMaps.setBlock w1 m (.map (es 2) 2)) := fun ty => by rw [del_some uM uK M #[200, 163] rfl ty (i := 0) (v := .agg mb) rfl, heq]
      have dl2 : ∀ ty, (Builtin.delete_ #[200, 163] ty #[.map (some m), .int .u16 1]).run Try.prog w1.drew = .ok (.tuple #[]) (Go.ChangeMaps.setBlock w1.drew m (.map (es 2) 2)) := fun ty => by rw [del_some uM uK M.drew #[200, 163] rfl ty (i := 0) (v := .agg mb) rfl, heq]
      go_upto_region 2 with (fail)
      go_region
      have q2 : Q b0 g h m 1 (es 2) 2 l 2 (Go.ChangeMaps.setBlock w1.drew m (.map (es 2) 2)) := ⟨by obtain ⟨cap, B, e⟩ := q1.B; exact ⟨cap, blk_map M.drew B.drew _ _, e⟩, cel_map M.drew C.drew (Ne.symm q1.ne3) _ _, M.drew.set_ _ _, q1.hg, q1.hh, q1.hm, q1.ne1, q1.ne2, q1.ne3⟩
      have V2 : Blk (Go.ChangeMaps.setBlock w1.drew m (.map (es 2) 2)) v 30 #[.int .i64 0, .int .i64 1, .bool false, .int .u32 0, .string ⟨#[98]⟩] := blk_map M.drew V1.drew _ _
      have bel2 : Below b0 w (Go.ChangeMaps.setBlock w1.drew m (.map (es 2) 2)) := M.drew.bel bel1.drew q1.hm _ _
      have HO2 := Lib.hid (show (Go.ChangeMaps.setBlock w1.drew m (.map (es 2) 2)).ownsRow b0 30 5 l 1 (rw' 1) from own_other HO1.out (fun k hk => M.drew.other _ _ ((HNE.out k hk).2.2)))
      clear HO1 q1 V1 bel1 C M c0 c1 dl1 dl2 heq
      generalize Go.ChangeMaps.setBlock w1.drew m (.map (es 2) 2) = w2 at *
      have C := q2.C
      have c0 : w2.cell? ⟨h, 0, none⟩ = some (.int .u16 1) := C.cell0 0 (u := .int .u16 1) rfl
      have f0 : w2.frozen? ⟨h, 0, none⟩ = false := C.frozen0 0 (by show 0 < 2; omega)
      go_upto_region 4 with (fail)
      have q3 : Q b0 g h m 2 (es 2) 2 l 2 (w2.setCell ⟨h, 0, none⟩ (.int .u16 2)) := ⟨by obtain ⟨cap, B, e⟩ := q2.B; exact ⟨cap, B.far (p := ⟨h, 0, none⟩) (Ne.symm q2.ne1) _, e⟩, C.set_ 0 _, q2.M.far (p := ⟨h, 0, none⟩) q2.ne3 _, q2.hg, q2.hh, q2.hm, q2.ne1, q2.ne2, q2.ne3⟩
      have V3 : Blk (w2.setCell ⟨h, 0, none⟩ (.int .u16 2)) v 30 #[.int .i64 0, .int .i64 1, .bool false, .int .u32 0, .string ⟨#[98]⟩] := V2.far (p := ⟨h, 0, none⟩) hv1 _
      have bel3 : Below b0 w (w2.setCell ⟨h, 0, none⟩ (.int .u16 2)) := bel2.setCell (p := ⟨h, 0, none⟩) q2.hh _
      have HO3 := Lib.hid (show (w2.setCell ⟨h, 0, none⟩ (.int .u16 2)).ownsRow b0 30 5 l 1 (rw' 1) from own_other HO2.out (fun k hk => Below.heap_setCell _ _ _ _ ((HNE.out k hk).2.1)))
      clear HO2 q2 V2 bel2 C c0 f0
      generalize w2.setCell ⟨h, 0, none⟩ (.int .u16 2) = w3 at *
      obtain ⟨cap, B3, hc1, hc2⟩ := q3.B
      have hgl3 := B3.lt
      have hhl3 := q3.C.lt
      have hml3 := q3.M.lt
      have g1 : w3.cell? ⟨g, 1, none⟩ = some l := B3.cell 1
      have g1f : w3.frozen? ⟨g, 1, none⟩ = false := B3.frozen 1
      have y0 : w3.cell? ⟨v, 0, none⟩ = some (.int .i64 0) := V3.cell 0
      have y1 : w3.cell? ⟨v, 1, none⟩ = some (.int .i64 1) := V3.cell 1
      have y2 : w3.cell? ⟨v, 2, none⟩ = some (.bool false) := V3.cell 2
      have y3 : w3.cell? ⟨v, 3, none⟩ = some (.int .u32 0) := V3.cell 3
      have y4 : w3.cell? ⟨v, 4, none⟩ = some (.string ⟨#[98]⟩) := V3.cell 4
      have hb3 : b0 ≤ w3.heap.size := by have := q3.hg; omega
      have B4 := B3.alloc (.cells #[.int .i64 0, .int .i64 1, .bool false, .int .u32 0, .string ⟨#[98]⟩] 30)
      have g4 : (w3.alloc (.cells #[.int .i64 0, .int .i64 1, .bool false, .int .u32 0, .string ⟨#[98]⟩] 30)).cell? ⟨g, 1, none⟩ = some l := B4.cell 1
      have HOA := Lib.hid (own_all HO3.out ((Below.refl w3.heap.size w3).alloc (Nat.le_refl _) (.cells #[.int .i64 0, .int .i64 1, .bool false, .int .u32 0, .string ⟨#[98]⟩] 30)))
      have hvl := V3.lt
      go_region_law ((refine step_append_lies _ (by rfl) _ _ _ (by rfl) b0 30 i0 (.agg (ms 0 0 false 0 ⟨#[]⟩)) 5 40 Try.underlying85 hi hz0 hz1 hz2 (by rfl) (by decide) l 1 (rw' 1) (by rfl) HOA.out ⟨w3.heap.size, 0, none⟩ 1 1 (Array.toList #[.int .i64 0, .int .i64 1, .bool false, .int .u32 0, .string ⟨#[98]⟩]) (by rfl) (by rfl) (World.news_of_block (cs := #[.int .i64 0, .int .i64 1, .bool false, .int .u32 0, .string ⟨#[98]⟩]) (heap_alloc_new _ _)) (by decide) (by omega) (by unfold maxLen; omega) (by omega) (by simp; omega) (w3.heap.size + 1) (by simp) ?_; intro h8 cap8 w8 hown8 hgrow hat hlt; have B8 : Blk w8 g 199 #[.slice (some ⟨h, 0, none⟩) 2 cap, l, .int .i64 2] := (hgrow.block g (by simp; omega) (fun e => (HNE.out g e.symm).1 rfl)).trans B4; have c8 : w8.cell? ⟨g, 1, none⟩ = some l := B8.cell 1; have f8 : w8.frozen? ⟨g, 1, none⟩ = false := B8.frozen 1))
      all_goals
        have hne8 : h8 ≠ g ∧ h8 ≠ h ∧ h8 ≠ m := by
          rcases hat with e | e
          · exact HNE.out h8 e
          · omega
        have C8 : Cel w8 h 0 (st 2 m) := (q3.C.alloc (.cells #[.int .i64 0, .int .i64 1, .bool false, .int .u32 0, .string ⟨#[98]⟩] 30)).block (hgrow.block h (by simp; omega) (fun e => (HNE.out h e.symm).2.1 rfl)) (Nat.lt_of_lt_of_le (by simp; omega) hgrow.size)
        have M8 : MapB w8 m (es 2) 2 := (q3.M.alloc (.cells #[.int .i64 0, .int .i64 1, .bool false, .int .u32 0, .string ⟨#[98]⟩] 30)).block (hgrow.block m (by simp; omega) (fun e => (HNE.out m e.symm).2.2 rfl))
        have bel8 : Below b0 w w8 := ((bel3.alloc hb3 (.cells #[.int .i64 0, .int .i64 1, .bool false, .int .u32 0, .string ⟨#[98]⟩] 30)).drew).grown hgrow (by simp; omega) (fun k hk => own_ge HO3.out k hk)
        have q9 : Q b0 g h m 2 (es 2) 2 (.slice (some ⟨h8, 0, none⟩) 2 cap8) 2 (w8.setCell ⟨g, 1, none⟩ (.slice (some ⟨h8, 0, none⟩) 2 cap8)) := ⟨⟨cap, B8.set_ 1 _, hc1, hc2⟩, C8.far (p := ⟨g, 1, none⟩) q3.ne1 _, M8.far (p := ⟨g, 1, none⟩) q3.ne2 _, q3.hg, q3.hh, q3.hm, q3.ne1, q3.ne2, q3.ne3⟩
        have own9 : (w8.setCell ⟨g, 1, none⟩ (.slice (some ⟨h8, 0, none⟩) 2 cap8)).ownsRow b0 30 5 (.slice (some ⟨h8, 0, none⟩) 2 cap8) 2 (rw' 2) := own_other hown8 (fun k hk => Below.heap_setCell _ _ _ _ (by simp [Value.ownBlock] at hk; show k ≠ g; omega))
        have bel9 : Below b0 w (w8.setCell ⟨g, 1, none⟩ (.slice (some ⟨h8, 0, none⟩) 2 cap8)) := bel8.setCell (p := ⟨g, 1, none⟩) q3.hg _
        have HX := Lib.hid (show ∃ i, i ≤ 2 ∧ Fol b0 g h m i (w8.setCell ⟨g, 1, none⟩ (.slice (some ⟨h8, 0, none⟩) 2 cap8)) ∧ Below b0 w (w8.setCell ⟨g, 1, none⟩ (.slice (some ⟨h8, 0, none⟩) 2 cap8)) from ⟨2, by omega, ⟨_, q9, own9, fun k hk => by simp [Value.ownBlock] at hk; omega⟩, bel9⟩)
        have hn9 : nx h (w8.setCell ⟨g, 1, none⟩ (.slice (some ⟨h8, 0, none⟩) 2 cap8)) = 0 := by unfold nx; rw [q9.C.cell0 0 (u := .int .u16 2) rfl]; rfl
        have HN9 := Lib.hid hn9
        clear hown8 q9 own9 bel9 bel8 M8 C8 hn9
        go_wp2_with fail
        go_roundw
        case rel => exact HX.out
        case measure => rw [show nx h wr = _ from HNX.out]; have := HN9.out; omega
    · have c0 : wr.cell? ⟨h, 0, none⟩ = some (.int .u16 2) := C.cell0 0 (u := .int .u16 2) rfl
      have c1 : wr.cell? ⟨h, 1, none⟩ = some (.map (some m)) := C.cell0 1 (u := .map (some m)) rfl
      have lk1 : (Instr.lookup 200 (.map (some m)) (.int .u16 2) true).run Try.prog wr = .ok (.tuple #[.agg #[.int .i64 0, .int .i64 0, .bool false, .int .u32 0, .string ⟨#[]⟩], .bool false]) wr := lk_none uM uK M (zeroM _) rfl
      have lk2 : ∀ o, (Instr.lookup 200 (.map (some m)) (.int .u16 2) true).run Try.prog (wr.alloc o) = .ok (.tuple #[.agg #[.int .i64 0, .int .i64 0, .bool false, .int .u32 0, .string ⟨#[]⟩], .bool false]) (wr.alloc o) := fun o => lk_none uM uK (M.alloc o) (zeroM _) rfl
      have lk3 : ∀ o, (Instr.lookup 200 (.map (some m)) (.int .u16 2) true).run Try.prog (wr.alloc o).drew = .ok (.tuple #[.agg #[.int .i64 0, .int .i64 0, .bool false, .int .u32 0, .string ⟨#[]⟩], .bool false]) (wr.alloc o).drew := fun o => lk_none uM uK (M.alloc o).drew (zeroM _) rfl
      have lk4 : (Instr.lookup 200 (.map (some m)) (.int .u16 2) true).run Try.prog wr.drew = .ok (.tuple #[.agg #[.int .i64 0, .int .i64 0, .bool false, .int .u32 0, .string ⟨#[]⟩], .bool false]) wr.drew := lk_none uM uK M.drew (zeroM _) rfl
      have q9 := (q.below ((Below.refl wr.heap.size wr).alloc (Nat.le_refl _) (.cells #[.int .i64 0, .int .i64 0, .bool false, .int .u32 0, .string ⟨#[]⟩] 30)) (Nat.le_refl _)).drew
      have HO9 := Lib.hid (own_all HO.out (((Below.refl wr.heap.size wr).alloc (Nat.le_refl _) (.cells #[.int .i64 0, .int .i64 0, .bool false, .int .u32 0, .string ⟨#[]⟩] 30)).drew))
      have hgl : g < wr.heap.size := by obtain ⟨cap, B, _⟩ := q.B; exact B.lt
      have bel9 := (bel.alloc (by have := q.hg; omega) (.cells #[.int .i64 0, .int .i64 0, .bool false, .int .u32 0, .string ⟨#[]⟩] 30)).drew
      go_upto_region 0 with (fail)
      go_region
      go_wp2_with fail
      refine bodyPost_ret (v := .tuple #[]) (by simp [results]) rfl ⟨rfl, ⟨l, q9, HO9.out, HNE.out⟩, bel9⟩
end Go.Proofs.Ythddacgdmngfhaa.del
