/- Layer 28: a chunk of one parameter is copied. -/
import Derived.Test.YtdocphkpeonldaaRecC
import Derived.Test.YtdocphkpeonldaaCln
namespace Go.Proofs.Ytdocphkpeonldaa.rec_
open Go.Sort (grow)
open Go.ChangeShapes Go.WideShapes Go.ChangeAt Go.RowKit kit oct
set_option maxRecDepth 100000

theorem infoQ : (Try.prog.info? 23).map (fun i => (i.zero, i.size, i.bytes)) = some (some (.agg #[.int .i64 0, .string ByteArray.empty]), 2, 24) := by kernel_rfl
/-- A chunk whose one parameter lies at a place, with room. -/
def cd (i id : Int) (g cap : Nat) : Array Value := #[.int .i64 i, .int .i64 0, .int .u32 id, .int .i64 0, .int .i64 0, .int .u32 0, .string ⟨#[]⟩, .int .u32 0, .int .u32 0, .int .i64 0, .int .i64 0, .slice (some ⟨g, 0, none⟩) 1 cap, .slice none 0 0, .slice none 0 0, .slice none 0 0]
theorem szD (i id : Int) (g cap : Nat) : (Try.prog.info? 43).map (·.size) = some (cd i id g cap).size := by show _ = some 15; kernel_rfl
theorem cd_one (i id : Int) (g cap : Nat) : (cd i id g cap).all (·.oneCell') = true := by kernel_rfl
theorem param_one (t : Int) (s : ByteArray) : ∀ y ∈ (#[.int .i64 t, .string s] : Array Value).toList, y.oneCell' = true := by
  intro y hy
  simp at hy
  rcases hy with rfl | rfl <;> rfl
theorem add0 (h j : Nat) : (⟨h, 0, none⟩ : Addr).add j = ⟨h, j, none⟩ := by
  unfold Addr.add
  split <;> simp_all
theorem clP_one (h : Nat) (t : Int) (s : ByteArray) (w : World) (C : Cel w h 0 #[.int .i64 t, .string s]) : Calls Try.prog 131 #[.slice (some ⟨h, 0, none⟩) 1 1] w fun e w' => ∃ k cap, e = .returned (.slice (some ⟨k, 0, none⟩) 1 cap) ∧ w.heap.size ≤ k ∧ 1 ≤ cap ∧ cap ≤ maxLen ∧ Cel w' k 0 #[.int .i64 t, .string s] ∧ Below w.heap.size w w' := by
  obtain ⟨i0, hi, hz0, hz1, hz2⟩ := info_parts infoQ
  have hq : ∀ w : World, (binOp .eql 38 (.slice (some ⟨h, 0, none⟩) 1 1) (.slice none 0 0)).run Try.prog w = .ok (.bool false) w := fun w => by kernel_rfl
  have X1 := Blk.new w 23 #[]
  have C1 := C.alloc (.cells #[] 23)
  have bel1 := (Below.refl w.heap.size w).alloc (Nat.le_refl _) (.cells #[] 23)
  have HO := Lib.hid (own_none (w := w.alloc (.cells #[] 23)) (b0 := w.heap.size) (size := 2) (cap := 0) X1 (Nat.le_refl _) (by unfold maxLen; omega) rfl)
  have HN := Lib.hid (show ∀ j u, (#[.int .i64 t, .string s] : Array Value).toList[j]? = some u → (w.alloc (.cells #[] 23)).cell? ((⟨h, 0, none⟩ : Addr).add j) = some u from fun j u hu => by rw [add0]; exact C1.cell0 j (by simpa using hu))
  have HS := Lib.hid (show (w.alloc (.cells #[] 23)).heap.size = w.heap.size + 1 by simp)
  have hrl := param_one t s
  have HB := Lib.hid bel1
  go_enter Try.func131, Try.ntmps131
  clear X1 bel1 C1 C
  go_wp2_with (at_builtin; refine wpList_append_lies _ rfl _ _ 38 rfl w.heap.size 23 i0 (.agg #[.int .i64 0, .string ByteArray.empty]) 2 24 Try.underlying38 hi hz0 hz1 hz2 rfl (by decide) (.slice (some ⟨w.heap.size, 0, none⟩) 0 0) 0 [] rfl HO.out ⟨h, 0, none⟩ 1 1 (#[.int .i64 t, .string s] : Array Value).toList rfl rfl HN.out hrl (by omega) (by unfold maxLen; omega) (by omega) (by rw [HS.out]; omega) (w.heap.size + 1) HS.out ?_; intro g8 c8 w8 own8 grow8 hat8 hlt8)
  have K8 := Cel.of_owns own8
  have bel8 := HB.out.grown grow8 (by rw [HS.out]; omega) (own_ge HO.out)
  have hcap : w.heap.size ≤ g8 ∧ 1 ≤ c8 ∧ c8 ≤ maxLen := by
    rcases own8.2 with ⟨q, _⟩ | ⟨g', cap', cur, q, q3, _, q1, q2, _⟩
    · simp at q
    · simp at q
      obtain ⟨rfl, rfl⟩ := q
      exact ⟨q3, by omega, q2⟩
  go_wp2
  go_ret
  exact ⟨g8, c8, rfl, hcap.1, hcap.2.1, hcap.2.2, K8.congr (by simp), bel8⟩
end Go.Proofs.Ytdocphkpeonldaa.rec_
