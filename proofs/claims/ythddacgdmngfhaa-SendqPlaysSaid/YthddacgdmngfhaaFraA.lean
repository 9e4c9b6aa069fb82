/- Layer 19: a message in parts: rows of chunks. -/
import Derived.Test.YthddacgdmngfhaaRows
import Derived.Test.YthddacgdmngfhaaKitD
import Derived.Outline
import Derived.OwnWalk
import Derived.BigQuiet
import Derived.LoopTactic
import Derived.Deep.CutBlock
import Derived.Deep.DeepCutAuto
import Derived.Deep.RegionWith
import Derived.BigRegion
import Derived.Deep.AppendLies
import Derived.Deep.RegionLaw
import Derived.Deep.RegionHeld3
import Derived.StillTailTactics
namespace Go.Proofs.Ythddacgdmngfhaa.fra
open Go.Sort (grow)
open Go.ChangeShapes Go.WideShapes Go.ChangeAt Go.RowKit kit
set_option maxRecDepth 100000

/-- A chunk of data's cells: flags, stream, place, protocol, bytes. -/
def ck (f st ss pr : Int) (d : ByteArray) : Array Value := #[.int .i64 0, .int .i64 f, .int .u32 0, .int .i64 st, .int .i64 ss, .int .u32 pr, .string d, .int .u32 0, .int .u32 0, .int .i64 0, .int .i64 0, .slice none 0 0, .slice none 0 0, .slice none 0 0, .slice none 0 0]
theorem ck_size (f st ss pr : Int) (d : ByteArray) : (ck f st ss pr d).size = 15 := rfl
theorem ck_one (f st ss pr : Int) (d : ByteArray) : (ck f st ss pr d).all (·.oneCell') = true := by kernel_rfl
theorem flat_len {α : Type} (f : Nat → List α) (c : Nat) (hf : ∀ i, (f i).length = c) : ∀ n, ((List.range n).flatMap f).length = n * c
  | 0 => by simp
  | n + 1 => by rw [List.range_succ, List.flatMap_append, List.length_append, flat_len f c hf n]; simp [hf, Nat.succ_mul]
theorem flat_piece {α : Type} (f : Nat → List α) (c : Nat) (hf : ∀ i, (f i).length = c) : ∀ n i, i < n → (((List.range n).flatMap f).drop (i * c)).take c = f i
  | 0, _, h => by omega
  | n + 1, i, h => by
    have hl := flat_len f c hf n
    rw [List.range_succ, List.flatMap_append]
    rcases Nat.lt_or_ge i n with q | q
    · have h1 : i * c + c ≤ n * c := by
        have := Nat.mul_le_mul_right c (show i + 1 ≤ n from q)
        rwa [Nat.succ_mul] at this
      rw [List.drop_append_of_le_length (by omega), List.take_append_of_le_length (by rw [List.length_drop, hl]; omega)]
      exact flat_piece f c hf n i q
    · obtain rfl : i = n := by omega
      rw [List.drop_append, hl, Nat.sub_self, List.drop_of_length_le (by omega)]
      simp
      exact List.take_of_length_le (by rw [hf]; exact Nat.le_refl _)
/-- The rows of so many parts. -/
def rows (f st ss pr : Int) (D : ByteArray) (z n : Nat) : List Value := (List.range n).flatMap fun i => (ck f st ss pr (D.extract (i * z) (i * z + z))).toList
theorem rows_len (f st ss pr : Int) (D : ByteArray) (z n : Nat) : (rows f st ss pr D z n).length = n * 15 := flat_len _ 15 (fun _ => rfl) n
theorem rows_succ (f st ss pr : Int) (D : ByteArray) (z n : Nat) : rows f st ss pr D z (n + 1) = rows f st ss pr D z n ++ (ck f st ss pr (D.extract (n * z) (n * z + z))).toList := by
  unfold rows
  rw [List.range_succ, List.flatMap_append]
  simp
theorem rows_cel {w : World} {h z n : Nat} {f st ss pr : Int} {D : ByteArray} (K : Cel w h 0 (rows f st ss pr D z n).toArray) (i : Nat) (hi : i < n) : Cel w h (i * 15) (ck f st ss pr (D.extract (i * z) (i * z + z))) := by
  have := K.sub (i * 15) (i * 15 + 15)
  rw [Nat.zero_add] at this
  refine this.congr ?_
  apply Array.ext'
  rw [Array.toList_extract]
  simp only [List.extract_eq_take_drop, Nat.add_sub_cancel_left]
  exact flat_piece _ 15 (fun _ => rfl) n i hi
theorem infoC : (Try.prog.info? 40).map (fun i => (i.zero, i.size)) = some (some (.agg (ck 0 0 0 0 ⟨#[]⟩)), 15) := by kernel_rfl
theorem infoCb : (Try.prog.info? 40).map (fun i => (i.zero, i.size, i.bytes)) = some (some (.agg (ck 0 0 0 0 ⟨#[]⟩)), 15, 184) := by kernel_rfl
/-- A message's cells. -/
abbrev ms (st ss : Int) (lo : Bool) (pr : Int) (D : ByteArray) : Array Value := #[.int .i64 st, .int .i64 ss, .bool lo, .int .u32 pr, .string D]
end Go.Proofs.Ythddacgdmngfhaa.fra
