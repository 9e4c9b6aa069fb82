/- Layer 10: the statement's own example. -/
import Derived.Test.YtbdbcjhahlofiaaDoorCooE
namespace Go.Proofs.YtbdbcjhahlofiaaDoor.coo
open Go.Sort (grow)
open Go.ChangeShapes Go.WideShapes Go.ChangeAt Go.RowKit kit oct
open dig (Starts Added)
open mac (macS macS_size mac_any refmac_any is_any)
set_option maxRecDepth 100000

def fillS : ByteArray := ⟨#[48, 49, 50, 51, 52, 53, 54, 55, 56, 57, 97, 98, 99, 100, 101, 102]⟩
/-- Sixteen bytes. -/
def rnd (s : ByteArray) : ByteArray := (s ++ fillS).extract 0 16
theorem rnd_size (s : ByteArray) : (rnd s).size = 16 := by
  have h : fillS.size = 16 := rfl
  unfold rnd
  simp [ByteArray.size_append, h]
theorem rnd_any (s : ByteArray) (w : World) (hs : s.size ≤ 140737488351232) : Calls Tryd.prog 7 #[.string s] w fun e w' => e = .returned (.string (rnd s)) ∧ w' = w := by
  have h : (⟨#[48, 49, 50, 51, 52, 53, 54, 55, 56, 57, 97, 98, 99, 100, 101, 102]⟩ : ByteArray).size = 16 := rfl
  have hsl : ∀ w, (Instr.slice 9 (.string (s ++ (⟨#[48, 49, 50, 51, 52, 53, 54, 55, 56, 57, 97, 98, 99, 100, 101, 102]⟩ : ByteArray))) none (some (.int .i64 16)) none).run Tryd.prog w = .ok (.string (rnd s)) w := fun w => run_slice_string_h (P := Tryd.prog) w 9 (s ++ (⟨#[48, 49, 50, 51, 52, 53, 54, 55, 56, 57, 97, 98, 99, 100, 101, 102]⟩ : ByteArray)) Tryd.underlying9 .i64 16 (by omega) (by rw [ByteArray.size_append, h]; omega)
  go_enter Tryd.func7, Tryd.ntmps7
  go_wp2_with fail
  go_ret
  exact ⟨rfl, rfl⟩
theorem body_put {b m : ByteArray} (h : m.size = 20) : body (b ++ m) = b ∧ tail (b ++ m) = m := by
  have hs : (b ++ m).size = b.size + 20 := by rw [ByteArray.size_append, h]
  unfold body tail
  rw [hs, Nat.add_sub_cancel]
  exact ⟨ext_left _ _ _ rfl, ext_right _ _ _ _ rfl hs⟩
/-- What was put is got. -/
theorem get_put {key : ByteArray} {c : Ck} (h : c.may) (g : c.wf) (now : Int) : getC key (c.bytes ++ macS key c.bytes) = c ∧ getE key (c.bytes ++ macS key c.bytes) now = (if lateP c now then 101 else 0) ∧ getT key (c.bytes ++ macS key c.bytes) now = (if lateP c now then now - c.made - 600 else 0) := by
  have hm := macS_size key c.bytes
  obtain ⟨hb, ht⟩ := body_put (b := c.bytes) hm
  have hz : (c.bytes ++ macS key c.bytes).size = 104 := by rw [ByteArray.size_append, hm, bytes_size h]
  have ho := okR_bytes h g
  have hr := readC_bytes h g
  refine ⟨?_, ?_, ?_⟩
  · unfold getC
    rw [hb, ht, if_pos ⟨by omega, rfl⟩, hr]
  · unfold getE
    rw [hb, ht, if_neg (by omega), if_pos rfl, if_pos ho, hr]
  · unfold getT
    rw [hb, ht, hr]
    by_cases hl : lateP c now
    · rw [if_pos ⟨by omega, rfl, ho, hl⟩, if_pos hl]
    · rw [if_neg (fun q => hl q.2.2.2), if_neg hl]
def c0 : Ck := ⟨0, 1, 2, 0, 0, 0, 0, 0, 0, 0, 0, 0, 0, 0, rnd ⟨#[]⟩, rnd ⟨#[120]⟩⟩
theorem c0_may : c0.may := ⟨by decide, by decide, by decide, ⟨by decide, by decide⟩, ⟨by decide, by decide⟩, ⟨by decide, by decide⟩, ⟨by decide, by decide⟩, rnd_size _, rnd_size _⟩
theorem c0_wf : c0.wf := ⟨by decide, by decide, ⟨by decide, by decide⟩, ⟨by decide, by decide⟩, ⟨by decide, by decide⟩, ⟨by decide, by decide⟩, ⟨by decide, by decide⟩, ⟨by decide, by decide⟩, ⟨by decide, by decide⟩, ⟨by decide, by decide⟩, ⟨by decide, by decide⟩, ⟨by decide, by decide⟩, ⟨by decide, by decide⟩, ⟨by decide, by decide⟩, ⟨by decide, by decide⟩, by rw [show c0.X.size = 16 from rnd_size _]; decide, by rw [show c0.Y.size = 16 from rnd_size _]; decide⟩
set_option maxHeartbeats 4000000 in
theorem awake10 (w : World) (S0 : Starts w) (A : Added w) : Calls Tryd.prog 9 #[] w fun e w' => e = .returned (.bool true) ∧ Below w.heap.size w w' := by
  have r1 := fun w => rnd_any ⟨#[]⟩ w (by decide)
  have r2 := fun w => rnd_any ⟨#[120]⟩ w (by decide)
  have hP := fun w S0 A => put_yes ⟨#[107]⟩ c0 c0_may c0_wf w S0 A (by decide)
  have hz : (c0.bytes ++ macS ⟨#[107]⟩ c0.bytes).size ≤ 900000 := by rw [ByteArray.size_append, macS_size, bytes_size c0_may]; decide
  have hG := fun w S0 A => get_any ⟨#[107]⟩ (c0.bytes ++ macS ⟨#[107]⟩ c0.bytes) 5 w S0 A (by decide) hz (by decide)
  obtain ⟨g1, g2, g3⟩ := get_put (key := ⟨#[107]⟩) c0_may c0_wf 5
  rw [g1, g2, g3, if_neg (by rintro ⟨_, h⟩; exact absurd h (by decide)), if_neg (by rintro ⟨_, h⟩; exact absurd h (by decide))] at hG
  clear g1 g2 g3 hz
  generalize c0.bytes ++ macS ⟨#[107]⟩ c0.bytes = S at *
  have HS := Lib.hid S0
  have HA := Lib.hid A
  clear S0 A
  unfold c0 Ck.cells at hP hG
  simp only at hP hG
  generalize rnd ⟨#[]⟩ = X at *
  generalize rnd ⟨#[120]⟩ = Y at *
  go_enter Tryd.func9, Tryd.ntmps9
  go_wp2_with fail
  refine (r1 _).mono ?_
  rintro e w1 ⟨rfl, rfl⟩
  go_wp2_with fail
  refine (r2 _).mono ?_
  rintro e w1 ⟨rfl, rfl⟩
  go_wp2_with fail
  refine (hP _ HS.out HA.out).mono ?_
  rintro e w2 ⟨rfl, hb2⟩
  go_wp2_with fail
  refine (hG _ (HS.out.below hb2) (HA.out.below hb2)).mono ?_
  rintro e w3 ⟨rfl, hb3⟩
  have bel := hb2.trans (hb3.mono hb2.size)
  clear hP hG r1 r2 HS HA hb2 hb3
  go_wp2_with fail
  go_ret
  exact ⟨rfl, bel.alloc bel.size _⟩
end Go.Proofs.YtbdbcjhahlofiaaDoor.coo
