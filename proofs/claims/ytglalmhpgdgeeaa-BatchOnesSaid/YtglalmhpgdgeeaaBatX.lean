/- Batches: the small case of the laws. -/
import Derived.Test.YtglalmhpgdgeeaaBatC
import Derived.Test.YtglalmhpgdgeeaaRWide
namespace Go.Proofs.Ytglalmhpgdgeeaa
open Go.RowKit
theorem eds_of_block {w : World} {b : Nat} {l : List E3} {cs : Array Value} (h : RawAt 43 w b cs) (hc : cs.toList = eflat l) : EdsAt w (some ⟨b, 0, none⟩) l := by
  intro _
  refine ⟨b, 0, rfl, RawAt.lt h, fun k hk => ?_⟩
  obtain ⟨c0, c1, c2⟩ := eflat_at l k hk
  have key : ∀ j u, (eflat l)[j]? = some u → w.cell? ⟨b, 0 + j, none⟩ = some u := fun j u hu => by
    rw [RawAt.cell h, ← Array.getElem?_toList, hc, Nat.zero_add]; exact hu
  exact ⟨key _ _ c0, by rw [Nat.add_assoc]; exact key _ _ c1, by rw [Nat.add_assoc]; exact key _ _ c2⟩
/-- The small case's edits. -/
def axL : List E3 := [⟨1, 2, ⟨#[120, 121]⟩⟩, ⟨3, 3, ⟨#[122]⟩⟩]
theorem ax_dec : dec ⟨#[97, 98, 99, 100]⟩ = [97, 98, 99, 100] := by decide
theorem ax_d1 : dec ⟨#[120, 121]⟩ = [120, 121] := by decide
theorem ax_d2 : dec ⟨#[122]⟩ = [122] := by decide
theorem ax_grow : egrow axL = 2 := by simp [egrow, egro, axL, ax_d1, ax_d2]
theorem ax_flt : bflt 4 axL = 0 := by
  unfold bflt
  rw [ax_grow, show bchk 4 axL = 0 from by decide]
  decide
theorem ax_put : eput [97, 98, 99, 100] axL = [97, 120, 121, 99, 122, 100] := by simp [eput, axL, ax_d1, ax_d2]
theorem ax_inv : eth (einv [97, 98, 99, 100] 0 axL) 1 = ⟨4, 5, txt []⟩ := by simp [einv, axL, ax_d1, ax_d2, egro, eth]
set_option maxHeartbeats 4000000 in
set_option maxRecDepth 100000 in
theorem axyczd_any (w : World) : Calls Try.prog 12 #[] w fun e w' => e = .returned (.bool true) ∧ Below w.heap.size w w' := by
  have CN := Lib.hid (rnew_any ⟨#[97, 98, 99, 100]⟩ w (by decide) (by rw [ax_dec]; decide))
  go_enter Try.func12, Try.ntmps12
  go_wp2_with fail
  refine CN.out.mono ?_
  rintro e w1 ⟨b, ps, h, rfl, hR, hf, hb1⟩
  rw [ax_dec] at hf
  have HR := Lib.hid hR
  have x2 : Below w1.heap.size w1 (w1.alloc (.cells #[.int .i64 1, .int .i64 2, .string ⟨#[120, 121]⟩, .int .i64 3, .int .i64 3, .string ⟨#[122]⟩] 43)) := (Below.refl _ _).alloc (Nat.le_refl _) _
  have R2 : RawAt 43 (w1.alloc (.cells #[.int .i64 1, .int .i64 2, .string ⟨#[120, 121]⟩, .int .i64 3, .int .i64 3, .string ⟨#[122]⟩] 43)) w1.heap.size #[.int .i64 1, .int .i64 2, .string ⟨#[120, 121]⟩, .int .i64 3, .int .i64 3, .string ⟨#[122]⟩] := heap_alloc_new w1 _
  have HE2 := Lib.hid (eds_of_block (l := axL) R2 rfl)
  have hss : ∀ e ∈ axL, e.x.size ≤ 100000000 := by
    intro e he
    rcases List.mem_cons.1 he with rfl | he
    · decide
    · obtain rfl := List.mem_singleton.1 he; decide
  have hfl : bflt ps.flatten.length axL = 0 := by rw [hf]; exact ax_flt
  have C1 := Lib.hid (bapply_yes (HR.out.below x2) (some ⟨w1.heap.size, 0, none⟩) 2 2 axL HE2.out rfl hss hfl)
  have CI := Lib.hid fun (W : World) (hW : Below (w1.alloc (.cells #[.int .i64 1, .int .i64 2, .string ⟨#[120, 121]⟩, .int .i64 3, .int .i64 3, .string ⟨#[122]⟩] 43)).heap.size (w1.alloc (.cells #[.int .i64 1, .int .i64 2, .string ⟨#[120, 121]⟩, .int .i64 3, .int .i64 3, .string ⟨#[122]⟩] 43)) W) => (binv_yes ((HR.out.below x2).below hW) (some ⟨w1.heap.size, 0, none⟩) 2 2 axL (HE2.out.below hW) rfl (fun e he => by have := hss e he; omega) hfl).mono fun e w' ⟨A', c', he, hI, hC, hb⟩ => (by
    have h1 := hI (by rw [einv_len]; decide)
    obtain ⟨bA, off, rfl, hbA, hc⟩ := h1
    have h2 := hc 1 (by rw [einv_len]; decide)
    rw [hf, ax_inv] at h2
    exact ⟨bA, off, c', he, hbA, h2.1, h2.2.1, h2.2.2, hb⟩ : ∃ bA off c', e = Ending.returned (.tuple #[.slice (some ⟨bA, off, none⟩) 2 c', .int .i64 0]) ∧ bA < w'.heap.size ∧ w'.cell? ⟨bA, off + 1 * 3, none⟩ = some (Value.int .i64 4) ∧ w'.cell? ⟨bA, off + 1 * 3 + 1, none⟩ = some (Value.int .i64 5) ∧ w'.cell? ⟨bA, off + 1 * 3 + 2, none⟩ = some (Value.string (txt [])) ∧ Below W.heap.size W w')
  have CZ := Lib.hid fun (W : World) (hW : Below (w1.alloc (.cells #[.int .i64 1, .int .i64 2, .string ⟨#[120, 121]⟩, .int .i64 3, .int .i64 3, .string ⟨#[122]⟩] 43)).heap.size (w1.alloc (.cells #[.int .i64 1, .int .i64 2, .string ⟨#[120, 121]⟩, .int .i64 3, .int .i64 3, .string ⟨#[122]⟩] 43)) W) => bsize_any 4 0 (some ⟨w1.heap.size, 0, none⟩) 2 2 axL W (HE2.out.below hW) rfl ((echk_ris (n := 4) (p := 0) (l := axL)).1 (by decide)) (by decide) (by decide) (fun e he => by have := hss e he; omega)
  rw [ax_grow] at CZ
  obtain ⟨W2, hW2⟩ : ∃ W2, W2 = w1.alloc (.cells #[.int .i64 1, .int .i64 2, .string ⟨#[120, 121]⟩, .int .i64 3, .int .i64 3, .string ⟨#[122]⟩] 43) := ⟨_, rfl⟩
  rw [← hW2] at C1 CI CZ x2
  have HW2 := Lib.hid hW2
  clear hW2 R2 HE2 hss
  go_wp2_with fail
  rw [← HW2.out]
  refine C1.out.mono ?_
  rintro e w3 ⟨b3, ps3, h3, rfl, hR3, hf3, hb3⟩
  rw [hf, ax_put] at hf3
  have HR3 := Lib.hid hR3
  have HF3 := Lib.hid hf3
  clear hR3 hf3 hR hf C1 hfl
  go_wp2_with fail
  refine (CI.out _ hb3).mono ?_
  rintro e w4 ⟨bA, off, c4, rfl, hbA, e0, e1, e2, hb4⟩
  have q4 := hb3.trans (hb4.mono hb3.size)
  have CT := Lib.hid (by
    have := rtext_any (HR3.out.below hb4)
    rwa [HF3.out, show txt [97, 120, 121, 99, 122, 100] = ⟨#[97, 120, 121, 99, 122, 100]⟩ from by decide] at this : Calls Try.prog 17 #[.pointer (some ⟨b3, 0, none⟩)] w4 fun e w' => e = .returned (.string ⟨#[97, 120, 121, 99, 122, 100]⟩) ∧ Below w4.heap.size w4 w')
  rw [show txt [] = ⟨#[]⟩ from by decide] at e2
  rw [Nat.one_mul] at e0 e1 e2
  go_wp2_with fail
  refine CT.out.mono ?_
  rintro e w5 ⟨rfl, hb5⟩
  have q5 := q4.trans (hb5.mono q4.size)
  have u0 := ((old_cells hb5).1 _ _ hbA).trans e0
  have u1 := ((old_cells hb5).1 _ _ hbA).trans e1
  have u2 := ((old_cells hb5).1 _ _ hbA).trans e2
  go_wp2_with fail
  refine (CZ.out _ q5).mono ?_
  rintro e w6 ⟨rfl, hb6⟩
  have q6 := q5.trans (hb6.mono q5.size)
  go_wp2_with fail
  go_ret
  exact ⟨rfl, hb1.trans ((x2.trans (q6.mono x2.size)).mono hb1.size)⟩
end Go.Proofs.Ytglalmhpgdgeeaa
