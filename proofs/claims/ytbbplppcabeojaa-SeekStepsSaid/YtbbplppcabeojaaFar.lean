/- A sum's size, and whether it is so far: the contracts of tree.size and of the closure in Find. -/
import Derived.Test.YtbbplppcabeojaaRefAsks
import Derived.Test.YtbbplppcabeojaaTop
namespace Go.Proofs.Ytbbplppcabeojaa
open Go.RowKit
/-- A size of a sum. -/
def ssz (s : S6) (dim : Nat) : Int := if dim = 3 then s.n else if dim = 0 then s.d0 else if dim = 1 then s.d1 else s.d2
theorem ssz_sdim (l : List I7) (ho : Okl l) (dim : Nat) : ssz (sall l) dim = sdim l dim := by
  unfold ssz sdim
  rw [(sall_ok _ l rfl ho).1]
set_option maxHeartbeats 2000000 in
set_option maxRecDepth 100000 in
theorem tsize_any (s : S6) (dim : Nat) (w : World) (hd : dim ≤ 3) :
    Calls Try.prog 82 #[.agg (scs s), .int .i64 dim] w fun e w' => e = .returned (.int .i64 (ssz s dim)) ∧ Below w.heap.size w w' := by
  have hb1 : Below w.heap.size w (w.alloc (.cells (scs s) 52)) := (Below.refl _ _).alloc (Nat.le_refl _) _
  obtain rfl | rfl | rfl | rfl : dim = 3 ∨ dim = 0 ∨ dim = 1 ∨ dim = 2 := by omega
  · have HS := Lib.hid (show ssz s 3 = s.n from rfl)
    unfold scs at *
    go_enter Try.func82, Try.ntmps82
    go_wp2
    go_ret
    exact ⟨ret_int (by rw [HS.out]), hb1⟩
  all_goals
    have hx0 := fun W => idx3_0 s.d0 s.d1 s.d2 W
    have hx1 := fun W => idx3_1 s.d0 s.d1 s.d2 W
    have hx2 := fun W => idx3_2 s.d0 s.d1 s.d2 W
    have HS := Lib.hid (show ssz s 0 = s.d0 ∧ ssz s 1 = s.d1 ∧ ssz s 2 = s.d2 from ⟨rfl, rfl, rfl⟩)
    unfold scs at *
    go_enter Try.func82, Try.ntmps82
    go_wp2
    go_ret
    exact ⟨ret_int (by first | exact HS.out.1.symm | exact HS.out.2.1.symm | exact HS.out.2.2.symm), hb1⟩
/-- The closure's three variables. -/
def Env (w : World) (dim : Nat) (v bi : Int) (bd bv bb : Nat) : Prop := ∀ W, Below w.heap.size w W → W.cell? ⟨bd, 0, none⟩ = some (.int .i64 dim) ∧ W.cell? ⟨bv, 0, none⟩ = some (.int .i64 v) ∧ W.cell? ⟨bb, 0, none⟩ = some (.int .i64 bi)
theorem Env.below {w w' : World} {dim : Nat} {v bi : Int} {bd bv bb : Nat} (h : Env w dim v bi bd bv bb) (hb : Below w.heap.size w w') : Env w' dim v bi bd bv bb := fun W hW => h W (hb.trans (hW.mono hb.size))
set_option maxHeartbeats 4000000 in
set_option maxRecDepth 100000 in
theorem far_any (s : S6) (dim : Nat) (v bi : Int) (bd bv bb : Nat) (w : World) (hd : dim ≤ 3) (hE : Env w dim v bi bd bv bb) (fb : Bool) (hfb : fb = true ↔ Stops (ssz s dim) v bi) :
    Calls Try.prog 83 #[.agg (scs s), .pointer (some ⟨bd, 0, none⟩), .pointer (some ⟨bv, 0, none⟩), .pointer (some ⟨bb, 0, none⟩)] w fun e w' => e = .returned (.bool fb) ∧ Below w.heap.size w w' := by
  have C1 := Lib.hid fun (W : World) => tsize_any s dim W hd
  have hb1 : Below w.heap.size w (w.alloc (.cells (scs s) 52)) := (Below.refl _ _).alloc (Nat.le_refl _) _
  obtain ⟨h0, h1, h2⟩ := hE _ hb1
  have HE := Lib.hid hE
  clear hE
  unfold scs at *
  go_enter Try.func83, Try.ntmps83
  go_wp2_with fail
  refine (C1.out _).mono ?_
  rintro e w2 ⟨rfl, hb2⟩
  have a2 := hb1.trans (hb2.mono hb1.size)
  obtain ⟨k0, k1, k2⟩ := HE.out _ a2
  clear h0 h1 h2
  generalize ssz s dim = z at *
  have HF := Lib.hid hfb; clear hfb
  rcases Int.lt_trichotomy v z with hz | rfl | hz
  · have HX := Lib.hid (ab_yes HF.out (.inl hz))
    go_wp2_with fail
    go_ret
    exact ⟨ret_bool HX.out, a2⟩
  · by_cases hb0 : bi = 0
    · subst hb0
      have HX := Lib.hid (ab_yes HF.out (.inr ⟨rfl, rfl⟩))
      go_wp2_with fail
      go_ret
      exact ⟨ret_bool HX.out, a2⟩
    · have HX := Lib.hid (ab_no HF.out (fun h => by rcases h with h | h <;> omega))
      have hb1 : (bi == 0) = false := by simp [hb0]
      go_wp2_with fail
      go_ret
      exact ⟨ret_bool HX.out, a2⟩
  · have HX := Lib.hid (ab_no HF.out (fun h => by rcases h with h | h <;> omega))
    have hz1 : ¬ (v < z) := by omega
    have hz2 : (z == v) = false := by simp; omega
    go_wp2_with fail
    go_ret
    exact ⟨ret_bool ((decide_eq_false (by omega)).trans HX.out), a2⟩
end Go.Proofs.Ytbbplppcabeojaa
