/- How many cells a rune takes by a table: the contract of (*Table).Of. -/
import Derived.Test.YtbalafgoengppaaDoorWithin
namespace Go.Proofs.YtbalafgoengppaaDoor
open Go.RowKit
/-- How many cells a rune takes by ranges of none and of two. -/
def wid (zs ws : List (Int × Int)) (r : Int) : Int := if inR zs r then 0 else if inR ws r then 2 else 1
theorem wid_bd (zs ws : List (Int × Int)) (r : Int) : 0 ≤ wid zs ws r ∧ wid zs ws r ≤ 2 := by
  unfold wid; split <;> try split
  all_goals omega

/-- A table lies in a block: its ranges of none, and of two. -/
def TabAt (w : World) (tb : Nat) (zs ws : List (Int × Int)) : Prop :=
  ∃ (A1 A2 : Option Addr) (c1 c2 : Nat), tb < w.heap.size ∧ w.cell? ⟨tb, 0, none⟩ = some (.slice A1 zs.length c1) ∧ w.cell? ⟨tb, 1, none⟩ = some (.slice A2 ws.length c2) ∧
    RngAt w A1 zs ∧ RngAt w A2 ws ∧ zs.length ≤ 1000000 ∧ ws.length ≤ 1000000 ∧ Srt zs ∧ Srt ws
theorem TabAt.below {w w' : World} {tb : Nat} {zs ws : List (Int × Int)} (h : TabAt w tb zs ws) (hb : Below w.heap.size w w') : TabAt w' tb zs ws := by
  obtain ⟨A1, A2, c1, c2, h0, h1, h2, h3, h4, h5⟩ := h
  exact ⟨A1, A2, c1, c2, Nat.lt_of_lt_of_le h0 hb.size, ((old_cells hb).1 _ _ h0).trans h1, ((old_cells hb).1 _ _ h0).trans h2, h3.below hb, h4.below hb, h5⟩

set_option maxHeartbeats 400000 in
theorem of_any (tb : Nat) (zs ws : List (Int × Int)) (r : Int) (w : World) (h : TabAt w tb zs ws) :
    Calls Tryd.prog 44 #[.pointer (some ⟨tb, 0, none⟩), .int .i32 r] w fun e w' => e = .returned (.int .i64 (wid zs ws r)) ∧ Below w.heap.size w w' := by
  obtain ⟨A1, A2, c1, c2, h0, h1, h2, h3, h4, h5, h6, h7, h8⟩ := h
  generalize hl1 : zs.length = n1 at *
  generalize hl2 : ws.length = n2 at *
  have H1 := Lib.hid hl1; clear hl1
  have H2 := Lib.hid hl2; clear hl2
  cases hz : inR zs r
  · cases hw : inR ws r
    all_goals
      have Hz := Lib.hid hz; clear hz
      have Hw := Lib.hid hw; clear hw
      go_enter Tryd.func44, Tryd.ntmps44
      go_wp2_with fail
      refine (within_any A1 n1 c1 zs r w h3 H1.out h5 h7).mono ?_
      rintro e w1 ⟨rfl, hb1⟩
      rw [Hz.out]
      obtain ⟨hc1, hf1⟩ := old_cells hb1
      go_wp2_with fail
      refine (within_any A2 n2 c2 ws r _ (h4.below hb1) H2.out h6 h8).mono ?_
      rintro e w2 ⟨rfl, hb2⟩
      rw [Hw.out]
      go_wp2_with fail
      go_ret
      exact ⟨ret_int (by simp [wid, Hz.out, Hw.out]), hb1.trans (hb2.mono hb1.size)⟩
  · have Hz := Lib.hid hz; clear hz
    go_enter Tryd.func44, Tryd.ntmps44
    go_wp2_with fail
    refine (within_any A1 n1 c1 zs r w h3 H1.out h5 h7).mono ?_
    rintro e w1 ⟨rfl, hb1⟩
    rw [Hz.out]
    go_wp2_with fail
    go_ret
    exact ⟨ret_int (by simp [wid, Hz.out]), hb1⟩

theorem of_nil (r : Int) (w : World) : Calls Tryd.prog 44 #[.pointer none, .int .i32 r] w fun e w' => e = .returned (.int .i64 1) ∧ Below w.heap.size w w' := by
  go_enter Tryd.func44, Tryd.ntmps44
  go_wp2
  go_ret
  exact ⟨rfl, Below.refl _ _⟩
end Go.Proofs.YtbalafgoengppaaDoor
