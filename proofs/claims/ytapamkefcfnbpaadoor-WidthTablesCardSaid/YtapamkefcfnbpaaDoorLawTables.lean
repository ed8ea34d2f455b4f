/- The walk of the law on tables of widths. -/
import Derived.Test.YtapamkefcfnbpaaDoorRefR
import Derived.Test.YtapamkefcfnbpaaDoorRefP
import Derived.Deep.RegionHeld3
namespace Go.Proofs.YtapamkefcfnbpaaDoor
open Go.RowKit
theorem RTab.of_block {w : World} {tb : Nat} {A1 A2 : Option Addr} {c1 c2 : Nat} {zs ws : List (Int × Int)} {t : TypeId} (h : w.heap[tb]? = some (.cells #[.slice A1 zs.length c1, .slice A2 ws.length c2] t (0, 0)))
    (h3 : RngAt w A1 zs) (h4 : RngAt w A2 ws) (h5 : zs.length ≤ 1000000) (h6 : ws.length ≤ 1000000) : RTab w tb zs ws :=
  ⟨A1, A2, c1, c2, block_lt h, by rw [cell_of_row w tb 0 _ t _ h]; rfl, by rw [cell_of_row w tb 1 _ t _ h]; rfl, h3, h4, h5, h6⟩
/-- What stays while calls are made beside a range of the call's own. -/
def RS (X : Nat) (lo hi : Int) (W0 W : World) : Prop := W.cell? ⟨X, 0, none⟩ = some (.int .i32 lo) ∧ W.cell? ⟨X, 1, none⟩ = some (.int .i32 hi) ∧ X < W.heap.size ∧ Below W0.heap.size W0 W
theorem RS.step {X : Nat} {lo hi : Int} {W0 W W' : World} (hb : Below W.heap.size W W') (h : RS X lo hi W0 W) : RS X lo hi W0 W' :=
  ⟨((old_cells hb).1 _ _ h.2.2.1).trans h.1, ((old_cells hb).1 _ _ h.2.2.1).trans h.2.1, Nat.lt_of_lt_of_le h.2.2.1 hb.size, h.2.2.2.trans (hb.mono h.2.2.2.size)⟩
theorem RS.drew {X : Nat} {lo hi : Int} {W0 W : World} (h : RS X lo hi W0 W) : RS X lo hi W0 W.drew := ⟨h.1, h.2.1, h.2.2.1, h.2.2.2.drew⟩
/-- The same, with what is read laid open. -/
theorem RS.all {X : Nat} {lo hi : Int} {W0 W : World} (h : RS X lo hi W0 W) : W.cell? ⟨X, 0, none⟩ = some (.int .i32 lo) ∧ W.cell? ⟨X, 1, none⟩ = some (.int .i32 hi) ∧ RS X lo hi W0 W := ⟨h.1, h.2.1, h⟩
theorem RS.again {X : Nat} {lo hi : Int} {W0 W W' : World} (hb : Below W.heap.size W W') (h : W.cell? ⟨X, 0, none⟩ = some (.int .i32 lo) ∧ W.cell? ⟨X, 1, none⟩ = some (.int .i32 hi) ∧ RS X lo hi W0 W) :
    W'.cell? ⟨X, 0, none⟩ = some (.int .i32 lo) ∧ W'.cell? ⟨X, 1, none⟩ = some (.int .i32 hi) ∧ RS X lo hi W0 W' := (RS.step hb h.2.2).all
theorem RS.bel {X : Nat} {lo hi : Int} {W0 W : World} (h : W.cell? ⟨X, 0, none⟩ = some (.int .i32 lo) ∧ W.cell? ⟨X, 1, none⟩ = some (.int .i32 hi) ∧ RS X lo hi W0 W) : Below W0.heap.size W0 W := h.2.2.2.2.2
theorem RS.new (W : World) (lo hi : Int) (t : TypeId) : RS W.heap.size lo hi W (W.alloc (.cells #[.int .i32 lo, .int .i32 hi] t)) :=
  ⟨by rw [cell_of_row _ _ _ _ t _ (heap_alloc_new W _)]; rfl, by rw [cell_of_row _ _ _ _ t _ (heap_alloc_new W _)]; rfl, by simp, (Below.refl _ _).alloc (Nat.le_refl _) _⟩
set_option maxHeartbeats 1000000 in
set_option maxRecDepth 100000 in
theorem widthTables_long (A1 A2 : Option Addr) (n1 n2 c1 c2 : Nat) (zs ws : List (Int × Int)) (r : Int) (w : World) (h : Tabs w) (hA1 : RngAt w A1 zs) (hA2 : RngAt w A2 ws) (hl1 : zs.length = n1) (hl2 : ws.length = n2)
    (h1 : n1 ≤ 1000) (h2 : n2 ≤ 1000) (ho : 200 < n1 ∨ 200 < n2) :
    Calls Tryd.prog 9 #[.slice A1 n1 c1, .slice A2 n2 c2, .int .i32 r] w fun e w' => e = .returned (.bool true) ∧ Below w.heap.size w w' := by
  have H := Lib.hid h; clear h
  have HL1 := Lib.hid hl1; clear hl1
  have HL2 := Lib.hid hl2; clear hl2
  by_cases g1 : 200 < n1
  all_goals try have g2 : 200 < n2 := by omega
  all_goals
    go_enter Tryd.func9, Tryd.ntmps9
    go_wp2_with fail
    refine (new_long A1 A2 n1 n2 c1 c2 _ (by omega) (by omega) ho).mono ?_
    rintro e w1 ⟨rfl, hb1⟩
    go_wp2_with fail
    refine (refs_any A1 n1 c1 zs _ (hA1.below hb1) HL1.out (by omega)).mono ?_
    rintro e w2 ⟨B1, d1, rfl, hb2, hB1⟩
    go_wp2_with fail
    refine (refs_any A2 n2 c2 ws _ ((hA2.below hb1).below hb2) HL2.out (by omega)).mono ?_
    rintro e w3 ⟨B2, d2, rfl, hb3, hB2⟩
    have a2 := hb1.trans (hb2.mono hb1.size)
    have a3 := a2.trans (hb3.mono a2.size)
    go_wp2_with fail
    refine (three_any _ (H.out.below (a3.alloc a3.size _))).mono ?_
    rintro e w4 ⟨rfl, hb4⟩
    go_wp2_with fail
    go_ret
    have a4 := a3.alloc a3.size (.cells #[.slice B1 n1 d1, .slice B2 n2 d2] 48)
    exact ⟨rfl, a4.trans (hb4.mono a4.size)⟩
set_option maxHeartbeats 1000000 in
set_option maxRecDepth 100000 in
theorem widthTables_form (A1 A2 : Option Addr) (n1 n2 c1 c2 : Nat) (zs ws : List (Int × Int)) (r : Int) (w : World) (h : Tabs w) (hA1 : RngAt w A1 zs) (hA2 : RngAt w A2 ws) (hl1 : zs.length = n1) (hl2 : ws.length = n2)
    (h1 : n1 ≤ 200) (h2 : n2 ≤ 200) (ho : (rightB zs && rightB ws) = false) :
    Calls Tryd.prog 9 #[.slice A1 n1 c1, .slice A2 n2 c2, .int .i32 r] w fun e w' => e = .returned (.bool true) ∧ Below w.heap.size w w' := by
  have H := Lib.hid h; clear h
  have HL1 := Lib.hid hl1; clear hl1
  have HL2 := Lib.hid hl2; clear hl2
  have HO := Lib.hid ho
  cases hz : rightB zs
  · have HZ := Lib.hid hz; clear hz ho
    go_enter Tryd.func9, Tryd.ntmps9
    go_wp2_with fail
    refine (new_form A1 A2 n1 n2 c1 c2 zs ws _ hA1 hA2 HL1.out HL2.out h1 h2 HO.out).mono ?_
    rintro e w1 ⟨rfl, hb1⟩
    go_wp2_with fail
    refine (refs_any A1 n1 c1 zs _ (hA1.below hb1) HL1.out (by omega)).mono ?_
    rintro e w2 ⟨B1, d1, rfl, hb2, hB1⟩
    go_wp2_with fail
    refine (refs_any A2 n2 c2 ws _ ((hA2.below hb1).below hb2) HL2.out (by omega)).mono ?_
    rintro e w3 ⟨B2, d2, rfl, hb3, hB2⟩
    have a2 := hb1.trans (hb2.mono hb1.size)
    have a3 := a2.trans (hb3.mono a2.size)
    have a4 := a3.alloc a3.size (.cells #[.slice B1 n1 d1, .slice B2 n2 d2] 48)
    have b4 := (Below.refl w3.heap.size w3).alloc (Nat.le_refl _) (.cells #[.slice B1 n1 d1, .slice B2 n2 d2] 48)
    go_wp2_with fail
    refine (rright_any B1 n1 d1 zs _ ((hB1.below hb3).below b4) HL1.out (by omega)).mono ?_
    rintro e w5 ⟨rfl, hb5⟩
    rw [HZ.out]
    have a5 := a4.trans (hb5.mono a4.size)
    go_wp2_with fail
    refine (three_any _ (H.out.below a5)).mono ?_
    rintro e w6 ⟨rfl, hb6⟩
    go_wp2_with fail
    go_ret
    exact ⟨rfl, a5.trans (hb6.mono a5.size)⟩
  · have hw : rightB ws = false := by rw [hz] at ho; simpa using ho
    have HZ := Lib.hid hz; clear hz ho
    have HW := Lib.hid hw; clear hw
    go_enter Tryd.func9, Tryd.ntmps9
    go_wp2_with fail
    refine (new_form A1 A2 n1 n2 c1 c2 zs ws _ hA1 hA2 HL1.out HL2.out h1 h2 HO.out).mono ?_
    rintro e w1 ⟨rfl, hb1⟩
    go_wp2_with fail
    refine (refs_any A1 n1 c1 zs _ (hA1.below hb1) HL1.out (by omega)).mono ?_
    rintro e w2 ⟨B1, d1, rfl, hb2, hB1⟩
    go_wp2_with fail
    refine (refs_any A2 n2 c2 ws _ ((hA2.below hb1).below hb2) HL2.out (by omega)).mono ?_
    rintro e w3 ⟨B2, d2, rfl, hb3, hB2⟩
    have a2 := hb1.trans (hb2.mono hb1.size)
    have a3 := a2.trans (hb3.mono a2.size)
    have a4 := a3.alloc a3.size (.cells #[.slice B1 n1 d1, .slice B2 n2 d2] 48)
    have b4 := (Below.refl w3.heap.size w3).alloc (Nat.le_refl _) (.cells #[.slice B1 n1 d1, .slice B2 n2 d2] 48)
    go_wp2_with fail
    refine (rright_any B1 n1 d1 zs _ ((hB1.below hb3).below b4) HL1.out (by omega)).mono ?_
    rintro e w5 ⟨rfl, hb5⟩
    rw [HZ.out]
    have a5 := a4.trans (hb5.mono a4.size)
    obtain ⟨hc5, hf5⟩ := old_cells hb5
    have hz5 : w3.heap.size < (w3.alloc (.cells #[.slice B1 n1 d1, .slice B2 n2 d2] 48)).heap.size := by simp
    go_wp2_with fail
    refine (rright_any B2 n2 d2 ws _ ((hB2.below b4).below hb5) HL2.out (by omega)).mono ?_
    rintro e w7 ⟨rfl, hb7⟩
    rw [HW.out]
    have a7 := a5.trans (hb7.mono a5.size)
    go_wp2_with fail
    refine (three_any _ (H.out.below a7)).mono ?_
    rintro e w6 ⟨rfl, hb6⟩
    go_wp2_with fail
    go_ret
    exact ⟨rfl, a7.trans (hb6.mono a7.size)⟩
end Go.Proofs.YtapamkefcfnbpaaDoor
