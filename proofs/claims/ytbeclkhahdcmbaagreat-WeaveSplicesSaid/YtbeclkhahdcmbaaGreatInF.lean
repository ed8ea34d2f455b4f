/- Inlays: the library's functions at no inlays. -/
import Derived.Test.YtbeclkhahdcmbaaGreatInD
namespace Go.Proofs.YtbeclkhahdcmbaaGreat
open Go.RowKit Go.Sort
set_option linter.unusedVariables false
set_option maxHeartbeats 8000000 in
set_option maxRecDepth 100000 in
theorem iIndexF0 (A : Option Addr) (c : Nat) (K : Value) (w : World) : Calls Tryz.prog 66 #[.slice A 0 c, K] w fun e w' => e = .returned (.int .i64 (-1)) ∧ w' = w := by
  go_enter Tryz.func66, Tryz.ntmps66
  go_wp2_with fail
  go_loopg [8] 0 (fun g i wr => i = .int .i64 0 ∧ wr = w)
  case atStart => exact ⟨rfl, rfl⟩
  case round =>
    obtain ⟨rfl, rfl⟩ := hrel
    go_wp2
    go_ret
    exact ⟨rfl, rfl⟩
set_option maxHeartbeats 8000000 in
set_option maxRecDepth 100000 in
theorem iDelete0 (A : Option Addr) (c : Nat) (K : Value) (w : World) : Calls Tryz.prog 30 #[.slice A 0 c, K] w fun e w' => e = .returned (.slice A 0 c) ∧ w' = w := by
  have CI := Lib.hid (iIndexF0 A c K w)
  go_enter Tryz.func30, Tryz.ntmps30
  go_wp2_with fail
  with_reducible refine (CI.out).mono ?_
  rintro e1 w1 ⟨rfl, rfl⟩
  go_wp2
  go_ret
  exact ⟨rfl, rfl⟩
set_option maxHeartbeats 8000000 in
set_option maxRecDepth 100000 in
theorem iGrow0 (w : World) : Calls Tryz.prog 67 #[.slice none 0 0, .int .i64 0] w fun e w' => e = .returned (.slice none 0 0) ∧ w' = w := by
  go_enter Tryz.func67, Tryz.ntmps67
  go_wp2
  go_ret
  exact ⟨rfl, rfl⟩
set_option maxHeartbeats 8000000 in
set_option maxRecDepth 100000 in
theorem iConcat0 (b : Nat) (A A' : Option Addr) (c c' cap : Nat) (w : World) (h0 : w.cell? ⟨b, 0, none⟩ = some (.slice A 0 c)) (h1 : w.cell? ⟨b, 1, none⟩ = some (.slice A' 0 c')) (hb : b < w.heap.size) (hc : Caps A 0 c) (hc' : Caps A' 0 c') :
    Calls Tryz.prog 32 #[.slice (some ⟨b, 0, none⟩) 2 cap] w fun e w' => ∃ v, e = .returned v ∧ w'.ownsRow w.heap.size 48 5 v 0 [] ∧ Below w.heap.size w w' := by
  have CG := Lib.hid fun W => iGrow0 W
  have ST := in_slt
  have H0 := Lib.hid h0
  have H1 := Lib.hid h1
  have HC := Lib.hid hc
  have HC' := Lib.hid hc'
  clear hc hc'
  go_enter Tryz.func32, Tryz.ntmps32
  go_wp2_with fail
  go_loopg [3, 11] 2 (fun g s i wr => ∃ k : Nat, i = .int .i64 k ∧ s = .int .i64 0 ∧ k ≤ 2 ∧ 2 - k ≤ g ∧ wr = w)
  case atStart => exact ⟨0, rfl, rfl, by omega, by omega, rfl⟩
  case round =>
    obtain ⟨k, rfl, rfl, g1, g2, rfl⟩ := hrel
    have hk : k = 0 ∨ k = 1 ∨ k = 2 := by omega
    rcases hk with rfl | rfl | rfl
    · go_wp2
      go_roundg (gk - 1)
      case measure => omega
      case rel => exact ⟨1, rfl, rfl, by omega, by omega, rfl⟩
    · go_wp2
      go_roundg (gk - 1)
      case measure => omega
      case rel => exact ⟨2, rfl, rfl, by omega, by omega, rfl⟩
    · clear h0 h1
      generalize hW : wr = W0 at *
      have HW := Lib.hid hW
      clear hW
      go_wp2_with fail
      with_reducible refine (CG.out _).mono ?_
      rintro e1 w1 ⟨rfl, rfl⟩
      go_wp2_with fail
      go_loopg [6, 27] 2 (fun g v i wr => ∃ k : Nat, i = .int .i64 k ∧ k ≤ 2 ∧ 2 - k ≤ g ∧ Hid (Below w1.heap.size w1 wr) ∧ Hid (wr.ownsRow w1.heap.size 48 5 v 0 []))
      case atStart => exact ⟨0, rfl, by omega, by omega, Lib.hid (Below.refl _ _), Lib.hid (World.ownsRow_nil _ _ _ _)⟩
      case round =>
        obtain ⟨k, rfl, g1, g2, hbl, hown⟩ := hrel
        have hk : k = 0 ∨ k = 1 ∨ k = 2 := by omega
        have hlt4 := hown.out.lt
        obtain ⟨A3, c3, rfl⟩ := own_formI hown.out
        have f0 := (hbl.out.cell (p := ⟨b, 0, none⟩) hb).trans H0.out
        have f1 := (hbl.out.cell (p := ⟨b, 1, none⟩) hb).trans H1.out
        rcases hk with rfl | rfl | rfl
        · go_wp2_with (at_builtin; refine wpList_appK (enc := encI) ST encI_len (by omega) rfl (.tmp 31) (.tmp 32) rfl (base := w1.heap.size) (v := .slice A3 0 c3) (n := 0) (xs := []) rfl hown.out A 0 c [] rfl (fun h => absurd h (by simp)) HC.out rfl (fun u hu => by simp [kfl] at hu) (by simp only [maxLen]; omega) (by omega) hbl.out.size ?_; intro v5 w5 hown5 hg5 hor5)
          have hb5 := Lib.hid (hbl.out.grown hg5 hbl.out.size (fun j hj => (hlt4 j hj).1))
          have hO5 : Hid (w5.ownsRow w1.heap.size 48 5 v5 0 []) := Lib.hid (by simpa [kfl] using hown5)
          clear hown5 hg5 hor5 f0 f1 hown hbl
          go_wp2
          go_roundg (gk - 1)
          case measure => omega
          case rel => exact ⟨1, rfl, by omega, by omega, hb5, hO5⟩
        · go_wp2_with (at_builtin; refine wpList_appK (enc := encI) ST encI_len (by omega) rfl (.tmp 31) (.tmp 32) rfl (base := w1.heap.size) (v := .slice A3 0 c3) (n := 0) (xs := []) rfl hown.out A' 0 c' [] rfl (fun h => absurd h (by simp)) HC'.out rfl (fun u hu => by simp [kfl] at hu) (by simp only [maxLen]; omega) (by omega) hbl.out.size ?_; intro v5 w5 hown5 hg5 hor5)
          have hb5 := Lib.hid (hbl.out.grown hg5 hbl.out.size (fun j hj => (hlt4 j hj).1))
          have hO5 : Hid (w5.ownsRow w1.heap.size 48 5 v5 0 []) := Lib.hid (by simpa [kfl] using hown5)
          clear hown5 hg5 hor5 f0 f1 hown hbl
          go_wp2
          go_roundg (gk - 1)
          case measure => omega
          case rel => exact ⟨2, rfl, by omega, by omega, hb5, hO5⟩
        · have HO := hown
          have HB := hbl
          clear hown hbl f0 f1
          go_wp2
          go_ret
          exact ⟨_, rfl, by rw [HW.out]; exact HO.out, by rw [HW.out]; exact HB.out⟩
end Go.Proofs.YtbeclkhahdcmbaaGreat
