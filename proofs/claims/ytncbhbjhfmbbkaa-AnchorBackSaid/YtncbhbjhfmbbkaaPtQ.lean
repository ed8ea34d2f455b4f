/- Patches: the contracts of the law's same, small, two, of Invert, and of the document's Kept. -/
import Derived.Test.YtncbhbjhfmbbkaaPtO
import Derived.Test.YtncbhbjhfmbbkaaPtE
import Derived.Test.YtncbhbjhfmbbkaaPtF
namespace Go.Proofs.Ytncbhbjhfmbbkaa
open Go.RowKit
set_option linter.unusedVariables false
set_option maxHeartbeats 4000000 in
set_option maxRecDepth 100000 in
theorem pInvert_any (A : Option Addr) (n cp : Nat) (l : List Ch) (w : World) (hA : ChsAt w A l) (hl : l.length = n) (hn : n ≤ 1000000) :
    Calls Try.prog 29 #[.slice A n cp] w fun e w' => ∃ A' c', e = .returned (.slice A' n c') ∧ ChsAt w' A' (cinv l) ∧ Caps A' n c' ∧ Below w.heap.size w w' := by
  have HA := Lib.hid hA; clear hA
  have HL := Lib.hid hl; clear hl
  have HLI := Lib.hid (show (cinv l).length = n from by unfold cinv; rw [List.length_map]; exact HL.out)
  go_enter Try.func29, Try.ntmps29
  obtain ⟨i0, hi0, hz0, hz1, hz2⟩ := info_parts change_info
  go_wp2_with fail
  go_loopg [3, 8] n (fun g v i wr => ∃ (j : Nat), i = .int .i64 j ∧ j ≤ n ∧ n - j ≤ g ∧ Below w.heap.size w wr ∧ Hid (wr.ownsRow w.heap.size 51 4 v j (cflat ((cinv l).take j))))
  case atStart => exact ⟨0, rfl, by omega, by omega, Below.refl _ _, Lib.hid (World.ownsRow_nil _ _ _ _)⟩
  case round =>
    obtain ⟨j, rfl, j1, j2, hb, hown⟩ := hrel
    have hlt4 := hown.out.lt
    have hszw := hb.size
    by_cases hlt : j < n
    · have hjl : j < l.length := by rw [HL.out]; exact hlt
      have hji : j < (cinv l).length := by rw [HLI.out]; exact hlt
      obtain ⟨bA, off, rfl, hbA, d0, d1, d2, d3⟩ := (HA.out.below hb).at1 hjl
      have hci : cth (cinv l) j = ⟨(cth l j).na, (cth l j).nb, (cth l j).oa, (cth l j).ob⟩ := by simp [cth, cinv, List.getD, hjl]
      have hsf := Lib.hid (show cflat ((cinv l).take (j + 1)) = cflat ((cinv l).take j) ++ [.int .i64 (cth l j).na, .int .i64 (cth l j).nb, .int .i64 (cth l j).oa, .int .i64 (cth l j).ob] from by rw [cth_take hji, cflat_append, hci]; rfl)
      clear hci
      generalize cth l j = c at *
      have i1 : (0 : Int) ≤ j := by omega
      have i2 : (j : Int) < n := by omega
      have a4 := (hb.alloc hb.size (.cells #[.int .i64 c.oa, .int .i64 c.ob, .int .i64 c.na, .int .i64 c.nb] 51)).alloc (by simp; omega) (.cells #[.int .i64 c.na, .int .i64 c.nb, .int .i64 c.oa, .int .i64 c.ob] 51)
      go_wp2_with (at_builtin; refine wpList_append_own _ rfl (.tmp 12) (.tmp 18) _ rfl w.heap.size 51 i0 _ 4 32 Try.underlying43 hi0 hz0 hz1 hz2 rfl (by omega) _ j (cflat ((cinv l).take j)) rfl ((hown.out.alloc _).alloc _) ⟨wr.heap.size + 1, 0, none⟩ 1 1 [.int .i64 c.na, .int .i64 c.nb, .int .i64 c.oa, .int .i64 c.ob] rfl rfl (World.news_of_block (cs := #[.int .i64 c.na, .int .i64 c.nb, .int .i64 c.oa, .int .i64 c.ob]) (t := 51) (fr := (0, 0)) (heap_alloc2_new wr _ _)) (by simp [Value.oneCell']) (by simp only [maxLen]; omega) (by omega) (by simp; omega) ?_; intro v4 w4 hown4 hg4 hnil4; clear hnil4)
      have hb4 : Below w.heap.size w w4 := a4.grown hg4 (by simp; omega) (fun k hk => (hlt4 k hk).1)
      have HO4 := Lib.hid hown4
      clear hown4 hg4 a4
      go_wp2
      go_roundg (gk - 1)
      case measure => omega
      case rel => exact ⟨j + 1, by go_num, by omega, by omega, hb4, Lib.hid (by rw [hsf.out]; exact HO4.out)⟩
    · have hj : j = n := by omega
      subst hj
      obtain ⟨A7, c7, e7, hI7, hl7, hC7⟩ := chs_of_own (o := cinv l) (by have := hown.out; rw [List.take_of_length_le (by rw [HLI.out]; omega)] at this; exact this)
      have HI7 := Lib.hid hI7
      have HC7 := Lib.hid hC7
      subst e7
      clear hI7 hC7 hl7 hown
      go_wp2
      go_ret
      exact ⟨A7, c7, rfl, HI7.out, HC7.out, hb⟩
end Go.Proofs.Ytncbhbjhfmbbkaa
