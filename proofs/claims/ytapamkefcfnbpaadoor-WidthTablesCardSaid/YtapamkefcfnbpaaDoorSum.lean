/- How many cells runes take together: the contract of (*Table).Sum. -/
import Derived.Test.YtapamkefcfnbpaaDoorTable
namespace Go.Proofs.YtapamkefcfnbpaaDoor
open Go.RowKit
set_option maxHeartbeats 400000 in
theorem sum_with (p : Value) (f : Int → Int) (hf : ∀ r, 0 ≤ f r ∧ f r ≤ 2) (A : Option Addr) (n c : Nat) (l : List Int) (w : World)
    (hof : ∀ r W, Below w.heap.size w W → Calls Tryd.prog 32 #[p, .int .i32 r] W fun e w' => e = .returned (.int .i64 (f r)) ∧ Below W.heap.size W w')
    (hA : IntsAt .i32 w A l) (hl : l.length = n) (hn : n ≤ 1000000) :
    Calls Tryd.prog 36 #[p, .slice A n c] w fun e w' => e = .returned (.int .i64 (l.map f).sum) ∧ Below w.heap.size w w' := by
  have HF := Lib.hid hof; clear hof
  have HL := Lib.hid hl; clear hl
  have HG := Lib.hid hf; clear hf
  have HA := Lib.hid hA; clear hA
  go_enter Tryd.func36, Tryd.ntmps36
  go_wp2
  go_loopg [5, 7, 10] n (fun k s v i wr => ∃ j : Nat, i = .int .i64 j ∧ s = .int .i64 (sumTo f l j) ∧ j ≤ n ∧ n - j ≤ k ∧ Below w.heap.size w wr)
  case atStart => exact ⟨0, rfl, by rw [sumTo_zero], by omega, by omega, Below.refl _ _⟩
  case round =>
    obtain ⟨j, rfl, rfl, h1, h2, hb⟩ := hrel
    by_cases hlt : j < n
    · obtain ⟨b, off, rfl, hbs, hc⟩ := HA.out (by rw [HL.out]; omega)
      have c1 := hc j (by rw [HL.out]; exact hlt)
      clear hc
      obtain ⟨H1, H2⟩ := old_cells hb
      have hs := sumTo_bd HG.out l j (by rw [HL.out]; omega)
      have hd := HG.out (nth l j)
      go_wp2_with fail
      refine (HF.out (nth l j) _ hb).mono ?_
      rintro e w1 ⟨rfl, hb1⟩
      go_wp2_with fail
      go_roundg (gk - 1)
      case measure => omega
      case rel => exact ⟨j + 1, by go_num, by rw [sumTo_succ f l (by rw [HL.out]; exact hlt)], by omega, by omega, hb.trans (hb1.mono hb.size)⟩
    · go_wp2
      go_ret
      exact ⟨ret_int (sumTo_all f l (by rw [HL.out]; omega)), hb⟩
theorem sum_any (tb : Nat) (zs ws : List (Int × Int)) (A : Option Addr) (n c : Nat) (l : List Int) (w : World) (h : TabAt w tb zs ws) (hA : IntsAt .i32 w A l) (hl : l.length = n) (hn : n ≤ 1000000) :
    Calls Tryd.prog 36 #[.pointer (some ⟨tb, 0, none⟩), .slice A n c] w fun e w' => e = .returned (.int .i64 (l.map (wid zs ws)).sum) ∧ Below w.heap.size w w' :=
  sum_with _ _ (wid_bd zs ws) A n c l w (fun r W hb => of_any tb zs ws r W (h.below hb)) hA hl hn
theorem ones (l : List Int) : (l.map fun _ => (1 : Int)).sum = l.length := by
  induction l with
  | nil => rfl
  | cons x r ih => simp only [List.map_cons, List.sum_cons, ih, List.length_cons]; omega
theorem sum_nil (A : Option Addr) (n c : Nat) (l : List Int) (w : World) (hA : IntsAt .i32 w A l) (hl : l.length = n) (hn : n ≤ 1000000) :
    Calls Tryd.prog 36 #[.pointer none, .slice A n c] w fun e w' => e = .returned (.int .i64 n) ∧ Below w.heap.size w w' :=
  (sum_with _ (fun _ => 1) (fun _ => by omega) A n c l w (fun r W _ => of_nil r W) hA hl hn).mono fun e w' ⟨he, hb⟩ => ⟨by rw [he]; exact ret_int (by rw [ones, hl]), hb⟩
end Go.Proofs.YtapamkefcfnbpaaDoor
