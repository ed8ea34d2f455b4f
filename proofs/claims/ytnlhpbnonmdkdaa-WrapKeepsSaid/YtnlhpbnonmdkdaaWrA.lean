/- Wrap: right, Hang, hung, sizes; the document's Right, Hang. -/
import Derived.Test.YtnlhpbnonmdkdaaBrU
import Derived.Test.YtnlhpbnonmdkdaaWrP
namespace Go.Proofs.Ytnlhpbnonmdkdaa
open Go.RowKit
set_option linter.unusedVariables false
set_option maxHeartbeats 4000000 in
set_option maxRecDepth 100000 in
theorem wright_yes (w : Int) (W : World) (h1 : 0 ≤ w) (h2 : w ≤ 200) : Calls Try.prog 42 #[.int .i64 w] W fun e W' => e = .returned (.bool true) ∧ Below W.heap.size W W' := by
  have k1 : decide (0 ≤ w) = true := decide_eq_true h1
  have k2 : decide (w ≤ 200) = true := decide_eq_true h2
  go_enter Try.func42, Try.ntmps42
  go_wp2
  go_ret
  exact ⟨rfl, Below.refl _ _⟩
set_option maxHeartbeats 4000000 in
set_option maxRecDepth 100000 in
theorem wright_low (w : Int) (W : World) (h1 : w < 0) : Calls Try.prog 42 #[.int .i64 w] W fun e W' => e = .returned (.bool false) ∧ Below W.heap.size W W' := by
  have k1 : decide (0 ≤ w) = false := decide_eq_false (by omega)
  go_enter Try.func42, Try.ntmps42
  go_wp2
  go_ret
  exact ⟨rfl, Below.refl _ _⟩
set_option maxHeartbeats 4000000 in
set_option maxRecDepth 100000 in
theorem wright_high (w : Int) (W : World) (h1 : 0 ≤ w) (h2 : 200 < w) : Calls Try.prog 42 #[.int .i64 w] W fun e W' => e = .returned (.bool false) ∧ Below W.heap.size W W' := by
  have k1 : decide (0 ≤ w) = true := decide_eq_true h1
  have k2 : decide (w ≤ 200) = false := decide_eq_false (by omega)
  go_enter Try.func42, Try.ntmps42
  go_wp2
  go_ret
  exact ⟨rfl, Below.refl _ _⟩
theorem wright_any (w : Int) (r : Bool) (hr : r = true ↔ 0 ≤ w ∧ w ≤ 200) (W : World) : Calls Try.prog 42 #[.int .i64 w] W fun e W' => e = .returned (.bool r) ∧ Below W.heap.size W W' := by
  by_cases h1 : 0 ≤ w
  · by_cases h2 : w ≤ 200
    · obtain rfl : r = true := hr.2 ⟨h1, h2⟩
      exact wright_yes w W h1 h2
    · obtain rfl : r = false := by cases r; rfl; exact absurd (hr.1 rfl).2 h2
      exact wright_high w W h1 (by omega)
  · obtain rfl : r = false := by cases r; rfl; exact absurd (hr.1 rfl).1 h1
    exact wright_low w W (by omega)
set_option maxHeartbeats 4000000 in
set_option maxRecDepth 100000 in
theorem rright_yes (w : Int) (W : World) (h1 : 0 ≤ w) (h2 : w ≤ 200) : Calls Try.prog 32 #[.int .i64 w] W fun e W' => e = .returned (.bool true) ∧ Below W.heap.size W W' := by
  have k1 : decide (0 ≤ w) = true := decide_eq_true h1
  have k2 : decide (w ≤ 200) = true := decide_eq_true h2
  go_enter Try.func32, Try.ntmps32
  go_wp2
  go_ret
  exact ⟨rfl, Below.refl _ _⟩
set_option maxHeartbeats 4000000 in
set_option maxRecDepth 100000 in
theorem rright_low (w : Int) (W : World) (h1 : w < 0) : Calls Try.prog 32 #[.int .i64 w] W fun e W' => e = .returned (.bool false) ∧ Below W.heap.size W W' := by
  have k1 : decide (0 ≤ w) = false := decide_eq_false (by omega)
  go_enter Try.func32, Try.ntmps32
  go_wp2
  go_ret
  exact ⟨rfl, Below.refl _ _⟩
set_option maxHeartbeats 4000000 in
set_option maxRecDepth 100000 in
theorem rright_high (w : Int) (W : World) (h1 : 0 ≤ w) (h2 : 200 < w) : Calls Try.prog 32 #[.int .i64 w] W fun e W' => e = .returned (.bool false) ∧ Below W.heap.size W W' := by
  have k1 : decide (0 ≤ w) = true := decide_eq_true h1
  have k2 : decide (w ≤ 200) = false := decide_eq_false (by omega)
  go_enter Try.func32, Try.ntmps32
  go_wp2
  go_ret
  exact ⟨rfl, Below.refl _ _⟩
theorem rright_any (w : Int) (r : Bool) (hr : r = true ↔ 0 ≤ w ∧ w ≤ 200) (W : World) : Calls Try.prog 32 #[.int .i64 w] W fun e W' => e = .returned (.bool r) ∧ Below W.heap.size W W' := by
  by_cases h1 : 0 ≤ w
  · by_cases h2 : w ≤ 200
    · obtain rfl : r = true := hr.2 ⟨h1, h2⟩
      exact rright_yes w W h1 h2
    · obtain rfl : r = false := by cases r; rfl; exact absurd (hr.1 rfl).2 h2
      exact rright_high w W h1 (by omega)
  · obtain rfl : r = false := by cases r; rfl; exact absurd (hr.1 rfl).1 h1
    exact rright_low w W (by omega)
set_option maxHeartbeats 4000000 in
set_option maxRecDepth 100000 in
theorem wHang_any (A : Option Addr) (n c : Nat) (l : List Cl) (w : Int) (W : World) (hA : RowsAt encC 4 W A l) (hl : l.length = n) (hc : Caps A n c) (hn : n ≤ 1000000) (hw : W02 l) :
    Calls Try.prog 30 #[.slice A n c, .int .i64 w] W fun e W' => e = .returned (.int .i64 (hangN l w)) ∧ Below W.heap.size W W' := by
  have CI := Lib.hid fun (V : World) (hV : Below W.heap.size W V) => bIndent A n c l V (hA.below hV) hl hc hn hw
  have hi := ind_bd hw
  have HH : Hid (hangN l w = if w < 0 ∨ 200 < w ∨ w - 2 < ind l then 0 else ind l) := Lib.hid rfl
  generalize ind l = x at *
  obtain ⟨x1, x2⟩ := hi
  clear hA hl hc hn hw
  by_cases h1 : 0 ≤ w ∧ w ≤ 200
  · have CR := Lib.hid fun (V : World) => wright_any w true (by simp [h1]) V
    obtain ⟨g1, g2⟩ := h1
    by_cases h0 : w = 0
    · have HE := Lib.hid (HH.out.trans (if_pos (by omega)))
      have k1 : (w == 0) = true := by simp [h0]
      have k2 : decide (w = 0) = true := decide_eq_true h0
      clear h0 g1 g2
      go_enter Try.func30, Try.ntmps30
      go_wp2_with (go_at_call 42; refine (CR.out _).mono ?_; rintro e w1 ⟨rfl, hb1⟩; have HB1 := Lib.hid hb1; clear hb1)
      go_ret
      exact ⟨by rw [HE.out]; rfl, HB1.out⟩
    · have k1 : (w == 0) = false := by simpa using h0
      have k2 : decide (w = 0) = false := decide_eq_false h0
      by_cases h3 : w - 2 < x
      · have HE := Lib.hid (HH.out.trans (if_pos (by omega)))
        have k3 : decide (w - 2 < x) = true := decide_eq_true h3
        clear h0
        go_enter Try.func30, Try.ntmps30
        go_wp2_with (first | (go_at_call 42; refine (CR.out _).mono ?_; rintro e w1 ⟨rfl, hb1⟩; have HB1 := Lib.hid hb1; clear hb1) | (go_at_call 19; refine (CI.out _ HB1.out).mono ?_; rintro e w2 ⟨rfl, hb2⟩; have HB2 := Lib.hid (HB1.out.trans (hb2.mono HB1.out.size)); clear hb2))
        go_ret
        exact ⟨by rw [HE.out]; rfl, HB2.out⟩
      · have HE := Lib.hid (HH.out.trans (if_neg (by omega)))
        have k3 : decide (w - 2 < x) = false := decide_eq_false h3
        clear h0
        go_enter Try.func30, Try.ntmps30
        go_wp2_with (first | (go_at_call 42; refine (CR.out _).mono ?_; rintro e w1 ⟨rfl, hb1⟩; have HB1 := Lib.hid hb1; clear hb1) | (go_at_call 19; refine (CI.out _ HB1.out).mono ?_; rintro e w2 ⟨rfl, hb2⟩; have HB2 := Lib.hid (HB1.out.trans (hb2.mono HB1.out.size)); clear hb2))
        go_ret
        exact ⟨by rw [HE.out]; rfl, HB2.out⟩
  · have CR := Lib.hid fun (V : World) => wright_any w false (by simp; omega) V
    have HE := Lib.hid (HH.out.trans (if_pos (by omega)))
    clear h1
    go_enter Try.func30, Try.ntmps30
    go_wp2_with (go_at_call 42; refine (CR.out _).mono ?_; rintro e w1 ⟨rfl, hb1⟩; have HB1 := Lib.hid hb1; clear hb1)
    go_ret
    exact ⟨by rw [HE.out]; rfl, HB1.out⟩
set_option maxHeartbeats 4000000 in
set_option maxRecDepth 100000 in
theorem rHang20_any (A : Option Addr) (n c : Nat) (l : List Cl) (w : Int) (W : World) (hA : RowsAt encC 4 W A l) (hl : l.length = n) (hc : Caps A n c) (hn : n ≤ 1000000) (hw : W02 l) :
    Calls Try.prog 31 #[.slice A n c, .int .i64 w] W fun e W' => e = .returned (.int .i64 (hangN l w)) ∧ Below W.heap.size W W' := by
  have CI := Lib.hid (r9Indent_any A n c l W hA hl hc hn hw)
  have hi := ind_bd hw
  have HH : Hid (hangN l w = if w < 0 ∨ 200 < w ∨ w - 2 < ind l then 0 else ind l) := Lib.hid rfl
  generalize ind l = x at *
  obtain ⟨x1, x2⟩ := hi
  clear hA hl hc hn hw
  by_cases h1 : 0 ≤ w ∧ w ≤ 200
  · have CR := Lib.hid fun (V : World) => rright_any w true (by simp [h1]) V
    obtain ⟨g1, g2⟩ := h1
    by_cases h3 : w - 2 < x
    · have HE := Lib.hid (HH.out.trans (if_pos (by omega)))
      have k3 : decide (w - 2 < x) = true := decide_eq_true h3
      go_enter Try.func31, Try.ntmps31
      go_wp2_with (first | (go_at_call 32; refine (CR.out _).mono ?_; rintro e w2 ⟨rfl, hb2⟩; have HB2 := Lib.hid (HB1.out.trans (hb2.mono HB1.out.size)); clear hb2) | (go_at_call 20; refine (CI.out).mono ?_; rintro e w1 ⟨rfl, hb1⟩; have HB1 := Lib.hid hb1; clear hb1))
      go_ret
      exact ⟨by rw [HE.out]; rfl, HB2.out⟩
    · have HE := Lib.hid (HH.out.trans (if_neg (by omega)))
      have k3 : decide (w - 2 < x) = false := decide_eq_false h3
      go_enter Try.func31, Try.ntmps31
      go_wp2_with (first | (go_at_call 32; refine (CR.out _).mono ?_; rintro e w2 ⟨rfl, hb2⟩; have HB2 := Lib.hid (HB1.out.trans (hb2.mono HB1.out.size)); clear hb2) | (go_at_call 20; refine (CI.out).mono ?_; rintro e w1 ⟨rfl, hb1⟩; have HB1 := Lib.hid hb1; clear hb1))
      go_ret
      exact ⟨by rw [HE.out]; rfl, HB2.out⟩
  · have CR := Lib.hid fun (V : World) => rright_any w false (by simp; omega) V
    have HE := Lib.hid (HH.out.trans (if_pos (by omega)))
    clear h1
    go_enter Try.func31, Try.ntmps31
    go_wp2_with (first | (go_at_call 32; refine (CR.out _).mono ?_; rintro e w2 ⟨rfl, hb2⟩; have HB2 := Lib.hid (HB1.out.trans (hb2.mono HB1.out.size)); clear hb2) | (go_at_call 20; refine (CI.out).mono ?_; rintro e w1 ⟨rfl, hb1⟩; have HB1 := Lib.hid hb1; clear hb1))
    go_ret
    exact ⟨by rw [HE.out]; rfl, HB2.out⟩
set_option maxHeartbeats 4000000 in
set_option maxRecDepth 100000 in
theorem wHung_any (A : Option Addr) (n c i : Nat) (l : List Cl) (W : World) (hA : RowsAt encC 4 W A l) (hl : l.length = n) (hc : Caps A n c) (hn : n ≤ 1000000) (hi : i ≤ 1000000) (h0 : 0 < i → 0 < n) :
    Calls Try.prog 51 #[.int .i64 (i : Int), .slice A n c] W fun e W' => ∃ v, e = .returned v ∧ W'.ownsRow W.heap.size 35 4 v (i + n) (kfl encC (List.replicate i (inC (headP l)) ++ l)) ∧ Below W.heap.size W W' := by
  have HA := Lib.hid hA
  have HL := Lib.hid hl
  have HC := Lib.hid hc
  clear hA hl hc
  have HN := Lib.hid (World.ownsRow_nil W W.heap.size 35 4)
  go_enter Try.func51, Try.ntmps51
  go_wp2_with fail
  go_loopg [5, 7] i (fun g v k wr => ∃ (j : Nat) (u : Value), k = .int .i64 (j : Int) ∧ u = v ∧ j ≤ i ∧ i - j ≤ g ∧ Hid (Below W.heap.size W wr) ∧ Hid (wr.ownsRow W.heap.size 35 4 u j (kfl encC (List.replicate j (inC (headP l))))))
  case atStart => exact ⟨0, _, rfl, rfl, by omega, by omega, Lib.hid (Below.refl _ _), HN⟩
  case round =>
    obtain ⟨j, v, rfl, rfl, h1, h2, hb, ho⟩ := hrel
    by_cases hlt : j < i
    · have hn0 := h0 (by omega)
      have h0l : 0 < l.length := by rw [HL.out]; exact hn0
      obtain ⟨bA, off, rfl, hbA, d0, d1, d2, d3⟩ := (HA.out.below hb.out).cell4 h0l
      have hp : l[0].p = headP l := by
        cases l with
        | nil => simp at h0l
        | cons x l => rfl
      rw [hp] at d3
      clear hp d0 d1 d2
      simp only [Nat.zero_mul, Nat.add_zero] at d3
      have HOO := Lib.hid ho.out
      have HHB := Lib.hid hb.out
      obtain ⟨A5, c5, rfl⟩ := own_form ho.out
      clear ho hb
      generalize headP l = p at *
      have i1 : (0 : Int) ≤ j := by omega
      have i2 : (j : Int) < i := by omega
      have i3 : (0 : Int) < n := by omega
      have x3 : Below wr.heap.size wr (wr.alloc (.cells #[.int .i32 32, .int .i64 5, .int .i64 1, .int .i64 p] 35)) := (Below.refl _ _).alloc (Nat.le_refl _) _
      have HOW := Lib.hid (own_below HOO.out x3)
      have HB3 := Lib.hid (HHB.out.trans (x3.mono HHB.out.size))
      have HRW : Hid (RowsAt encC 4 (wr.alloc (.cells #[.int .i32 32, .int .i64 5, .int .i64 1, .int .i64 p] 35)) (some ⟨wr.heap.size, 0, none⟩) [inC p]) := Lib.hid (row_new encC_len wr [inC p] #[.int .i32 32, .int .i64 5, .int .i64 1, .int .i64 p] 35 rfl)
      clear x3 HOO HHB
      go_wp2_with (at_builtin; go_loud (refine wpList_appK (enc := encC) cell_slt encC_len (by omega) rfl (.tmp 9) (.tmp 15) rfl rfl HOW.out (some ⟨wr.heap.size, 0, none⟩) 1 1 [inC p] rfl HRW.out ⟨Nat.le_refl _, fun h => by cases h⟩ rfl (kfl_one' encC_one _) (by simp only [maxLen]; omega) (by omega) HB3.out.size ?_; intro v5 w5 hown5 hg5 hn5))
      have HO5 := Lib.hid hown5
      have HB5 := Lib.hid (HB3.out.grown hg5 HB3.out.size (fun k hk => (HOW.out.lt k hk).1))
      clear hown5 hg5 hn5
      go_roundg (gk - 1)
      case measure => omega
      case rel => exact ⟨j + 1, _, by go_num, rfl, by omega, by omega, HB5, Lib.hid (by have := HO5.out; rw [← kfl_append] at this; rw [List.replicate_succ']; exact this)⟩
    · obtain rfl : j = i := by omega
      have HOO := Lib.hid ho.out
      have HHB := Lib.hid hb.out
      have HRA := Lib.hid (HA.out.below hb.out)
      obtain ⟨A5, c5, rfl⟩ := own_form ho.out
      clear ho hb
      go_wp2_with (at_builtin; go_loud (refine wpList_appK (enc := encC) cell_slt encC_len (by omega) rfl (.tmp 18) (.tmp 19) rfl rfl HOO.out A n c l rfl HRA.out HC.out HL.out (kfl_one' encC_one _) (by simp only [maxLen]; omega) (by omega) HHB.out.size ?_; intro v5 w5 hown5 hg5 hn5))
      have HO5 := Lib.hid hown5
      have HB5 := Lib.hid (HHB.out.grown hg5 HHB.out.size (fun k hk => (HOO.out.lt k hk).1))
      obtain ⟨A6, c6, rfl⟩ := own_form hown5
      clear hown5 hg5 hn5
      go_wp2
      go_ret
      exact ⟨_, rfl, by rw [kfl_append]; exact HO5.out, HB5.out⟩
set_option maxHeartbeats 4000000 in
set_option maxRecDepth 100000 in
theorem wSizes_any (A : Option Addr) (n c : Nat) (l : List Cl) (w h : Int) (W : World) (hA : RowsAt encC 4 W A l) (hl : l.length = n) (hc : Caps A n c) (hn : n ≤ 1000000) (hw : W02 l) (h1 : 0 ≤ w) (h2 : w ≤ 200) (hh : h = hangN l w) :
    Calls Try.prog 50 #[.slice A n c, .int .i64 w, .int .i64 h] W fun e W' => ∃ v, e = .returned v ∧ W'.ownsRow W.heap.size 3 1 v (wszs l w).length ((ofN (wszs l w)).map (.int .i64)) ∧ Below W.heap.size W W' := by
  have hb := hangN_bd hw w
  rw [← hh] at hb
  obtain ⟨b1, b2, _⟩ := hb
  have HSZ : Hid (wszs l w = if w = 0 then [l.length] else allN l w (w - h)) := Lib.hid (by unfold wszs; rw [hh])
  by_cases h0 : w = 0
  · have k1 : (w == 0) = true := by simp [h0]
    have k2 : decide (w = 0) = true := decide_eq_true h0
    have HE := Lib.hid (HSZ.out.trans (if_pos h0))
    have HO := Lib.hid (World.ownsRow_lit (e := 3) (size := 1) (base := W.heap.size) W #[.int .i64 (n : Int)] 1 (Nat.le_refl _) (by simp [maxLen]) rfl)
    have HB : Hid (Below W.heap.size W (W.alloc (.cells #[.int .i64 (n : Int)] 3))) := Lib.hid ((Below.refl _ _).alloc (Nat.le_refl _) _)
    have HL := Lib.hid hl
    clear h0 hA hl hc hn hw hh HSZ
    go_enter Try.func50, Try.ntmps50
    go_wp2
    go_ret
    exact ⟨_, rfl, by rw [HE.out, HL.out]; exact HO.out, HB.out⟩
  · have k1 : (w == 0) = false := by simpa using h0
    have k2 : decide (w = 0) = false := decide_eq_false h0
    have HE := Lib.hid (HSZ.out.trans (if_neg h0))
    have CA := Lib.hid (bAll A n c w (w - h) l W hA hl hc hn hw)
    have k3 : IntKind.i64.wrap (w - h) = w - h := IntWalk.i64_in _ (by omega)
    clear h0 hA hl hc hw hh HSZ
    go_enter Try.func50, Try.ntmps50
    go_wp2_with (go_at_call 22; refine (CA.out).mono ?_; rintro e w1 ⟨v1, rfl, ho1, hb1⟩; have HB1 := Lib.hid hb1; have HO1 := Lib.hid ho1; obtain ⟨A5, c5, rfl⟩ := own_form ho1; clear hb1 ho1)
    go_ret
    exact ⟨_, rfl, by rw [HE.out]; exact HO1.out, HB1.out⟩
end Go.Proofs.Ytnlhpbnonmdkdaa
