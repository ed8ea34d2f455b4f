/- The document's text with others in the place of some: the contracts of bodkinref07.Inside, Put. -/
import Derived.Test.YtglalmhpgdgeeaaGreatRef7
namespace Go.Proofs.YtglalmhpgdgeeaaGreat
open Go.RowKit
theorem IntsAt.take7 {kd : IntKind} {w : World} {A : Option Addr} {l : List Int} (h : IntsAt kd w A l) (k : Nat) : IntsAt kd w A (l.take k) := by
  intro hp
  have hl : (l.take k).length ≤ l.length := by rw [List.length_take]; omega
  obtain ⟨b, off, rfl, hb, hc⟩ := h (by omega)
  refine ⟨b, off, rfl, hb, fun j hj => ?_⟩
  have hj' : j < min k l.length := by simpa [List.length_take] using hj
  rw [hc j (by omega)]
  have e : nth (l.take k) j = nth l j := by
    unfold nth
    simp only [List.getD, List.getElem?_take]
    rw [if_pos (by omega)]
  rw [e]
theorem Caps.cut7 {A : Option Addr} {n c : Nat} (h : Caps A n c) (y : Nat) (hy : y ≤ n) : Caps (cutA A c y) (n - y) (c - y) := by
  obtain ⟨h1, h2⟩ := h
  refine ⟨by omega, fun e => ?_⟩
  unfold cutA at e
  by_cases hc : c = y
  · omega
  · rw [if_neg hc] at e
    cases A with
    | none => have := h2 rfl; omega
    | some a => simp at e
set_option maxHeartbeats 2000000 in
theorem inside_any (n x y : Int) (w : World) (sb : Bool) (hsb : sb = true ↔ 0 ≤ x ∧ x ≤ y ∧ y ≤ n) : Calls Tryz.prog 61 #[.int .i64 n, .int .i64 x, .int .i64 y] w fun e w' => e = .returned (.bool sb) ∧ w' = w := by
  have HF := Lib.hid hsb; clear hsb
  by_cases g1 : 0 ≤ x
  · by_cases g2 : x ≤ y
    · by_cases g3 : y ≤ n
      · have HX := Lib.hid (ab_yes HF.out ⟨g1, g2, g3⟩)
        go_enter Tryz.func61, Tryz.ntmps61
        go_wp2
        go_ret
        exact ⟨ret_bool (by first | exact HX.out | simpa using HX.out), rfl⟩
      · have HX := Lib.hid (ab_no HF.out (fun h => g3 h.2.2))
        go_enter Tryz.func61, Tryz.ntmps61
        go_wp2
        go_ret
        exact ⟨ret_bool (by first | exact HX.out | exact (decide_eq_false (by omega)).trans HX.out), rfl⟩
    · have HX := Lib.hid (ab_no HF.out (fun h => g2 h.2.1))
      go_enter Tryz.func61, Tryz.ntmps61
      go_wp2
      go_ret
      exact ⟨ret_bool (by first | exact HX.out | exact (decide_eq_false (by omega)).trans HX.out), rfl⟩
  · have HX := Lib.hid (ab_no HF.out (fun h => g1 h.1))
    go_enter Tryz.func61, Tryz.ntmps61
    go_wp2
    go_ret
    exact ⟨ret_bool (by first | exact HX.out | exact (decide_eq_false (by omega)).trans HX.out), rfl⟩
set_option maxHeartbeats 4000000 in
set_option maxRecDepth 100000 in
theorem put_any (A B : Option Addr) (n c m d : Nat) (l q : List Int) (x y : Nat) (w : World) (hA : IntsAt .i32 w A l) (hl : l.length = n) (hc : Caps A n c) (hB : IntsAt .i32 w B q) (hq : q.length = m) (hd : Caps B m d) (hn : n ≤ 1000000) (hm : m ≤ 1000000) (hxy : x ≤ y) (hy : y ≤ n) :
    Calls Tryz.prog 56 #[.slice A n c, .agg #[.int .i64 x, .int .i64 y], .slice B m d] w fun e w' => ∃ A' c', e = .returned (.slice A' (x + m + (n - y)) c') ∧ IntsAt .i32 w' A' (l.take x ++ q ++ l.drop y) ∧ Caps A' (x + m + (n - y)) c' ∧ Below w.heap.size w w' := by
  obtain ⟨i0, hi0, _, _, _⟩ := info_parts i32_info
  have hcm := hc.1
  have hs1 := fun W => cut_hd (P := Tryz.prog) Tryz.underlying27 hi0 A n c x (by omega) W
  have hs2 := fun W => cut_rest (P := Tryz.prog) Tryz.underlying27 hi0 (by kernel_rfl) A n c y hy W
  have HA := Lib.hid hA
  have HB := Lib.hid hB
  have HC1 := Lib.hid (show Caps A x c from ⟨by omega, hc.2⟩)
  have HC2 := Lib.hid (hc.cut7 y hy)
  have HD := Lib.hid hd
  have HT := Lib.hid fun (W : World) (hW : Below w.heap.size w W) => (by
    have := (hA.below hW).cut hl (by omega) y (n - y) (by omega)
    rwa [List.take_of_length_le (by rw [List.length_drop]; omega)] at this : IntsAt .i32 W (cutA A c y) (l.drop y))
  have HLx := Lib.hid (show (l.take x).length = x from by rw [List.length_take]; omega)
  have HLy := Lib.hid (show (l.drop y).length = n - y from by rw [List.length_drop]; omega)
  have HQ := Lib.hid hq
  clear hA hB hc hd hl hq
  have x1 : Below (w.heap.size + 1) (w.alloc (.cells #[.int .i64 (x : Int), .int .i64 (y : Int)] 102)) (w.alloc (.cells #[.int .i64 (x : Int), .int .i64 (y : Int)] 102)) := ⟨rfl, rfl, rfl, Nat.le_refl _, fun _ _ => rfl⟩
  have b0 : Below w.heap.size w (w.alloc (.cells #[.int .i64 (x : Int), .int .i64 (y : Int)] 102)) := (Below.refl _ _).alloc (Nat.le_refl _) _
  have R0 : RawAt 102 (w.alloc (.cells #[.int .i64 (x : Int), .int .i64 (y : Int)] 102)) w.heap.size #[.int .i64 (x : Int), .int .i64 (y : Int)] := heap_alloc_new w _
  have z1 : (w.alloc (.cells #[.int .i64 (x : Int), .int .i64 (y : Int)] 102)).heap.size = w.heap.size + 1 := by simp
  go_enter Tryz.func56, Tryz.ntmps56
  have e0 := RawAt.cell R0 0
  simp at e0
  have HR0 := Lib.hid R0
  clear R0
  go_wp2_with (first
    | (at_builtin; refine wpList_append_ints rfl (.tmp 8) (.tmp 12) rfl (w.heap.size + 1) _ 0 [] rfl (World.ownsRow_nil _ _ _ _) A x c (l.take x) rfl ((HA.out.take7 x).below b0) HC1.out HLx.out (by omega) (by rw [z1]; exact Nat.le_refl _) ?_; intro v4 w4 hown4 hg4; have c4 := x1.grown hg4 (by rw [z1]; exact Nat.le_refl _) (fun k hk => by cases hk); have b4 := b0.trans (c4.mono (Nat.le_succ _)); have s4 := c4.size; have HR4 := Lib.hid (RawAt.below HR0.out c4 (Nat.lt_succ_self _)); have e1 := (RawAt.cell HR4.out 1).trans (show _ = some (Value.int .i64 (y : Int)) from rfl); rw [Nat.zero_add, List.nil_append] at hown4)
    | (at_builtin; refine wpList_append_ints rfl (.tmp 14) (.tmp 15) rfl (w.heap.size + 1) _ x ((l.take x).map (.int .i32)) rfl hown4 B m d q rfl (HB.out.below b4) HD.out HQ.out (by omega) (by omega) ?_; intro v5 w5 hown5 hg5; have c5 := c4.grown hg5 (by omega) (fun k hk => (hown4.lt k hk).1); have b5 := b0.trans (c5.mono (Nat.le_succ _)); have s5 := c5.size; have HR5 := Lib.hid (RawAt.below HR0.out c5 (Nat.lt_succ_self _)); have e2 := (RawAt.cell HR5.out 1).trans (show _ = some (Value.int .i64 (y : Int)) from rfl); rw [← List.map_append] at hown5)
    | (at_builtin; refine wpList_append_ints rfl (.tmp 17) (.tmp 21) rfl (w.heap.size + 1) _ (x + m) ((l.take x ++ q).map (.int .i32)) rfl hown5 (cutA A c y) (n - y) (c - y) (l.drop y) rfl (HT.out _ b5) HC2.out HLy.out (by omega) (by omega) ?_; intro v6 w6 hown6 hg6; have c6 := c5.grown hg6 (by omega) (fun k hk => (hown5.lt k hk).1); have b6 := b0.trans (c6.mono (Nat.le_succ _)); rw [← List.map_append] at hown6))
  obtain ⟨A7, c7, e7, hI7, hl7, hC7⟩ := IntsAt.of_own hown6
  have HI7 := Lib.hid hI7
  have HC7 := Lib.hid hC7
  subst e7
  clear hown4 hown5 hown6 hg4 hg5 hg6 hI7 hC7 hl7
  go_ret
  exact ⟨A7, c7, rfl, HI7.out, HC7.out, b6⟩
end Go.Proofs.YtglalmhpgdgeeaaGreat
