/- Inlays: what is wrong with one. Inlays: the contract of New. Inlays: the contracts of kept, Len, All, Within. -/
import Derived.Test.YtpnjokhhbjpciaaGreatDoorInA
import Derived.Test.YtpnjokhhbjpciaaGreatDoorBase
import Derived.Test.YtpnjokhhbjpciaaGreatDoorShelfCR
import Derived.Test.YtpnjokhhbjpciaaGreatDoorBuilder
import Derived.Test.YtpnjokhhbjpciaaGreatDoorKRow
import Derived.Shelf.SlSortCmp.NoneTotal
namespace Go.Proofs.YtpnjokhhbjpciaaGreatDoor
open Go.RowKit Go.Sort
set_option linter.unusedVariables false
/-- A line's end among a text's bytes. -/
def has10 (s : ByteArray) : Bool := decide (0 ≤ Lib.indexByte s.data.toList 10)
theorem contains10 (s : ByteArray) (w : World) : Calls Tryz.prog 79 #[.string s, .int .i32 10] w fun e w' => e = .returned (.bool (has10 s)) ∧ w' = w := Tryz.strings_ContainsRune_ascii s 10 w (by decide) (by decide)
def iwr (n : Int) (a : In) : Int := if a.id < 1 ∨ a.pl < 0 ∨ n < a.pl ∨ (a.bi ≠ 0 ∧ a.bi ≠ 1) then 1 else if 40 < (dec a.tx).length then 2 else if (dec a.tx).length = 0 ∨ has10 a.tx = true then 4 else 0
set_option maxHeartbeats 8000000 in
set_option maxRecDepth 100000 in
theorem iCheck_any (a : In) (n : Int) (w : World) (hs : a.tx.size ≤ 100000000) (r : Int) (hr : r = iwr n a) : Calls Tryz.prog 41 #[.agg #[.int .i64 a.id, .int .i64 a.pl, .int .i64 a.bi, .int .i64 a.ky, .string a.tx], .int .i64 n] w fun e w' => e = .returned (.int .i64 r) ∧ Below w.heap.size w w' := by
  have CC := Lib.hid fun (W : World) => count_any a.tx W (by omega)
  have CR := Lib.hid fun (W : World) => contains10 a.tx W
  have HR := Lib.hid hr
  clear hr
  have x1 : Below w.heap.size w (w.alloc (.cells #[.int .i64 a.id, .int .i64 a.pl, .int .i64 a.bi, .int .i64 a.ky, .string a.tx] 63)) := (Below.refl _ _).alloc (Nat.le_refl _) _
  have R1 : RawAt 63 (w.alloc (.cells #[.int .i64 a.id, .int .i64 a.pl, .int .i64 a.bi, .int .i64 a.ky, .string a.tx] 63)) w.heap.size #[.int .i64 a.id, .int .i64 a.pl, .int .i64 a.bi, .int .i64 a.ky, .string a.tx] := heap_alloc_new w _
  generalize hb : has10 a.tx = hh at CR
  have HB := Lib.hid hb
  clear hb
  obtain ⟨len, hlen⟩ : ∃ k, k = (dec a.tx).length := ⟨_, rfl⟩
  have HLN := Lib.hid hlen
  rw [← hlen] at CC
  clear hlen hs
  obtain ⟨W1, hW1⟩ : ∃ W1, W1 = w.alloc (.cells #[.int .i64 a.id, .int .i64 a.pl, .int .i64 a.bi, .int .i64 a.ky, .string a.tx] 63) := ⟨_, rfl⟩
  rw [← hW1] at x1 R1
  have HW1 := Lib.hid hW1
  have X1 := Lib.hid x1
  have RR := Lib.hid R1
  clear hW1 x1 R1
  by_cases c1 : a.id < 1
  · have kc1 : decide (a.id < 1) = true := decide_eq_true c1
    have hr : r = 1 := by rw [HR.out, iwr, if_pos (by omega)]
    subst hr
    clear HR
    go_enter Tryz.func41, Tryz.ntmps41
    go_wp2_with fail
    rw [← HW1.out]
    go_wp2_with fail
    with_reducible refine (CC.out _).mono ?_
    rintro e w2 ⟨rfl, b2⟩
    have R2 := RawAt.below RR.out b2 RR.out.lt
    have e0 := RawAt.cell R2 0
    have e1 := RawAt.cell R2 1
    have e2 := RawAt.cell R2 2
    have e4 := RawAt.cell R2 4
    simp at e0 e1 e2 e4
    have Q2 := Lib.hid (X1.out.trans (b2.mono X1.out.size))
    clear R2 b2
    go_wp2
    go_ret
    exact ⟨rfl, Q2.out⟩
  · have kc1 : decide (a.id < 1) = false := decide_eq_false c1
    by_cases c2 : a.pl < 0
    · have kc2 : decide (a.pl < 0) = true := decide_eq_true c2
      have hr : r = 1 := by rw [HR.out, iwr, if_pos (by omega)]
      subst hr
      clear HR
      go_enter Tryz.func41, Tryz.ntmps41
      go_wp2_with fail
      rw [← HW1.out]
      go_wp2_with fail
      with_reducible refine (CC.out _).mono ?_
      rintro e w2 ⟨rfl, b2⟩
      have R2 := RawAt.below RR.out b2 RR.out.lt
      have e0 := RawAt.cell R2 0
      have e1 := RawAt.cell R2 1
      have e2 := RawAt.cell R2 2
      have e4 := RawAt.cell R2 4
      simp at e0 e1 e2 e4
      have Q2 := Lib.hid (X1.out.trans (b2.mono X1.out.size))
      clear R2 b2
      go_wp2
      go_ret
      exact ⟨rfl, Q2.out⟩
    · have kc2 : decide (a.pl < 0) = false := decide_eq_false c2
      by_cases c3 : n < a.pl
      · have kc3 : decide (n < a.pl) = true := decide_eq_true c3
        have hr : r = 1 := by rw [HR.out, iwr, if_pos (by omega)]
        subst hr
        clear HR
        go_enter Tryz.func41, Tryz.ntmps41
        go_wp2_with fail
        rw [← HW1.out]
        go_wp2_with fail
        with_reducible refine (CC.out _).mono ?_
        rintro e w2 ⟨rfl, b2⟩
        have R2 := RawAt.below RR.out b2 RR.out.lt
        have e0 := RawAt.cell R2 0
        have e1 := RawAt.cell R2 1
        have e2 := RawAt.cell R2 2
        have e4 := RawAt.cell R2 4
        simp at e0 e1 e2 e4
        have Q2 := Lib.hid (X1.out.trans (b2.mono X1.out.size))
        clear R2 b2
        go_wp2
        go_ret
        exact ⟨rfl, Q2.out⟩
      · have kc3 : decide (n < a.pl) = false := decide_eq_false c3
        by_cases c4 : a.bi ≠ 0 ∧ a.bi ≠ 1
        · obtain ⟨c4, c5⟩ := c4
          have k4 : (a.bi != 0) = true := by simp [c4]
          have k5 : (a.bi != 1) = true := by simp [c5]
          have k6 : (a.bi == 0) = false := by simp [c4]
          have k7 : (a.bi == 1) = false := by simp [c5]
          have hr : r = 1 := by rw [HR.out, iwr, if_pos (by omega)]
          subst hr
          clear HR
          go_enter Tryz.func41, Tryz.ntmps41
          go_wp2_with fail
          rw [← HW1.out]
          go_wp2_with fail
          with_reducible refine (CC.out _).mono ?_
          rintro e w2 ⟨rfl, b2⟩
          have R2 := RawAt.below RR.out b2 RR.out.lt
          have e0 := RawAt.cell R2 0
          have e1 := RawAt.cell R2 1
          have e2 := RawAt.cell R2 2
          have e4 := RawAt.cell R2 4
          simp at e0 e1 e2 e4
          have Q2 := Lib.hid (X1.out.trans (b2.mono X1.out.size))
          clear R2 b2
          go_wp2
          go_ret
          exact ⟨rfl, Q2.out⟩
        · have hn : ¬ (a.id < 1 ∨ a.pl < 0 ∨ n < a.pl ∨ (a.bi ≠ 0 ∧ a.bi ≠ 1)) := by omega
          have HN := Lib.hid hn
          clear hn
          have kb : (a.bi = 0 ∨ a.bi = 1) := by omega
          clear c4 c1 c2 c3
          rcases kb with kb | kb
          · have HK := Lib.hid kb
            have k4 : (a.bi != 0) = false := by simp [kb]
            have k6 : (a.bi == 0) = true := by simp [kb]
            clear kb
            by_cases d1 : 40 < len
            · have m1 : decide (40 < len) = true := decide_eq_true d1
              have m2 : decide ((40 : Int) < (len : Int)) = true := decide_eq_true (by omega)
              have hr : r = 2 := by rw [HR.out, iwr, if_neg HN.out, if_pos (by rw [← HLN.out]; exact d1)]
              subst hr
              clear HR d1
              go_enter Tryz.func41, Tryz.ntmps41
              go_wp2_with fail
              rw [← HW1.out]
              go_wp2_with fail
              with_reducible refine (CC.out _).mono ?_
              rintro e w2 ⟨rfl, b2⟩
              have R2 := RawAt.below RR.out b2 RR.out.lt
              have e0 := RawAt.cell R2 0
              have e1 := RawAt.cell R2 1
              have e2 := RawAt.cell R2 2
              have e4 := RawAt.cell R2 4
              simp at e0 e1 e2 e4
              have Q2 := Lib.hid (X1.out.trans (b2.mono X1.out.size))
              clear R2 b2
              go_wp2
              go_ret
              exact ⟨rfl, Q2.out⟩
            · have m1 : decide (40 < len) = false := decide_eq_false d1
              have m2 : decide ((40 : Int) < (len : Int)) = false := decide_eq_false (by omega)
              by_cases d2 : len = 0
              · subst d2
                have hr : r = 4 := by rw [HR.out, iwr, if_neg HN.out, if_neg (by rw [← HLN.out]; omega), if_pos (Or.inl HLN.out.symm)]
                subst hr
                clear HR d1
                go_enter Tryz.func41, Tryz.ntmps41
                go_wp2_with fail
                rw [← HW1.out]
                go_wp2_with fail
                with_reducible refine (CC.out _).mono ?_
                rintro e w2 ⟨rfl, b2⟩
                have R2 := RawAt.below RR.out b2 RR.out.lt
                have e0 := RawAt.cell R2 0
                have e1 := RawAt.cell R2 1
                have e2 := RawAt.cell R2 2
                have e4 := RawAt.cell R2 4
                simp at e0 e1 e2 e4
                have Q2 := Lib.hid (X1.out.trans (b2.mono X1.out.size))
                clear R2 b2
                go_wp2
                go_ret
                exact ⟨rfl, Q2.out⟩
              · have m3 : (len == 0) = false := by simp [d2]
                have m4 : decide (len = 0) = false := decide_eq_false d2
                have m5 : ((len : Int) == 0) = false := by simp [d2]
                have m6 : decide ((len : Int) = 0) = false := decide_eq_false (by omega)
                cases hh with
                | true =>
                  have hr : r = 4 := by rw [HR.out, iwr, if_neg HN.out, if_neg (by rw [← HLN.out]; exact d1), if_pos (Or.inr HB.out)]
                  subst hr
                  clear HR d1 d2
                  go_enter Tryz.func41, Tryz.ntmps41
                  go_wp2_with fail
                  rw [← HW1.out]
                  go_wp2_with fail
                  with_reducible refine (CC.out _).mono ?_
                  rintro e w2 ⟨rfl, b2⟩
                  have R2 := RawAt.below RR.out b2 RR.out.lt
                  have e0 := RawAt.cell R2 0
                  have e1 := RawAt.cell R2 1
                  have e2 := RawAt.cell R2 2
                  have e4 := RawAt.cell R2 4
                  simp at e0 e1 e2 e4
                  have Q2 := Lib.hid (X1.out.trans (b2.mono X1.out.size))
                  clear R2 b2
                  go_wp2_with fail
                  with_reducible refine (CR.out _).mono ?_
                  rintro e w3 ⟨rfl, rfl⟩
                  go_wp2
                  go_ret
                  exact ⟨rfl, Q2.out⟩
                                | false =>
                  have hr : r = 0 := by rw [HR.out, iwr, if_neg HN.out, if_neg (by rw [← HLN.out]; exact d1), if_neg (by rw [← HLN.out, HB.out]; simp [d2])]
                  subst hr
                  clear HR d1 d2
                  go_enter Tryz.func41, Tryz.ntmps41
                  go_wp2_with fail
                  rw [← HW1.out]
                  go_wp2_with fail
                  with_reducible refine (CC.out _).mono ?_
                  rintro e w2 ⟨rfl, b2⟩
                  have R2 := RawAt.below RR.out b2 RR.out.lt
                  have e0 := RawAt.cell R2 0
                  have e1 := RawAt.cell R2 1
                  have e2 := RawAt.cell R2 2
                  have e4 := RawAt.cell R2 4
                  simp at e0 e1 e2 e4
                  have Q2 := Lib.hid (X1.out.trans (b2.mono X1.out.size))
                  clear R2 b2
                  go_wp2_with fail
                  with_reducible refine (CR.out _).mono ?_
                  rintro e w3 ⟨rfl, rfl⟩
                  go_wp2
                  go_ret
                  exact ⟨rfl, Q2.out⟩
          · have HK := Lib.hid kb
            have k4 : (a.bi != 0) = true := by simp [kb]
            have k6 : (a.bi == 0) = false := by simp [kb]
            have k5 : (a.bi != 1) = false := by simp [kb]
            have k7 : (a.bi == 1) = true := by simp [kb]
            clear kb
            by_cases d1 : 40 < len
            · have m1 : decide (40 < len) = true := decide_eq_true d1
              have m2 : decide ((40 : Int) < (len : Int)) = true := decide_eq_true (by omega)
              have hr : r = 2 := by rw [HR.out, iwr, if_neg HN.out, if_pos (by rw [← HLN.out]; exact d1)]
              subst hr
              clear HR d1
              go_enter Tryz.func41, Tryz.ntmps41
              go_wp2_with fail
              rw [← HW1.out]
              go_wp2_with fail
              with_reducible refine (CC.out _).mono ?_
              rintro e w2 ⟨rfl, b2⟩
              have R2 := RawAt.below RR.out b2 RR.out.lt
              have e0 := RawAt.cell R2 0
              have e1 := RawAt.cell R2 1
              have e2 := RawAt.cell R2 2
              have e4 := RawAt.cell R2 4
              simp at e0 e1 e2 e4
              have Q2 := Lib.hid (X1.out.trans (b2.mono X1.out.size))
              clear R2 b2
              go_wp2
              go_ret
              exact ⟨rfl, Q2.out⟩
            · have m1 : decide (40 < len) = false := decide_eq_false d1
              have m2 : decide ((40 : Int) < (len : Int)) = false := decide_eq_false (by omega)
              by_cases d2 : len = 0
              · subst d2
                have hr : r = 4 := by rw [HR.out, iwr, if_neg HN.out, if_neg (by rw [← HLN.out]; omega), if_pos (Or.inl HLN.out.symm)]
                subst hr
                clear HR d1
                go_enter Tryz.func41, Tryz.ntmps41
                go_wp2_with fail
                rw [← HW1.out]
                go_wp2_with fail
                with_reducible refine (CC.out _).mono ?_
                rintro e w2 ⟨rfl, b2⟩
                have R2 := RawAt.below RR.out b2 RR.out.lt
                have e0 := RawAt.cell R2 0
                have e1 := RawAt.cell R2 1
                have e2 := RawAt.cell R2 2
                have e4 := RawAt.cell R2 4
                simp at e0 e1 e2 e4
                have Q2 := Lib.hid (X1.out.trans (b2.mono X1.out.size))
                clear R2 b2
                go_wp2
                go_ret
                exact ⟨rfl, Q2.out⟩
              · have m3 : (len == 0) = false := by simp [d2]
                have m4 : decide (len = 0) = false := decide_eq_false d2
                have m5 : ((len : Int) == 0) = false := by simp [d2]
                have m6 : decide ((len : Int) = 0) = false := decide_eq_false (by omega)
                cases hh with
                | true =>
                  have hr : r = 4 := by rw [HR.out, iwr, if_neg HN.out, if_neg (by rw [← HLN.out]; exact d1), if_pos (Or.inr HB.out)]
                  subst hr
                  clear HR d1 d2
                  go_enter Tryz.func41, Tryz.ntmps41
                  go_wp2_with fail
                  rw [← HW1.out]
                  go_wp2_with fail
                  with_reducible refine (CC.out _).mono ?_
                  rintro e w2 ⟨rfl, b2⟩
                  have R2 := RawAt.below RR.out b2 RR.out.lt
                  have e0 := RawAt.cell R2 0
                  have e1 := RawAt.cell R2 1
                  have e2 := RawAt.cell R2 2
                  have e4 := RawAt.cell R2 4
                  simp at e0 e1 e2 e4
                  have Q2 := Lib.hid (X1.out.trans (b2.mono X1.out.size))
                  clear R2 b2
                  go_wp2_with fail
                  with_reducible refine (CR.out _).mono ?_
                  rintro e w3 ⟨rfl, rfl⟩
                  go_wp2
                  go_ret
                  exact ⟨rfl, Q2.out⟩
                                | false =>
                  have hr : r = 0 := by rw [HR.out, iwr, if_neg HN.out, if_neg (by rw [← HLN.out]; exact d1), if_neg (by rw [← HLN.out, HB.out]; simp [d2])]
                  subst hr
                  clear HR d1 d2
                  go_enter Tryz.func41, Tryz.ntmps41
                  go_wp2_with fail
                  rw [← HW1.out]
                  go_wp2_with fail
                  with_reducible refine (CC.out _).mono ?_
                  rintro e w2 ⟨rfl, b2⟩
                  have R2 := RawAt.below RR.out b2 RR.out.lt
                  have e0 := RawAt.cell R2 0
                  have e1 := RawAt.cell R2 1
                  have e2 := RawAt.cell R2 2
                  have e4 := RawAt.cell R2 4
                  simp at e0 e1 e2 e4
                  have Q2 := Lib.hid (X1.out.trans (b2.mono X1.out.size))
                  clear R2 b2
                  go_wp2_with fail
                  with_reducible refine (CR.out _).mono ?_
                  rintro e w3 ⟨rfl, rfl⟩
                  go_wp2
                  go_ret
                  exact ⟨rfl, Q2.out⟩
set_option linter.unusedVariables false
theorem own_setKI {w : World} {base : Nat} {e : TypeId} {size g cap n : Nat} {xs : List Value} (h : w.ownsRow base e size (.slice (some ⟨g, 0, none⟩) n cap) n xs) (i : Nat) (u : Value) : (w.setCell ⟨g, i, none⟩ u).ownsRow base e size (.slice (some ⟨g, 0, none⟩) n cap) n (xs.set i u) := by
  refine ⟨by rw [List.length_set]; exact h.1, .inr ?_⟩
  rcases h.2 with ⟨h2, _⟩ | ⟨g', cap', cur, hv, hB, c, h3, h4, h5, h6⟩
  · cases h2
  · injection hv with hv1 hv2 hv3
    injection hv1 with hv1
    injection hv1 with hv1
    subst hv1
    subst hv3
    refine ⟨g, cap, cur.setIfInBounds i u, rfl, hB, RawAt.set_ (t := e) c i u, h3, h4, by rw [Array.size_setIfInBounds]; exact h5, ?_⟩
    rw [Array.toList_setIfInBounds, List.take_set, h6]
theorem own_freeI {w : World} {base : Nat} {e : TypeId} {size g cap n : Nat} {xs : List Value} (h : w.ownsRow base e size (.slice (some ⟨g, 0, none⟩) n cap) n xs) (i : Nat) : w.frozen? ⟨g, i, none⟩ = false := by
  rcases h.2 with ⟨h2, _⟩ | ⟨g', cap', cur, hv, hB, c, h3, h4, h5, h6⟩
  · cases h2
  · injection hv with hv1 hv2 hv3
    injection hv1 with hv1
    injection hv1 with hv1
    subst hv1
    exact RawAt.free (t := e) c i
theorem own_formI {w : World} {base n size : Nat} {e : TypeId} {v : Value} {xs : List Value} (h : w.ownsRow base e size v n xs) : ∃ A c, v = .slice A n c := by
  rcases h.2 with ⟨rfl, rfl⟩ | ⟨g, cap, cur, rfl, _⟩
  · exact ⟨_, _, rfl⟩
  · exact ⟨_, _, rfl⟩
theorem own_baseI {w : World} {base base' n size : Nat} {e : TypeId} {v : Value} {xs : List Value} (h : w.ownsRow base e size v n xs) (hb : base' ≤ base) : w.ownsRow base' e size v n xs := by
  refine ⟨h.1, ?_⟩
  rcases h.2 with g | ⟨g, cap, cur, e', hB, c⟩
  · exact .inl g
  · exact .inr ⟨g, cap, cur, e', by omega, c⟩
theorem iSort_none (p : Option Addr) (cap : Nat) (w : World) : Calls Tryz.prog 44 #[.slice p 0 cap, .func (.func 45) #[] #[]] w fun e w' => e = .returned (.tuple #[]) ∧ w' = w := AnyF.slices_SortFunc_none Tryz.sortIn p cap _ w
theorem bool_zero (w : World) : (zeroValue 4).run Tryz.prog w = .ok (.bool false) w := by kernel_rfl
def iklI (x : Int) : Lit := .int .i64 x
/-- What is wrong with inlays behind others. -/
def iw (n : Int) : List In → List In → Int
  | _, [] => 0
  | seen, a :: l => if iwr n a ≠ 0 then iwr n a else if seen.any (fun b => b.id == a.id) then 8 else iw n (seen ++ [a]) l
def iwrong (n : Int) (l : List In) : Int := if n < 0 ∨ 1099511627776 < n then 1 else if 60 < l.length then 5 else iw n [] l
def icl (a : In) : In := ⟨a.id, a.pl, a.bi, a.ky, ⟨(encAll (dec a.tx)).toArray⟩⟩
structure IMap (f : Int → Option Value) (o : List In) : Prop where
  has : ∀ a ∈ o, f a.id = some (.bool true)
  non : ∀ x, (∀ a ∈ o, a.id ≠ x) → f x = none
theorem IMap.snoc {f : Int → Option Value} {o : List In} {a : In} (h : IMap f o) : IMap (fun x => if x = a.id then some (.bool true) else f x) (o ++ [a]) := by
  constructor
  · intro b hb
    by_cases e : b.id = a.id
    · rw [if_pos e]
    · rw [if_neg e]
      rcases List.mem_append.1 hb with hb | hb
      · exact h.has b hb
      · obtain rfl := List.mem_singleton.1 hb
        exact absurd rfl e
  · intro x hx
    rw [if_neg (fun e => hx a (by simp) e.symm)]
    exact h.non x (fun b hb => hx b (List.mem_append_left _ hb))
def IApart (l : List In) : Prop := l.Pairwise fun a b => a.id ≠ b.id
theorem iw_apart {n : Int} : ∀ {l seen : List In}, iw n seen l = 0 → IApart seen → IApart (seen ++ l) ∧ ∀ a ∈ l, iwr n a = 0
  | [], seen, _, hp => ⟨by simpa using hp, fun a h => absurd h (by simp)⟩
  | a :: l, seen, h, hp => by
    unfold iw at h
    split at h
    · rename_i h1; exact absurd h h1
    · rename_i h1
      split at h
      · cases h
      · rename_i h2
        have hp2 : IApart (seen ++ [a]) := List.pairwise_append.2 ⟨hp, List.pairwise_singleton _ _, fun b hb c hc => by
          obtain rfl := List.mem_singleton.1 hc
          intro e
          exact h2 (List.any_eq_true.2 ⟨b, hb, by simp [e]⟩)⟩
        obtain ⟨g1, g2⟩ := iw_apart h hp2
        refine ⟨by simpa using g1, fun b hb => ?_⟩
        rcases List.mem_cons.1 hb with rfl | hb
        · exact Classical.byContradiction h1
        · exact g2 b hb
theorem iapart_inj : ∀ {l : List In}, IApart l → ∀ x ∈ l, ∀ y ∈ l, x.id = y.id → x = y
  | [], _, x, h, _, _, _ => absurd h (by simp)
  | a :: l, hp, x, hx, y, hy, e => by
    obtain ⟨h1, h2⟩ := List.pairwise_cons.1 hp
    rcases List.mem_cons.1 hx with hx' | hx'
    · rcases List.mem_cons.1 hy with hy' | hy'
      · rw [hx', hy']
      · subst hx'; exact absurd e (h1 y hy')
    · rcases List.mem_cons.1 hy with hy' | hy'
      · subst hy'; exact absurd e.symm (h1 x hx')
      · exact iapart_inj h2 x hx' y hy' e
theorem iapart_icl {l : List In} (h : IApart l) : IApart (l.map icl) := List.Pairwise.map _ (fun a b h => h) h
theorem intK' : KeyEnc Tryz.prog 3 (fun x : Int => .int .i64 x) iklI (fun x => (Lit.int .i64 x).wf = true) := intKey Tryz.underlying3
/-- A set of inlays in memory. -/
def ISet (w : World) (sb : Nat) (n : Int) (o : List In) : Prop := ∃ v, RawAt 100 w sb #[.int .i64 n, v] ∧ w.ownsRow 0 63 5 v o.length (kfl encI o)
theorem ISet.below {w w' : World} {sb : Nat} {n : Int} {o : List In} (h : ISet w sb n o) (hb : Below w.heap.size w w') : ISet w' sb n o := by
  obtain ⟨v, h1, h2⟩ := h
  exact ⟨v, h1.below hb h1.lt, own_below h2 hb⟩
theorem icl_step (o : List In) (k : Nat) (h : k < o.length) : ((o.take k).map icl ++ o.drop k).set k (icl o[k]) = (o.take (k + 1)).map icl ++ o.drop (k + 1) := by
  have hl : ((o.take k).map icl).length = k := by rw [List.length_map, List.length_take]; omega
  rw [List.set_append_right _ _ (by omega), hl, Nat.sub_self, List.drop_eq_getElem_cons h, List.set_cons_zero, List.take_succ_eq_append_getElem h, List.map_append, List.append_assoc]
  rfl
theorem icl_at (o : List In) (k : Nat) (h : k < o.length) : ∃ h2 : k < ((o.take k).map icl ++ o.drop k).length, ((o.take k).map icl ++ o.drop k)[k] = o[k] := by
  have hl : ((o.take k).map icl).length = k := by rw [List.length_map, List.length_take]; omega
  refine ⟨by rw [List.length_append, hl, List.length_drop]; omega, ?_⟩
  rw [List.getElem_append_right (by omega)]
  simp [Nat.min_eq_left (Nat.le_of_lt h)]
theorem ikfl_set : ∀ (L : List In) (k : Nat) (h : k < L.length) (z : ByteArray), (kfl encI L).set (k * 5 + 4) (.string z) = kfl encI (L.set k ⟨L[k].id, L[k].pl, L[k].bi, L[k].ky, z⟩)
  | x :: L, 0, _, z => rfl
  | x :: L, k + 1, h, z => by
    have ih := ikfl_set L k (by simpa using h) z
    rw [List.set_cons_succ, kfl_cons, kfl_cons, List.set_append_right _ _ (by rw [encI_len]; omega), encI_len, show (k + 1) * 5 + 4 - 5 = k * 5 + 4 by omega, ih]
    rfl
set_option maxHeartbeats 16000000 in
set_option maxRecDepth 100000 in
theorem iNew_any (n : Int) (A : Option Addr) (m c : Nat) (l : List In) (w : World) (hA : RowsAt encI 5 w A l) (hcap : Caps A m c) (hl : l.length = m) (hwf : ∀ a ∈ l, (Lit.int .i64 a.id).wf = true) (htx : ∀ a ∈ l, a.tx.size ≤ 100000000) (r : Int) (hr : iwrong n l = r) :
    Calls Tryz.prog 24 #[.int .i64 n, .slice A m c] w fun e w' => ∃ p, e = .returned (.tuple #[p, .int .i64 r]) ∧ (r ≠ 0 → p = .pointer none) ∧ (r = 0 → ∃ sb, p = .pointer (some ⟨sb, 0, none⟩) ∧ ISet w' sb n (ord ilt (l.map icl))) ∧ Below w.heap.size w w' := by
  have hmm := @run_makeMap Tryz.prog
  have HR := Lib.hid hr
  have HL := Lib.hid hl
  have HC := Lib.hid hcap
  have HA := Lib.hid hA
  have HW := Lib.hid hwf
  have HX := Lib.hid htx
  clear hA hl hcap hr hwf htx
  by_cases g1 : n < 0
  · have k1 : decide (n < 0) = true := decide_eq_true g1
    have e : r = 1 := by rw [← HR.out]; unfold iwrong; rw [if_pos (.inl g1)]
    subst e
    clear hmm HR
    go_enter Tryz.func24, Tryz.ntmps24
    go_wp2
    go_ret2
    first | exact ⟨_, rfl, rfl, Below.refl _ _⟩ | exact ⟨_, rfl, fun _ => rfl, fun h => absurd h (by decide), Below.refl _ _⟩
  · have k1 : decide (n < 0) = false := decide_eq_false g1
    by_cases g2 : 1099511627776 < n
    · have k2 : decide (1099511627776 < n) = true := decide_eq_true g2
      have e : r = 1 := by rw [← HR.out]; unfold iwrong; rw [if_pos (.inr g2)]
      subst e
      clear hmm HR
      go_enter Tryz.func24, Tryz.ntmps24
      go_wp2
      go_ret2
      first | exact ⟨_, rfl, rfl, Below.refl _ _⟩ | exact ⟨_, rfl, fun _ => rfl, fun h => absurd h (by decide), Below.refl _ _⟩
    · have k2 : decide (1099511627776 < n) = false := decide_eq_false g2
      by_cases g3 : 60 < m
      · have k3 : decide (60 < m) = true := decide_eq_true g3
        have k4 : decide ((60 : Int) < (m : Int)) = true := decide_eq_true (by omega)
        have e : r = 5 := by rw [← HR.out]; unfold iwrong; rw [if_neg (by omega), if_pos (by rw [HL.out]; exact g3)]
        subst e
        clear hmm HR
        go_enter Tryz.func24, Tryz.ntmps24
        go_wp2
        go_ret2
        first | exact ⟨_, rfl, rfl, Below.refl _ _⟩ | exact ⟨_, rfl, fun _ => rfl, fun h => absurd h (by decide), Below.refl _ _⟩
      · skip
        have k3 : decide (60 < m) = false := decide_eq_false g3
        have k4 : decide ((60 : Int) < (m : Int)) = false := decide_eq_false (by omega)
        have e : r = iw n [] l := by rw [← HR.out]; unfold iwrong; rw [if_neg (by omega), if_neg (by rw [HL.out]; exact g3)]
        have HE := Lib.hid e
        have HAP : Hid (r = 0 → IApart l) := Lib.hid (fun h => by have := (iw_apart (n := n) (l := l) (seen := []) (by rw [← e]; exact h) List.Pairwise.nil).1; simpa using this)
        clear e HR
        have CI := Lib.hid fun a W (hs : a.tx.size ≤ 100000000) b hb => iCheck_any a n W hs b hb
        have x0 : Below w.heap.size w (w.alloc (.map #[] 0)) := (Below.refl _ _).alloc (Nat.le_refl _) _
        have M0 := Lib.hid (MapV.made (P := Tryz.prog) (K := 3) (kl := iklI) w)
        go_enter Tryz.func24, Tryz.ntmps24
        go_wp2_with fail
        go_loopg [25] m (fun g i wr => ∃ (k : Nat) (f : Int → Option Value), i = .int .i64 k ∧ k ≤ m ∧ m - k ≤ g ∧ Hid (Below w.heap.size w wr) ∧ Hid (MapV Tryz.prog 3 iklI wr w.heap.size k f) ∧ Hid (IMap f (l.take k)) ∧ Hid (r = iw n (l.take k) (l.drop k)))
        case atStart => exact ⟨0, fun _ => none, rfl, by omega, by omega, Lib.hid x0, M0, Lib.hid ⟨fun a h => absurd h (by simp), fun _ _ => rfl⟩, Lib.hid (by simpa using HE.out)⟩
        case round =>
          obtain ⟨k, f, rfl, h1, h2, hb, hM, hF, hck⟩ := hrel
          clear M0 x0 HE
          by_cases hlt : k < m
          · have hkl : k < l.length := by rw [HL.out]; exact hlt
            obtain ⟨bA, off, rfl, hbA, hce⟩ := (HA.out.below hb.out).at1 hkl
            have hwk := HW.out _ (List.getElem_mem hkl)
            have hxk := HX.out _ (List.getElem_mem hkl)
            have f0 := hce 0 (by omega)
            have f1 := hce 1 (by omega)
            have f2 := hce 2 (by omega)
            have f3 := hce 3 (by omega)
            have f4 := hce 4 (by omega)
            rw [Nat.add_zero] at f0
            have hdr : l.drop k = l[k] :: l.drop (k + 1) := List.drop_eq_getElem_cons hkl
            have htk : l.take (k + 1) = l.take k ++ [l[k]] := by rw [List.take_succ_eq_append_getElem hkl]
            have hst := hck.out
            rw [hdr, iw] at hst
            rw [← htk] at hst
            have HST := Lib.hid hst
            have HTK := Lib.hid htk
            clear hst htk hdr hck
            generalize l[k] = o at *
            clear hce
            simp [encI] at f0 f1 f2 f3 f4
            have i1 : (0 : Int) ≤ k := by omega
            have i2 : (k : Int) < m := by omega
            have HWK := Lib.hid hwk
            have x3 : Below wr.heap.size wr (wr.alloc (.cells #[.int .i64 o.id, .int .i64 o.pl, .int .i64 o.bi, .int .i64 o.ky, .string o.tx] 63)) := (Below.refl _ _).alloc (Nat.le_refl _) _
            have R3 : RawAt 63 (wr.alloc (.cells #[.int .i64 o.id, .int .i64 o.pl, .int .i64 o.bi, .int .i64 o.ky, .string o.tx] 63)) wr.heap.size #[.int .i64 o.id, .int .i64 o.pl, .int .i64 o.bi, .int .i64 o.ky, .string o.tx] := heap_alloc_new wr _
            have e0 := RawAt.cell R3 0
            have e1 := RawAt.cell R3 1
            have e2 := RawAt.cell R3 2
            have e3 := RawAt.cell R3 3
            have e4 := RawAt.cell R3 4
            simp at e0 e1 e2 e3 e4
            have HR3 := Lib.hid R3
            have HB3 := Lib.hid (hb.out.trans (x3.mono hb.out.size))
            have HM3 := Lib.hid (hM.out.below x3)
            have CI1 := Lib.hid fun W => CI.out o W hxk (iwr n o) rfl
            clear R3 hb hM x3 hwk hxk
            by_cases g4 : iwr n o = 0
            · rw [g4] at CI1
              have HST2 : Hid (r = if (l.take k).any (fun b => b.id == o.id) then 8 else iw n (l.take (k + 1)) (l.drop (k + 1))) := Lib.hid (by rw [HST.out, if_neg (fun h => h g4)])
              clear HST g4
              go_wp2_with fail
              with_reducible refine (CI1.out _).mono ?_
              rintro e w4 ⟨rfl, b4⟩
              have HM4 := HM3.out.below b4
              have R4 := RawAt.below HR3.out b4 HR3.out.lt
              have q4 := HB3.out.trans (b4.mono HB3.out.size)
              have c0 := RawAt.cell R4 0
              simp at c0
              by_cases g5 : (l.take k).any (fun b => b.id == o.id) = true
              · obtain ⟨y, hy1, hy2⟩ := List.any_eq_true.1 g5
                have hy3 : y.id = o.id := by simpa using hy2
                have hfo : f o.id = some (.bool true) := by rw [← hy3]; exact hF.out.has y hy1
                have e : r = 8 := by rw [HST2.out, if_pos g5]
                subst e
                have L4 := HM4.look1 intK' Tryz.underlying93 (bool_zero _) o.id HWK.out
                rw [hfo] at L4
                simp only [Option.getD_some] at L4
                have HL4 := Lib.hid L4
                clear L4 g5 hfo hy1 hy2 hy3 HST2
                go_wp2_with (at_lookup; refine wpList_lookV1 rfl (.tmp 35) (.tmp 37) _ rfl _ _ rfl rfl HL4.out ?_)
                go_ret2
                first | exact ⟨_, rfl, rfl, q4⟩ | exact ⟨_, rfl, fun _ => rfl, fun h => absurd h (by decide), q4⟩
              · have hne : ∀ b ∈ l.take k, b.id ≠ o.id := fun b hb he => g5 (List.any_eq_true.2 ⟨b, hb, by simp [he]⟩)
                have hfo : f o.id = none := hF.out.non _ hne
                have HN : Hid (r = iw n (l.take (k + 1)) (l.drop (k + 1))) := Lib.hid (by rw [HST2.out, if_neg g5])
                have HF' : Hid (IMap (fun x => if x = o.id then some (.bool true) else f x) (l.take (k + 1))) := Lib.hid (by rw [HTK.out]; exact hF.out.snoc)
                have L4 := HM4.look1 intK' Tryz.underlying93 (bool_zero _) o.id HWK.out
                rw [hfo] at L4
                simp only [Option.getD_none] at L4
                have HL4 := Lib.hid L4
                have HMM := Lib.hid HM4
                have HQ4 := Lib.hid q4
                obtain ⟨w6, hrun, hM6, hg6⟩ := HM4.store intK' Tryz.underlying93 (by simp only [maxLen]; omega) o.id HWK.out (.bool true)
                have HRUN := Lib.hid hrun
                have HM6 := Lib.hid hM6
                have HB6 := Lib.hid (q4.grown hg6 q4.size (fun j hj => by injection hj with hj; omega))
                clear L4 HM4 q4 g5 hfo hne HST2 hrun hM6 hg6 R4
                go_wp2_with (first | (at_lookup; refine wpList_lookV1 rfl (.tmp 35) (.tmp 37) _ rfl _ _ rfl rfl HL4.out ?_) | (at_mapUpdate; refine wpList_storeV rfl (.tmp 39) (.tmp 41) (.const (.bool true)) _ rfl _ _ _ rfl rfl rfl HRUN.out ?_))
                go_roundg (gk - 1)
                case measure => omega
                case rel => exact ⟨k + 1, _, by go_num, by omega, by omega, HB6, HM6, HF', HN⟩
            · have e : r = iwr n o := by rw [HST.out, if_pos g4]
              rw [← e] at CI1 g4
              have k5 : (r != 0) = true := by simp [g4]
              have k6 : (r == 0) = false := by simp [g4]
              have HG := Lib.hid g4
              clear HST g4 e
              go_wp2_with fail
              with_reducible refine (CI1.out _).mono ?_
              rintro e w4 ⟨rfl, b4⟩
              have q4 := HB3.out.trans (b4.mono HB3.out.size)
              go_wp2
              go_ret2
              exact ⟨_, rfl, fun _ => rfl, fun h => absurd h HG.out, q4⟩
          · obtain rfl : k = m := by omega
            have e1 : l.take k = l := List.take_of_length_le (by rw [HL.out]; exact Nat.le_refl _)
            have e2 : l.drop k = [] := List.drop_of_length_le (by rw [HL.out]; exact Nat.le_refl _)
            have hck2 := hck.out
            rw [e1, e2, iw] at hck2
            subst hck2
            have hap := iapart_icl (HAP.out rfl)
            have CC := Lib.hid (iClone_any A k c l wr (HA.out.below hb.out) HC.out HL.out (by omega))
            have HB := Lib.hid hb.out
            have HAP2 := Lib.hid hap
            have hlm : (l.map icl).length = k := by rw [List.length_map]; exact HL.out
            have HLO : Hid ((ord ilt (l.map icl)).length = k) := Lib.hid (by rw [(ord_perm ilt ilt_swo _).length_eq]; exact hlm)
            have CCL := Lib.hid fun (s : ByteArray) (W : World) (hs : s.size ≤ 100000000) => clean_any s W hs
            clear hb hM hF hck e1 e2 hap hlm HAP
            go_wp2_with fail
            with_reducible refine (CC.out).mono ?_
            rintro e w4 ⟨v4, rfl, o4, b4, _⟩
            have HB4 := Lib.hid (HB.out.trans (b4.mono HB.out.size))
            obtain ⟨A4, c4, rfl⟩ := own_formI o4
            obtain ⟨B, hBB⟩ : ∃ B, B = wr.heap.size := ⟨_, rfl⟩
            have hwB : w.heap.size ≤ B := by rw [hBB]; exact HB.out.size
            rw [← hBB] at o4
            have O4 := Lib.hid o4
            clear o4 b4 CC hBB HB
            go_wp2_with fail
            go_loopg [47] k (fun g i wr => ∃ (j : Nat), i = .int .i64 j ∧ j ≤ k ∧ k - j ≤ g ∧ Hid (Below w.heap.size w wr) ∧ Hid (wr.ownsRow B 63 5 (.slice A4 k c4) k (kfl encI ((l.take j).map icl ++ l.drop j))))
            case atStart => exact ⟨0, rfl, by omega, by omega, HB4, Lib.hid (by simpa using O4.out)⟩
            case round =>
              clear O4 HB4
              obtain ⟨j, rfl, h1, h2, hb, hown⟩ := hrel
              by_cases hlt : j < k
              · have hkl : j < l.length := by rw [HL.out]; exact hlt
                obtain ⟨g, cap, hv⟩ := own_slice hown.out (by omega)
                injection hv with hv1 _ hv2
                subst hv1
                subst hv2
                obtain ⟨hk2, hel⟩ := icl_at l j hkl
                have hst := icl_step l j hkl
                have hset := ikfl_set ((l.take j).map icl ++ l.drop j) j hk2 ⟨(encAll (dec l[j].tx)).toArray⟩
                rw [hel] at hset
                rw [show (⟨l[j].id, l[j].pl, l[j].bi, l[j].ky, ⟨(encAll (dec l[j].tx)).toArray⟩⟩ : In) = icl l[j] from rfl, hst] at hset
                have hxk := HX.out _ (List.getElem_mem hkl)
                have z0 := kfl_at encI_len ((l.take j).map icl ++ l.drop j) j hk2 0 (by omega)
                have z1 := kfl_at encI_len ((l.take j).map icl ++ l.drop j) j hk2 1 (by omega)
                have z2 := kfl_at encI_len ((l.take j).map icl ++ l.drop j) j hk2 2 (by omega)
                have z3 := kfl_at encI_len ((l.take j).map icl ++ l.drop j) j hk2 3 (by omega)
                have z4 := kfl_at encI_len ((l.take j).map icl ++ l.drop j) j hk2 4 (by omega)
                rw [hel] at z0 z1 z2 z3 z4
                rw [Nat.add_zero] at z0
                have f0 := hown.out.cellAt (j * 5) (by omega)
                have f1 := hown.out.cellAt (j * 5 + 1) (by omega)
                have f2 := hown.out.cellAt (j * 5 + 2) (by omega)
                have f3 := hown.out.cellAt (j * 5 + 3) (by omega)
                have f4 := hown.out.cellAt (j * 5 + 4) (by omega)
                rw [z0] at f0
                rw [z1] at f1
                rw [z2] at f2
                rw [z3] at f3
                rw [z4] at f4
                have HSET := Lib.hid hset
                have Z4 := Lib.hid (show (kfl encI ((l.take j).map icl ++ l.drop j))[j * 5 + 4]? = some (.string l[j].tx) from z4)
                clear hst hset z0 z1 z2 z3 z4 hel hk2
                generalize l[j] = o at *
                simp [encI] at f0 f1 f2 f3 f4
                have i1 : (0 : Int) ≤ j := by omega
                have i2 : (j : Int) < k := by omega
                have x3 : Below wr.heap.size wr (wr.alloc (.cells #[.int .i64 o.id, .int .i64 o.pl, .int .i64 o.bi, .int .i64 o.ky, .string o.tx] 63)) := (Below.refl _ _).alloc (Nat.le_refl _) _
                have R3 : RawAt 63 (wr.alloc (.cells #[.int .i64 o.id, .int .i64 o.pl, .int .i64 o.bi, .int .i64 o.ky, .string o.tx] 63)) wr.heap.size #[.int .i64 o.id, .int .i64 o.pl, .int .i64 o.bi, .int .i64 o.ky, .string o.tx] := heap_alloc_new wr _
                have e0 := RawAt.cell R3 0
                have e4 := RawAt.cell R3 4
                simp at e0 e4
                have HB3 := Lib.hid (hb.out.trans (x3.mono hb.out.size))
                have HOW3 := Lib.hid (own_below hown.out x3)
                have CLK := Lib.hid (CCL.out o.tx (wr.alloc (.cells #[.int .i64 o.id, .int .i64 o.pl, .int .i64 o.bi, .int .i64 o.ky, .string o.tx] 63)) hxk)
                have hgB : w.heap.size ≤ g := Nat.le_trans hwB (hown.out.lt g rfl).1
                generalize (⟨(encAll (dec o.tx)).toArray⟩ : ByteArray) = z at *
                clear R3 x3 hown hb hxk
                go_wp2_with fail
                with_reducible refine (CLK.out).mono ?_
                rintro e5 w5 ⟨rfl, b5⟩
                have HB5 := HB3.out.trans (b5.mono HB3.out.size)
                have HO5 := own_below HOW3.out b5
                have d1 := HO5.cellAt (j * 5 + 4) (by omega)
                have d2 := own_freeI HO5 (j * 5 + 4)
                rw [Z4.out] at d1
                have HB6 := Lib.hid (HB5.setCell (p := ⟨g, j * 5 + 4, none⟩) hgB (.string z))
                have HO6 := own_setKI HO5 (j * 5 + 4) (.string z)
                rw [HSET.out] at HO6
                have HO6 := Lib.hid HO6
                clear HO5 HB5 b5 Z4 CLK
                go_wp2
                go_roundg (gk - 1)
                case measure => omega
                case rel => exact ⟨j + 1, by go_num, by omega, by omega, HB6, HO6⟩
              · obtain rfl : k = j := by omega
                have e1 : (l.take k).map icl ++ l.drop k = l.map icl := by rw [List.take_of_length_le (by rw [HL.out]; exact Nat.le_refl _), List.drop_of_length_le (by rw [HL.out]; exact Nat.le_refl _), List.append_nil]
                have hown2 := hown.out
                rw [e1] at hown2
                have HB := Lib.hid hb.out
                rcases Nat.eq_zero_or_pos k with hk0 | hkp
                · subst hk0
                  have hl0 : l = [] := List.eq_nil_of_length_eq_zero HL.out
                  subst hl0
                  have CS := Lib.hid (iSort_none A4 c4 wr)
                  have O4 := Lib.hid hown2
                  clear hown hown2 hb e1
                  go_wp2_with fail
                  with_reducible refine (CS.out).mono ?_
                  rintro e w5 ⟨rfl, rfl⟩
                  have x6 : Below w5.heap.size w5 (w5.alloc (.cells #[.int .i64 n, .slice A4 0 c4] 100)) := (Below.refl _ _).alloc (Nat.le_refl _) _
                  go_wp2
                  go_ret2
                  have hset : ISet (w5.alloc (.cells #[.int .i64 n, .slice A4 0 c4] 100)) w5.heap.size n (ord ilt ([].map icl)) := ⟨_, heap_alloc_new w5 _, own_baseI (own_below O4.out x6) (Nat.zero_le _)⟩
                  first | exact ⟨_, rfl, ⟨_, rfl, hset⟩, HB.out.alloc HB.out.size _⟩ | exact ⟨_, rfl, fun h => absurd rfl h, fun _ => ⟨_, rfl, hset⟩, HB.out.alloc HB.out.size _⟩
                · obtain ⟨g4, cap, hv⟩ := own_slice hown2 hkp
                  injection hv with hv1 _ hv2
                  subst hv1
                  subst hv2
                  have CS := Lib.hid (iSort_any hown2 (by omega) (iapart_inj HAP2.out))
                  have hge : B ≤ g4 := (hown2.lt g4 rfl).1
                  clear hown hown2 hb e1
                  go_wp2_with fail
                  with_reducible refine (CS.out).mono ?_
                  rintro e w5 ⟨rfl, o5, b5⟩
                  have HB5 := Lib.hid (HB.out.trans (b5.below.mono (by omega)))
                  have HO5 := Lib.hid o5
                  clear o5 b5 CS
                  have x6 : Below w5.heap.size w5 (w5.alloc (.cells #[.int .i64 n, .slice (some ⟨g4, 0, none⟩) k c4] 100)) := (Below.refl _ _).alloc (Nat.le_refl _) _
                  go_wp2
                  go_ret2
                  have hset : ISet (w5.alloc (.cells #[.int .i64 n, .slice (some ⟨g4, 0, none⟩) k c4] 100)) w5.heap.size n (ord ilt (l.map icl)) := ⟨_, heap_alloc_new w5 _, by rw [HLO.out]; exact own_baseI (own_below HO5.out x6) (Nat.zero_le _)⟩
                  first | exact ⟨_, rfl, ⟨_, rfl, hset⟩, HB5.out.alloc HB5.out.size _⟩ | exact ⟨_, rfl, fun h => absurd rfl h, fun _ => ⟨_, rfl, hset⟩, HB5.out.alloc HB5.out.size _⟩
set_option linter.unusedVariables false
theorem ifld0 (n : Int) (A : Option Addr) (m c : Nat) (w : World) : (Instr.field 100 (.agg #[.int .i64 n, .slice A m c]) 0).run Tryz.prog w = .ok (.int .i64 n) w := by kernel_rfl
theorem ifld1 (n : Int) (A : Option Addr) (m c : Nat) (w : World) : (Instr.field 100 (.agg #[.int .i64 n, .slice A m c]) 1).run Tryz.prog w = .ok (.slice A m c) w := by kernel_rfl
set_option maxHeartbeats 4000000 in
set_option maxRecDepth 100000 in
theorem iKept_nil (w : World) : Calls Tryz.prog 86 #[.pointer none] w fun e w' => e = .returned (.agg #[.int .i64 0, .slice none 0 0]) ∧ Below w.heap.size w w' := by
  have x1 : Below w.heap.size w (w.alloc (.cells #[.int .i64 0, .slice none 0 0] 100)) := (Below.refl _ _).alloc (Nat.le_refl _) _
  have R1 : RawAt 100 (w.alloc (.cells #[.int .i64 0, .slice none 0 0] 100)) w.heap.size #[.int .i64 0, .slice none 0 0] := heap_alloc_new w _
  have e0 := RawAt.cell R1 0
  have e1 := RawAt.cell R1 1
  have f0 := RawAt.free R1 0
  have f1 := RawAt.free R1 1
  simp at e0 e1
  clear R1
  go_enter Tryz.func86, Tryz.ntmps86
  go_wp2
  refine bodyPost_ret (v := .agg #[.int .i64 0, .slice none 0 0]) (by simp [results, Tryz.results86, go_sem]) rfl ⟨rfl, x1⟩
set_option maxHeartbeats 4000000 in
set_option maxRecDepth 100000 in
theorem iKept_any {sb : Nat} {n : Int} {o : List In} {w : World} {A : Option Addr} {c : Nat} (h : RawAt 100 w sb #[.int .i64 n, .slice A o.length c]) : Calls Tryz.prog 86 #[.pointer (some ⟨sb, 0, none⟩)] w fun e w' => e = .returned (.agg #[.int .i64 n, .slice A o.length c]) ∧ Below w.heap.size w w' := by
  generalize o.length = k at *
  have x1 : Below w.heap.size w (w.alloc (.cells #[.int .i64 0, .slice none 0 0] 100)) := (Below.refl _ _).alloc (Nat.le_refl _) _
  have R1 : RawAt 100 (w.alloc (.cells #[.int .i64 0, .slice none 0 0] 100)) w.heap.size #[.int .i64 0, .slice none 0 0] := heap_alloc_new w _
  have e0 := RawAt.cell R1 0
  have e1 := RawAt.cell R1 1
  have f0 := RawAt.free R1 0
  have f1 := RawAt.free R1 1
  have h1 := h.below x1 h.lt
  have c0 := RawAt.cell h1 0
  have c1 := RawAt.cell h1 1
  simp at e0 e1 c0 c1
  have x2 : Below w.heap.size w (w.alloc (.cells #[.int .i64 n, .slice A k c] 100)) := (Below.refl _ _).alloc (Nat.le_refl _) _
  clear R1 h1
  go_enter Tryz.func86, Tryz.ntmps86
  go_wp2
  refine bodyPost_ret (v := .agg #[.int .i64 n, .slice A k c]) (by simp [results, Tryz.results86, go_sem]) rfl ⟨rfl, ?_⟩
  exact x2
/-- What All answers: the anchors, in memory of one's own. -/
def IOwn (w : World) (v : Value) (o : List In) : Prop := ∃ B, w.ownsRow B 63 5 v o.length (kfl encI o)
/-- Anchors from one place on, up to another one. -/
def iwithin (x y : Int) (o : List In) : List In := o.filter fun a => decide (x ≤ a.pl ∧ a.pl ≤ y)
theorem iwithin_snoc (x y : Int) (o : List In) (a : In) : iwithin x y (o ++ [a]) = if x ≤ a.pl ∧ a.pl ≤ y then iwithin x y o ++ [a] else iwithin x y o := by
  unfold iwithin
  rw [List.filter_append]
  split <;> rename_i h
  · simp [h]
  · rw [List.filter_cons_of_neg (by simpa using h)]; simp
theorem iwithin_len (x y : Int) (o : List In) : (iwithin x y o).length ≤ o.length := List.length_filter_le _ _
set_option maxHeartbeats 8000000 in
set_option maxRecDepth 100000 in
theorem iWithin_rows {w : World} {o : List In} (x y : Int) (p : Value) (A : Option Addr) (c : Nat) (n : Int) (hR : RowsAt encI 5 w A o) (ho : o.length ≤ 100000)
    (CK0 : Calls Tryz.prog 86 #[p] w fun e w' => e = .returned (.agg #[.int .i64 n, .slice A o.length c]) ∧ Below w.heap.size w w') :
    Calls Tryz.prog 55 #[p, .int .i64 x, .int .i64 y] w fun e w' => ∃ v, e = .returned v ∧ w'.ownsRow w.heap.size 63 5 v (iwithin x y o).length (kfl encI (iwithin x y o)) ∧ Below w.heap.size w w' := by
  have CK := Lib.hid CK0
  have HR := Lib.hid hR
  have HO := Lib.hid ho
  have ST := in_slt
  have tf1 := ifld1
  clear hR CK0
  obtain ⟨m, hm⟩ : ∃ m, m = o.length := ⟨_, rfl⟩
  have HM := Lib.hid hm
  rw [← hm] at CK ho
  clear hm
  go_enter Tryz.func55, Tryz.ntmps55
  go_wp2_with fail
  with_reducible refine (CK.out).mono ?_
  rintro e1 w1 ⟨rfl, b1⟩
  have B1 := Lib.hid b1
  clear b1 CK
  go_wp2_with fail
  go_loopg [7, 14] m (fun g v i wr => ∃ (k : Nat), i = .int .i64 k ∧ k ≤ m ∧ m - k ≤ g ∧ Hid (Below w.heap.size w wr) ∧ Hid (wr.ownsRow w.heap.size 63 5 v (iwithin x y (o.take k)).length (kfl encI (iwithin x y (o.take k)))))
  case atStart => exact ⟨0, rfl, by omega, by omega, B1, Lib.hid (World.ownsRow_nil _ _ _ _)⟩
  case round =>
    obtain ⟨k, rfl, h1, h2, hb, hown⟩ := hrel
    clear B1
    by_cases hlt : k < m
    · have hkl : k < o.length := by rw [← HM.out]; exact hlt
      obtain ⟨bA, off, rfl, hbA, hce⟩ := (HR.out.below hb.out).at1 hkl
      have f0 := hce 0 (by omega)
      have f1 := hce 1 (by omega)
      have f2 := hce 2 (by omega)
      have f3 := hce 3 (by omega)
      have f4 := hce 4 (by omega)
      rw [Nat.add_zero] at f0
      have htk : o.take (k + 1) = o.take k ++ [o[k]] := by rw [List.take_succ_eq_append_getElem hkl]
      have hws := iwithin_snoc x y (o.take k) o[k]
      rw [← htk] at hws
      have HWS := Lib.hid hws
      have hwl := iwithin_len x y (o.take k)
      rw [List.length_take] at hwl
      clear htk hws hce
      generalize o[k] = a at *
      simp [encI] at f0 f1 f2 f3 f4
      have i1 : (0 : Int) ≤ k := by omega
      have i2 : (k : Int) < m := by omega
      have x3 : Below wr.heap.size wr (wr.alloc (.cells #[.int .i64 a.id, .int .i64 a.pl, .int .i64 a.bi, .int .i64 a.ky, .string a.tx] 63)) := (Below.refl _ _).alloc (Nat.le_refl _) _
      have R3 : RawAt 63 (wr.alloc (.cells #[.int .i64 a.id, .int .i64 a.pl, .int .i64 a.bi, .int .i64 a.ky, .string a.tx] 63)) wr.heap.size #[.int .i64 a.id, .int .i64 a.pl, .int .i64 a.bi, .int .i64 a.ky, .string a.tx] := heap_alloc_new wr _
      have e0 := RawAt.cell R3 0
      have e1 := RawAt.cell R3 1
      have e2 := RawAt.cell R3 2
      have e3 := RawAt.cell R3 3
      have e4 := RawAt.cell R3 4
      simp at e0 e1 e2 e3 e4
      have HB3 := Lib.hid (hb.out.trans (x3.mono hb.out.size))
      have HO3 := Lib.hid (own_below hown.out x3)
      obtain ⟨A3, c3, rfl⟩ := own_form hown.out
      have hz3 : (wr.alloc (.cells #[.int .i64 a.id, .int .i64 a.pl, .int .i64 a.bi, .int .i64 a.ky, .string a.tx] 63)).heap.size = wr.heap.size + 1 := by simp
      generalize hW3 : wr.alloc (.cells #[.int .i64 a.id, .int .i64 a.pl, .int .i64 a.bi, .int .i64 a.ky, .string a.tx] 63) = W3 at HB3 HO3 hz3
      have x4 : Below W3.heap.size W3 (W3.alloc (.cells #[.int .i64 a.id, .int .i64 a.pl, .int .i64 a.bi, .int .i64 a.ky, .string a.tx] 63)) := (Below.refl _ _).alloc (Nat.le_refl _) _
      have R4 : RawAt 63 (W3.alloc (.cells #[.int .i64 a.id, .int .i64 a.pl, .int .i64 a.bi, .int .i64 a.ky, .string a.tx] 63)) W3.heap.size #[.int .i64 a.id, .int .i64 a.pl, .int .i64 a.bi, .int .i64 a.ky, .string a.tx] := heap_alloc_new W3 _
      have HO4 := Lib.hid (own_below HO3.out x4)
      have HS4 : Hid (RowsAt encI 5 (W3.alloc (.cells #[.int .i64 a.id, .int .i64 a.pl, .int .i64 a.bi, .int .i64 a.ky, .string a.tx] 63)) (some ⟨wr.heap.size + 1, 0, none⟩) [a]) := Lib.hid (by rw [← hz3]; exact rows_of_block (enc := encI) (k := 5) encI_len R4 (l := [a]) rfl)
      have HB4 := Lib.hid (HB3.out.trans (x4.mono HB3.out.size))
      have hlt4 := hown.out.lt
      have HW3 := Lib.hid hW3
      clear R3 x3 hown hb x4 R4 hW3 hz3
      have HO := HO
      by_cases g1 : x ≤ a.pl
      · have k1 : decide (x ≤ a.pl) = true := decide_eq_true g1
        by_cases g2 : a.pl ≤ y
        · have k2 : decide (a.pl ≤ y) = true := decide_eq_true g2
          have HN := HWS.out
          rw [if_pos ⟨g1, g2⟩] at HN
          have HN := Lib.hid HN
          clear g1 g2 HWS
          rw [← HW3.out] at HO4 HS4 HB4
          go_wp2_with (at_builtin; refine wpList_appK (enc := encI) ST encI_len (by omega) rfl (.tmp 28) (.tmp 30) rfl (base := w.heap.size) (v := .slice A3 (iwithin x y (o.take k)).length c3) rfl HO4.out _ 1 1 [a] rfl HS4.out ⟨Nat.le_refl _, fun h => by cases h⟩ rfl (kfl_one' encI_one _) (by simp only [maxLen]; omega) (by omega) HB4.out.size ?_; intro v5 w5 hown5 hg5 hor5)
          have hb5 := Lib.hid (HB4.out.grown hg5 HB4.out.size (fun j hj => (hlt4 j hj).1))
          have hO5 : Hid (w5.ownsRow w.heap.size 63 5 v5 (iwithin x y (o.take (k + 1))).length (kfl encI (iwithin x y (o.take (k + 1))))) := Lib.hid (by rw [HN.out, kfl_append, List.length_append]; exact hown5)
          clear hown5 hg5 hor5 HO4 HS4 HB4 HB3 HO3
          go_wp2
          go_roundg (gk - 1)
          case measure => omega
          case rel => exact ⟨k + 1, by go_num, by omega, by omega, hb5, hO5⟩
        · have k2 : decide (a.pl ≤ y) = false := decide_eq_false g2
          have HN := HWS.out
          rw [if_neg (fun h => g2 h.2)] at HN
          have HN := Lib.hid HN
          clear g1 g2 HWS HO4 HS4 HB4
          rw [← HW3.out] at HB3 HO3
          go_wp2
          go_roundg (gk - 1)
          case measure => omega
          case rel => exact ⟨k + 1, by go_num, by omega, by omega, HB3, Lib.hid (by rw [HN.out]; exact HO3.out)⟩
      · have k1 : decide (x ≤ a.pl) = false := decide_eq_false g1
        have HN := HWS.out
        rw [if_neg (fun h => g1 h.1)] at HN
        have HN := Lib.hid HN
        clear g1 HWS HO4 HS4 HB4
        rw [← HW3.out] at HB3 HO3
        go_wp2
        go_roundg (gk - 1)
        case measure => omega
        case rel => exact ⟨k + 1, by go_num, by omega, by omega, HB3, Lib.hid (by rw [HN.out]; exact HO3.out)⟩
    · obtain rfl : m = k := by omega
      have e2 : o.take m = o := List.take_of_length_le (by rw [HM.out]; exact Nat.le_refl _)
      have ho2 := hown.out
      rw [e2] at ho2
      have HO2 := Lib.hid ho2
      have HBB := hb
      clear e2 ho2 hown hb
      go_wp2
      go_ret
      exact ⟨_, rfl, HO2.out, HBB.out⟩
theorem iWithin_any {sb : Nat} {n : Int} {o : List In} {w : World} (h : ISet w sb n o) (ho : o.length ≤ 100000) (x y : Int) : Calls Tryz.prog 55 #[.pointer (some ⟨sb, 0, none⟩), .int .i64 x, .int .i64 y] w fun e w' => ∃ v, e = .returned v ∧ w'.ownsRow w.heap.size 63 5 v (iwithin x y o).length (kfl encI (iwithin x y o)) ∧ Below w.heap.size w w' := by
  obtain ⟨v, h1, h2⟩ := h
  obtain ⟨A, c, rfl, hR, _, hcap⟩ := rows_of_own encI_len (by omega) h2
  exact iWithin_rows x y _ A c n hR ho (iKept_any h1)
theorem iWithin_nil {w : World} (x y : Int) : Calls Tryz.prog 55 #[.pointer none, .int .i64 x, .int .i64 y] w fun e w' => ∃ v, e = .returned v ∧ w'.ownsRow w.heap.size 63 5 v 0 [] ∧ Below w.heap.size w w' :=
  iWithin_rows (o := []) x y _ none 0 0 (fun h => absurd h (by simp)) (by simp) (iKept_nil w)
set_option maxHeartbeats 4000000 in
set_option maxRecDepth 100000 in
theorem iLen_nil (w : World) : Calls Tryz.prog 50 #[.pointer none] w fun e w' => e = .returned (.int .i64 0) ∧ Below w.heap.size w w' := by
  have CK := Lib.hid (iKept_nil w)
  go_enter Tryz.func50, Tryz.ntmps50
  have tf0 := ifld0
  go_wp2_with fail
  with_reducible refine (CK.out).mono ?_
  rintro e1 w1 ⟨rfl, b1⟩
  go_wp2
  go_ret
  exact ⟨rfl, b1⟩
set_option maxHeartbeats 4000000 in
set_option maxRecDepth 100000 in
theorem iLen_any {sb : Nat} {n : Int} {o : List In} {w : World} (h : ISet w sb n o) : Calls Tryz.prog 50 #[.pointer (some ⟨sb, 0, none⟩)] w fun e w' => e = .returned (.int .i64 n) ∧ Below w.heap.size w w' := by
  obtain ⟨v, h1, h2⟩ := h
  obtain ⟨A, c, rfl, hR, _, hcap⟩ := rows_of_own encI_len (by omega) h2
  have CK := Lib.hid (iKept_any h1)
  clear h1 h2 hR hcap
  go_enter Tryz.func50, Tryz.ntmps50
  have tf0 := ifld0
  go_wp2_with fail
  with_reducible refine (CK.out).mono ?_
  rintro e1 w1 ⟨rfl, b1⟩
  go_wp2
  go_ret
  exact ⟨rfl, b1⟩
end Go.Proofs.YtpnjokhhbjpciaaGreatDoor
