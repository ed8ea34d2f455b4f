/- Cells: the document's Wrong and runes. -/
import Derived.Test.YtbalafgoengppaaDoorClG
namespace Go.Proofs.YtbalafgoengppaaDoor
open Go.RowKit
set_option linter.unusedVariables false
def wrong18 (l : List PtV) (tab : Int) : Int := if ¬ (1 ≤ tab ∧ tab ≤ 16) then 1 else if l.all (fun x => decide (1 ≤ x.k) && decide (x.k ≤ 3)) then 0 else 4
theorem kok_all (l : List PtV) : kok l ↔ l.all (fun x => decide (1 ≤ x.k) && decide (x.k ≤ 3)) = true := by
  unfold kok
  rw [List.all_eq_true]
  constructor
  · intro h x hx; have := h x hx; simp; omega
  · intro h x hx; have := h x hx; simp at this; omega
set_option maxHeartbeats 4000000 in
set_option maxRecDepth 100000 in
theorem rWrong18_any (A : Option Addr) (n c : Nat) (l : List PtV) (tab : Int) (w : World) (hA : RowsAt ptcs 3 w A l) (hl : l.length = n) (hn : n ≤ 1000000) :
    Calls Tryd.prog 26 #[.slice A n c, .int .i64 tab] w fun e w' => e = .returned (.int .i64 (wrong18 l tab)) ∧ Below w.heap.size w w' := by
  have HA := Lib.hid hA
  have HL := Lib.hid hl
  clear hA hl
  by_cases g2 : 1 ≤ tab ∧ tab ≤ 16
  · have CR := Lib.hid fun W => rsRight_yes tab W g2.1 g2.2
    have HW0 : Hid (kok l → wrong18 l tab = 0) := Lib.hid fun h => by unfold wrong18; rw [if_neg (by simpa using g2), if_pos ((kok_all l).1 h)]
    have HW4 : Hid (¬ kok l → wrong18 l tab = 4) := Lib.hid fun h => by unfold wrong18; rw [if_neg (by simpa using g2), if_neg (fun hh => h ((kok_all l).2 hh))]
    clear g2
    go_enter Tryd.func26, Tryd.ntmps26
    go_wp2_with fail
    with_reducible refine (CR.out _).mono ?_
    rintro e w4 ⟨rfl, hw4⟩
    have hw4 := hw4.symm
    subst hw4
    go_wp2_with fail
    go_loopg [6, 12] n (fun g x i wr => ∃ (j : Nat), i = .int .i64 j ∧ j ≤ n ∧ n - j ≤ g ∧ Hid (Below w.heap.size w wr) ∧ Hid (kok (l.take j)))
    case atStart => exact ⟨0, rfl, by omega, by omega, Lib.hid (Below.refl _ _), Lib.hid (fun x hx => absurd hx (by simp))⟩
    case round =>
      obtain ⟨j, rfl, h1, h2, hb, hk⟩ := hrel
      by_cases hlt : j < n
      · have hjl : j < l.length := by rw [HL.out]; exact hlt
        obtain ⟨bA, off, rfl, hbA, d0, d1, d2⟩ := (HA.out.below hb.out).part3 hjl
        have HTK := Lib.hid (List.take_succ_eq_append_getElem hjl)
        have HBAD : Hid (¬ (1 ≤ l[j].k ∧ l[j].k ≤ 3) → wrong18 l tab = 4) := Lib.hid fun h => HW4.out fun hS => h (hS _ (List.getElem_mem hjl))
        generalize l[j] = o at *
        have i1 : (0 : Int) ≤ j := by omega
        have i2 : (j : Int) < n := by omega
        have HB3 := Lib.hid (hb.out.trans (((Below.refl wr.heap.size wr).alloc (Nat.le_refl _) (.cells #[.int .i64 o.k, .int .i64 o.p, .slice o.A o.n o.c] 82)).mono hb.out.size))
        clear hb
        by_cases q1 : o.k < 1
        · have k3 : decide (o.k < 1) = true := decide_eq_true q1
          have HR := Lib.hid (HBAD.out (by omega))
          go_wp2
          go_ret
          exact ⟨ret_int HR.out.symm, HB3.out⟩
        · have k3 : decide (o.k < 1) = false := decide_eq_false q1
          by_cases q2 : 3 < o.k
          · have k4 : decide (3 < o.k) = true := decide_eq_true q2
            have HR := Lib.hid (HBAD.out (by omega))
            go_wp2
            go_ret
            exact ⟨ret_int HR.out.symm, HB3.out⟩
          · have k4 : decide (3 < o.k) = false := decide_eq_false q2
            have HK2 : Hid (kok (l.take (j + 1))) := Lib.hid (by
              rw [HTK.out]
              intro x hx
              rcases List.mem_append.1 hx with hx | hx
              · exact hk.out x hx
              · rw [List.mem_singleton.1 hx]; omega)
            clear hk HBAD
            go_wp2
            go_roundg (gk - 1)
            case measure => omega
            case rel => exact ⟨j + 1, by go_num, by omega, by omega, HB3, HK2⟩
      · obtain rfl : j = n := by omega
        have h5 := hk.out
        rw [List.take_of_length_le (by rw [HL.out]; exact Nat.le_refl _)] at h5
        have HR := Lib.hid (HW0.out h5)
        clear h5 hk
        go_wp2
        go_ret
        exact ⟨ret_int HR.out.symm, hb.out⟩
  · have CR := Lib.hid fun W => rsRight_no tab W g2
    have HW : Hid (wrong18 l tab = 1) := Lib.hid (by unfold wrong18; rw [if_pos g2])
    clear g2
    go_enter Tryd.func26, Tryd.ntmps26
    go_wp2_with fail
    with_reducible refine (CR.out _).mono ?_
    rintro e w4 ⟨rfl, hw4⟩
    have hw4 := hw4.symm
    subst hw4
    go_wp2
    go_ret
    exact ⟨ret_int HW.out.symm, Below.refl _ _⟩
/-- What a part shows: where that lies. -/
theorem rRunes18_any (s : PtV) (w : World) (hs : PtOk w s) :
    Calls Tryd.prog 43 #[.agg #[.int .i64 s.k, .int .i64 s.p, .slice s.A s.n s.c]] w fun e w' => ∃ A c, e = .returned (.slice A (shown (pt s)).length c) ∧ IntsAt .i32 w' A (shown (pt s)) ∧ Caps A (shown (pt s)).length c ∧ Below w.heap.size w w' := by
  obtain ⟨o1, o2, o3, o4, o5, o6⟩ := hs
  have x1 : Below w.heap.size w (w.alloc (.cells #[.int .i64 s.k, .int .i64 s.p, .slice s.A s.n s.c] 82)) := (Below.refl _ _).alloc (Nat.le_refl _) _
  by_cases h3 : s.k = 3
  · have HS : Hid (shown (pt s) = [8230]) := Lib.hid (by unfold shown pt; rw [if_pos h3])
    obtain ⟨k, p, A, n, c, rs⟩ := s
    simp only at h3
    subst h3
    have x2 := Lib.hid (x1.alloc x1.size (.cells #[.int .i32 8230] 21))
    have hr2 := new2 w 82 21 #[.int .i64 3, .int .i64 p, .slice A n c] #[.int .i32 8230]
    have HR := Lib.hid (i32_of (l := [8230]) hr2.2.1 rfl)
    clear o1 o2 o3 o4 x1 hr2
    go_enter Tryd.func43, Tryd.ntmps43
    go_wp2
    go_ret
    exact ⟨some ⟨w.heap.size + 1, 0, none⟩, 1, by rw [HS.out]; rfl, by rw [HS.out]; exact HR.out, by rw [HS.out]; exact ⟨Nat.le_refl _, fun h => by cases h⟩, x2.out⟩
  · have k3 : (s.k == 3) = false := by simpa using h3
    have HS : Hid (shown (pt s) = s.rs) := Lib.hid (by unfold shown pt; rw [if_neg h3])
    have HI := Lib.hid (o4.below x1)
    have HC := Lib.hid o3
    have HL := Lib.hid o1
    have HX := Lib.hid x1
    clear o1 o2 o3 o4 x1 h3
    go_enter Tryd.func43, Tryd.ntmps43
    go_wp2
    go_ret
    exact ⟨s.A, s.c, by rw [HS.out, HL.out]; rfl, by rw [HS.out]; exact HI.out, by rw [HS.out, HL.out]; exact HC.out, HX.out⟩
end Go.Proofs.YtbalafgoengppaaDoor
