/- The walk of the law on nil sets of anchors. -/
import Derived.Test.YtncbhbjhfmbbkaaAnG
namespace Go.Proofs.Ytncbhbjhfmbbkaa
open Go.RowKit Go.Sort
set_option linter.unusedVariables false
/-- What Shift of a nil set tells. -/
theorem shIs_nil (p : List Ch) : ∃ r, ShIs 0 p [] r ∧ (r = 4 ↔ ¬ nrm M40 0 0 true p) := by
  by_cases hn : nrm M40 0 0 true p
  · by_cases hb : 0 < olast p
    · exact ⟨1, ⟨fun h => absurd hn h, fun _ _ => rfl, fun _ h => absurd hb h⟩, by simp [hn]⟩
    · refine ⟨awrong (0 + dlt p) (ashift p []), ⟨fun h => absurd hn h, fun _ h => absurd h hb, fun _ _ => rfl⟩, ?_⟩
      unfold awrong
      constructor
      · intro h
        split at h
        · cases h
        · simp [ashift, aw] at h
      · intro h; exact absurd hn h
  · exact ⟨4, ⟨fun _ => rfl, fun h => absurd h hn, fun h => absurd h hn⟩, by simp [hn]⟩
set_option maxHeartbeats 16000000 in
set_option maxRecDepth 100000 in
theorem anchorNil_walk (a : Int) (A : Option Addr) (m c : Nat) (p : List Ch) (w : World) (wf : (Lit.int .i64 a).wf = true) (hI : ChsAt w A p) (hl : p.length = m) (_hn : m ≤ maxLen) (_hc : Caps A m c) :
    Calls Try.prog 7 #[.int .i64 a, .slice A m c] w fun e w' => e = .returned (.bool true) ∧ Below w.heap.size w w' := by
  have CB := Lib.hid fun W => aBoth_any W
  clear _hn _hc
  by_cases h1 : 100 < m
  · have k1 : decide (100 < m) = true := decide_eq_true h1
    have k2 : decide ((100 : Int) < (m : Int)) = true := decide_eq_true (by omega)
    clear hI hl
    go_enter Try.func7, Try.ntmps7
    go_wp2_with fail
    with_reducible refine (CB.out _).mono ?_
    rintro e w1 ⟨rfl, h2⟩
    go_wp2
    go_ret
    exact ⟨rfl, h2⟩
  · have k1 : decide (100 < m) = false := decide_eq_false h1
    have k2 : decide ((100 : Int) < (m : Int)) = false := decide_eq_false (by omega)
    have HI := Lib.hid hI
    have HL := Lib.hid hl
    have CG := Lib.hid (aGet_nil a w wf)
    have CS0 := Lib.hid fun (W : World) => aShift_nil (w := W) none 0 0 [] (fun h => absurd h (by simp)) rfl (by omega) 0 ⟨fun h => absurd trivial h, fun _ h => absurd h (by simp [olast]), fun _ _ => by decide⟩ 0 (by decide)
    obtain ⟨r, hr, hr4⟩ := shIs_nil p
    have CS := Lib.hid fun (W : World) (hW : Below w.heap.size w W) => aShift_nil (w := W) A m c p (HI.out.below hW) HL.out (by omega) r hr _ rfl
    have CA0 := Lib.hid fun W => aAll_nil W
    have CW0 := Lib.hid fun W => aWithin_nil (w := W) 0 9
    have CC := Lib.hid fun (W : World) (hW : Below w.heap.size w W) => achg_any A m c p W (HI.out.below hW) HL.out (by omega)
    obtain ⟨b, hb⟩ : ∃ b : Bool, b = true ↔ nrm M40 0 0 true p := by
      by_cases h : nrm M40 0 0 true p
      · exact ⟨true, by simp [h]⟩
      · exact ⟨false, by simp [h]⟩
    have CN := Lib.hid fun (A' : Option Addr) (c' : Nat) (W : World) (hW : ChsAt W A' p) => rNormal_any A' m c' p W b hW HL.out (by omega) hb
    have kr : (r == 4) = !b := by
      cases b with
      | true => have : ¬ r = 4 := fun h => hr4.1 h (hb.1 rfl)
                simp [this]
      | false => have : r = 4 := hr4.2 (fun h => absurd (hb.2 h) (by decide))
                 simp [this]
    have kd : decide (r = 4) = !b := by rw [← kr]; exact (Bool.beq_eq_decide_eq r 4).symm
    clear hr hr4 hb hI hl h1
    go_enter Try.func7, Try.ntmps7
    go_wp2_with fail
    with_reducible refine (CG.out).mono ?_
    rintro e1 w1 ⟨rfl, b1⟩
    have x2 : Below w1.heap.size w1 (w1.alloc (.cells #[.int .i64 0, .int .i64 0, .int .i64 0] 36)) := (Below.refl _ _).alloc (Nat.le_refl _) _
    have Q2 := Lib.hid (b1.trans (x2.mono b1.size))
    clear b1 x2 CG
    go_wp2_with fail
    with_reducible refine (CS0.out _).mono ?_
    rintro e3 w3 ⟨p3, rfl, _, hp3, b3⟩
    obtain ⟨s3, rfl, h3⟩ := hp3 trivial
    have Q3 := Lib.hid (Q2.out.trans (b3.mono Q2.out.size))
    have H3 := Lib.hid h3
    clear hp3 b3 h3 Q2 CS0
    go_wp2_with fail
    with_reducible refine (CS.out _ Q3.out).mono ?_
    rintro e4 w4 ⟨p4, rfl, _, _, b4⟩
    have Q4 := Lib.hid (Q3.out.trans (b4.mono Q3.out.size))
    have H4 := Lib.hid (H3.out.below b4)
    clear b4 Q3 H3 CS
    have CA := Lib.hid (aAll_any H4.out (by decide))
    go_wp2_with fail
    with_reducible refine (CA.out).mono ?_
    rintro e5 w5 ⟨v5, rfl, o5, b5⟩
    obtain ⟨A5, c5, rfl⟩ : ∃ A c, v5 = .slice A 0 c := own_form o5
    have Q5 := Lib.hid (Q4.out.trans (b5.mono Q4.out.size))
    clear o5 b5 Q4 CA
    go_wp2_with fail
    with_reducible refine (CA0.out _).mono ?_
    rintro e6 w6 ⟨v6, rfl, o6, b6⟩
    obtain ⟨A6, c6, rfl⟩ := own_form o6
    have Q6 := Lib.hid (Q5.out.trans (b6.mono Q5.out.size))
    clear o6 b6 Q5
    go_wp2_with fail
    with_reducible refine (CW0.out _).mono ?_
    rintro e7 w7 ⟨v7, rfl, o7, b7⟩
    obtain ⟨A7, c7, rfl⟩ := own_form o7
    have Q7 := Lib.hid (Q6.out.trans (b7.mono Q6.out.size))
    clear o7 b7 Q6
    go_wp2_with fail
    with_reducible refine (CC.out _ Q7.out).mono ?_
    rintro e8 w8 ⟨A8, c8, rfl, h8, _, b8⟩
    have Q8 := Lib.hid (Q7.out.trans (b8.mono Q7.out.size))
    clear b8 Q7
    go_wp2_with fail
    with_reducible refine (CN.out A8 c8 _ h8).mono ?_
    rintro e9 w9 ⟨rfl, b9⟩
    have Q9 := Lib.hid (Q8.out.trans (b9.mono Q8.out.size))
    clear b9 Q8 h8
    go_wp2_with fail
    with_reducible refine (CB.out _).mono ?_
    rintro e10 w10 ⟨rfl, b10⟩
    have Q10 := Lib.hid (Q9.out.trans (b10.mono Q9.out.size))
    go_wp2
    go_ret
    exact ⟨rfl, Q10.out⟩
end Go.Proofs.Ytncbhbjhfmbbkaa
