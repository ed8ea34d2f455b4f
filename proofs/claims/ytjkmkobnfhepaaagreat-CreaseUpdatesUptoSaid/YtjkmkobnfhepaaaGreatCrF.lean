/- Creases: how high; the laws' small case. -/
import Derived.Test.YtjkmkobnfhepaaaGreatCrD
import Derived.Test.YtjkmkobnfhepaaaGreatCrE
import Derived.Test.YtjkmkobnfhepaaaGreatWvL
namespace Go.Proofs.YtjkmkobnfhepaaaGreat
open Go.RowKit
set_option linter.unusedVariables false
theorem cr_facts {w : World} {p : Option Addr} {l : List I7} {h : Nat} (ht : CrAt w p l h) : (h = 0 ↔ l.length = 0) ∧ (2 ≤ h → four (h - 2) ≤ (l.length : Int) + 1) ∧ h ≤ 30000 ∧ l.length ≤ 30000 := by
  have key : ∀ q, TP w q l h → (h = 0 ↔ l.length = 0) ∧ (2 ≤ h → four (h - 2) ≤ (l.length : Int) + 1) ∧ h ≤ 30000 ∧ l.length ≤ 30000 := fun q hq => by
    obtain ⟨a1, a2, a3, a4⟩ := tp_facts hq
    refine ⟨a1, fun h2 => ?_, a3, a4⟩
    have q1 := a2 h2
    have q2 := four_succ (h - 2)
    have q3 := four_pos (h - 2)
    rw [show h - 1 = h - 2 + 1 from by omega] at q1
    omega
  obtain ⟨q, hq, _⟩ := crkept ht
  exact key q hq
def csixL : List (Int × Int) := [(1, 4)]
def csixI : List I7 := [cpc 0 1, cpc 1 3, cpc 0 2]
theorem csix_fine : iwrong 6 [] = 0 := by decide +kernel
theorem csix_ord : ord ilt (([] : List In).map icl) = [] := by kernel_rfl
theorem csix_set : wOSet 6 [] := ⟨List.Pairwise.nil, (fun a ha => by cases ha), List.Pairwise.nil, by decide, by omega, by omega⟩
theorem csix_rt : RtOk 0 csixL 6 := ⟨by decide, by decide, by decide, trivial⟩
theorem csix_is : crP 0 (csixL.map (cpl [])) (((6 : Nat) : Int) + wosum ((6 : Nat) : Int) 1 []) = csixI := by kernel_rfl
theorem csix_o3 : coutP csixI 3 = 1 := by kernel_rfl
theorem csix_o4 : coutP csixI 4 = 2 := by kernel_rfl
theorem csix_i2 : cinP csixI 2 = 4 := by kernel_rfl
theorem csix_s0 : wdsum 0 csixI = 6 := by kernel_rfl
theorem csix_s1 : wdsum 1 csixI = 4 := by kernel_rfl
set_option maxHeartbeats 8000000 in
set_option maxRecDepth 100000 in
theorem csix_any (w : World) : Calls Tryz.prog 6 #[] w fun e w' => e = .returned (.bool true) ∧ Below w.heap.size w w' := by
  have CN := Lib.hid (iNew_any 6 none 0 0 [] w (fun h => absurd h (by simp)) ⟨Nat.le_refl _, fun _ => rfl⟩ rfl (fun a ha => by cases ha) (fun a ha => by cases ha) 0 csix_fine)
  go_enter Tryz.func6, Tryz.ntmps6
  go_wp2_with fail
  with_reducible refine (CN.out).mono ?_
  rintro e1 w1 ⟨p1, rfl, _, hp1, b1⟩
  obtain ⟨s1, rfl, h1⟩ := hp1 trivial
  rw [csix_ord] at h1
  have Q1 := Lib.hid b1
  have CW := Lib.hid (wvNew_set h1 csix_set)
  clear hp1 CN b1 h1
  go_wp2_with fail
  with_reducible refine (CW.out).mono ?_
  rintro e2 w2 ⟨a, h, rfl, hW, b2⟩
  have Q2 := Lib.hid (Q1.out.trans (b2.mono Q1.out.size))
  have x3 : Below w2.heap.size w2 (w2.alloc (.cells #[.int .i64 1, .int .i64 4] 27)) := (Below.refl _ _).alloc (Nat.le_refl _) _
  have R3 : RawAt 27 (w2.alloc (.cells #[.int .i64 1, .int .i64 4] 27)) w2.heap.size #[.int .i64 1, .int .i64 4] := heap_alloc_new w2 _
  have CC := Lib.hid (cNew_any (n := 6) (some ⟨w2.heap.size, 0, none⟩) 1 1 csixL _ (hW.below x3) csix_set.wv (rows_of_block wencS_len R3 rfl) rfl (by omega) (by decide +kernel))
  have Q3 := Lib.hid (Q2.out.trans (x3.mono Q2.out.size))
  rw [csix_is] at CC
  clear hW b2 R3 x3 CW
  go_wp2_with fail
  with_reducible refine (CC.out).mono ?_
  rintro e3 w3 ⟨⟨_, ac, hc, rfl, hcr⟩ | ⟨hno, _⟩, b3⟩
  · have Q4 := Lib.hid (Q3.out.trans (b3.mono Q3.out.size))
    obtain ⟨f1, f2, f3, f4⟩ := cr_facts hcr
    have hlen : csixI.length = 3 := rfl
    rw [hlen] at f1
    have hh : hc = 1 := by
      by_cases h2 : 2 ≤ hc
      · obtain ⟨q, hq, _⟩ := crkept hcr
        obtain ⟨_, t2, _⟩ := tp_facts hq
        have q1 := t2 h2
        have q2 := four_succ (hc - 2)
        have q3 := four_pos (hc - 2)
        rw [show hc - 1 = hc - 2 + 1 from by omega, hlen] at q1
        omega
      · omega
    subst hh
    have CO3 := Lib.hid fun (W : World) (hb : Below w3.heap.size w3 W) => crOut_yes (hcr.below hb) 3 ⟨by omega, by rw [csix_s0]; omega⟩
    have CO4 := Lib.hid fun (W : World) (hb : Below w3.heap.size w3 W) => crOut_yes (hcr.below hb) 4 ⟨by omega, by rw [csix_s0]; omega⟩
    have CI := Lib.hid fun (W : World) (hb : Below w3.heap.size w3 W) => crIn_yes (hcr.below hb) 2 ⟨by omega, by rw [csix_s1]; omega⟩
    have CH := Lib.hid fun (W : World) (hb : Below w3.heap.size w3 W) => crHeight (hcr.below hb)
    rw [csix_o3] at CO3
    rw [csix_o4] at CO4
    rw [csix_i2] at CI
    clear f1 f2 f3 f4 hcr b3 CC hlen
    go_wp2_with fail
    with_reducible refine (CO3.out _ (Below.refl _ _)).mono ?_
    rintro e4 w4 ⟨rfl, b4⟩
    go_wp2_with fail
    with_reducible refine (CO4.out _ b4).mono ?_
    rintro e5 w5 ⟨rfl, b5⟩
    have b5 := b4.trans (b5.mono b4.size)
    go_wp2_with fail
    with_reducible refine (CI.out _ b5).mono ?_
    rintro e6 w6 ⟨rfl, b6⟩
    have b6 := b5.trans (b6.mono b5.size)
    go_wp2_with fail
    with_reducible refine (CH.out _ b6).mono ?_
    rintro e7 w7 ⟨rfl, b7⟩
    have b7 := Lib.hid (Q4.out.trans ((b6.trans (b7.mono b6.size)).mono Q4.out.size))
    clear b4 b5 b6 CO3 CO4 CI CH
    go_wp2
    go_ret
    exact ⟨rfl, b7.out⟩
  · exact absurd csix_rt hno
end Go.Proofs.YtjkmkobnfhepaaaGreat
