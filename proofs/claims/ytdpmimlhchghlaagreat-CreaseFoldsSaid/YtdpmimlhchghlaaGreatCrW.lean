/- Creases: the laws' long. -/
import Derived.Test.YtdpmimlhchghlaaGreatCrV
namespace Go.Proofs.YtdpmimlhchghlaaGreat
open Go.RowKit Go.Sort
set_option linter.unusedVariables false
theorem cr13f (x : Int) (A : Option Addr) (m c : Nat) (r : Int) (w : World) : (Instr.field 51 (.agg #[.int .i64 x, .slice A m c, .int .i64 r]) 2).run Tryz.prog w = .ok (.int .i64 r) w := by kernel_rfl
def Short16 (n : Int) (l : List In) (hh : List (Int × Int)) : Prop := 0 ≤ n ∧ n ≤ 200 ∧ l.length ≤ 60 ∧ hh.length ≤ 100 ∧ (∀ x ∈ l, x.tx.size ≤ 200) ∧ iwrong n l = 0
set_option maxHeartbeats 8000000 in
set_option maxRecDepth 100000 in
theorem long16_any (N : Int) (A : Option Addr) (m c : Nat) (l : List In) (B : Option Addr) (k d : Nat) (hh : List (Int × Int)) (b : Bool) (w : World) (hA : RowsAt encI 5 w A l) (hcap : Caps A m c) (hl : l.length = m) (hm : m ≤ maxLen) (ht : ∀ x ∈ l, x.tx.size ≤ maxLen) (hk : hh.length = k) (hkm : k ≤ maxLen) (hb : b = true ↔ ¬ Short16 N l hh) :
    Calls Tryz.prog 9 #[.agg #[.int .i64 N, .slice A m c, .slice B k d]] w fun e w' => e = .returned (.bool b) ∧ Below w.heap.size w w' := by
  unfold maxLen at hm ht hkm
  have BT : Hid (¬ Short16 N l hh → b = true) := Lib.hid hb.2
  have BF : Hid (Short16 N l hh → b = false) := Lib.hid fun h => by cases b; rfl; exact absurd h (hb.1 rfl)
  have HL := Lib.hid hl
  have HK := Lib.hid hk
  have HTX := Lib.hid ht
  have x1 : Below w.heap.size w (w.alloc (.cells #[.int .i64 N, .slice A m c, .slice B k d] 25)) := (Below.refl _ _).alloc (Nat.le_refl _) _
  have r1 : RawAt 25 (w.alloc (.cells #[.int .i64 N, .slice A m c, .slice B k d] 25)) w.heap.size #[.int .i64 N, .slice A m c, .slice B k d] := heap_alloc_new w _
  obtain ⟨W1, hW1⟩ : ∃ W1, W1 = w.alloc (.cells #[.int .i64 N, .slice A m c, .slice B k d] 25) := ⟨_, rfl⟩
  rw [← hW1] at x1 r1
  have HW1 := Lib.hid hW1
  have X1 := Lib.hid x1
  have R1 := Lib.hid r1
  have y0 : W1.cell? ⟨w.heap.size, 0, none⟩ = some (.int .i64 N) := RawAt.cell r1 0
  have y1 : W1.cell? ⟨w.heap.size, 1, none⟩ = some (.slice A m c) := RawAt.cell r1 1
  have y2 : W1.cell? ⟨w.heap.size, 2, none⟩ = some (.slice B k d) := RawAt.cell r1 2
  clear hW1 x1 r1
  have HA := Lib.hid (hA.below X1.out)
  obtain ⟨r, hr⟩ : ∃ r, r = iwrong N l := ⟨_, rfl⟩
  have CN := Lib.hid fun (W : World) (hW : Below W1.heap.size W1 W) (hs : ∀ x ∈ l, x.tx.size ≤ 200) => rNew13_any N A m c l W ((hA.below X1.out).below hW) hcap hl (fun x hx => Nat.le_trans (hs x hx) (by omega)) r hr.symm
  have HR := Lib.hid hr
  clear hA hcap hl hb ht hr hk
  by_cases g1 : N < 0
  · have k1 : decide (N < 0) = true := decide_eq_true g1
    have hbt : b = true := BT.out fun h => by have := h.1; omega
    subst hbt
    go_enter Tryz.func9, Tryz.ntmps9
    go_wp2_with fail
    rw [← HW1.out]
    go_wp2
    go_ret
    exact ⟨rfl, X1.out⟩
  · have k1 : decide (N < 0) = false := decide_eq_false g1
    by_cases g2 : 200 < N
    · have k2 : decide (200 < N) = true := decide_eq_true g2
      have hbt : b = true := BT.out fun h => by have := h.2.1; omega
      subst hbt
      go_enter Tryz.func9, Tryz.ntmps9
      go_wp2_with fail
      rw [← HW1.out]
      go_wp2
      go_ret
      exact ⟨rfl, X1.out⟩
    · have k2 : decide (200 < N) = false := decide_eq_false g2
      by_cases g3 : 60 < m
      · have k3 : decide ((60 : Int) < (m : Int)) = true := decide_eq_true (by omega)
        have k4 : decide (60 < m) = true := decide_eq_true g3
        have hbt : b = true := BT.out fun h => by have := h.2.2.1; rw [HL.out] at this; omega
        subst hbt
        go_enter Tryz.func9, Tryz.ntmps9
        go_wp2_with fail
        rw [← HW1.out]
        go_wp2
        go_ret
        exact ⟨rfl, X1.out⟩
      · have k3 : decide ((60 : Int) < (m : Int)) = false := decide_eq_false (by omega)
        have k4 : decide (60 < m) = false := decide_eq_false g3
        by_cases g4 : 100 < k
        · have k5 : decide ((100 : Int) < (k : Int)) = true := decide_eq_true (by omega)
          have k6 : decide (100 < k) = true := decide_eq_true g4
          have hbt : b = true := BT.out fun h => by have := h.2.2.2.1; rw [HK.out] at this; omega
          subst hbt
          go_enter Tryz.func9, Tryz.ntmps9
          go_wp2_with fail
          rw [← HW1.out]
          go_wp2
          go_ret
          exact ⟨rfl, X1.out⟩
        · have k5 : decide ((100 : Int) < (k : Int)) = false := decide_eq_false (by omega)
          have k6 : decide (100 < k) = false := decide_eq_false g4
          have HGS := Lib.hid (And.intro g1 (And.intro g2 (And.intro g3 g4)))
          go_enter Tryz.func9, Tryz.ntmps9
          go_wp2_with fail
          rw [← HW1.out]
          go_wp2_with fail
          go_loopg [28] m (fun g i wr => ∃ (j : Nat), i = .int .i64 j ∧ j ≤ m ∧ m - j ≤ g ∧ Hid (∀ x ∈ l.take j, x.tx.size ≤ 200) ∧ Hid (Below W1.heap.size W1 wr))
          case atStart => exact ⟨0, rfl, by omega, by omega, Lib.hid (fun x hx => absurd hx (by simp)), Lib.hid (Below.refl _ _)⟩
          case round =>
            obtain ⟨j, rfl, h1, h2, hs, hb⟩ := hrel
            by_cases hlt : j < m
            · have hjl : j < l.length := by rw [HL.out]; exact hlt
              obtain ⟨bA, off, rfl, hbA, d0, d1, d2, d3, d4⟩ := wrowsW (HA.out.below hb.out) hjl
              have HTK := Lib.hid (List.take_succ_eq_append_getElem hjl)
              have HBAD : Hid (¬ (l[j].tx.size ≤ 200) → b = true) := Lib.hid fun h => BT.out fun hS => h (hS.2.2.2.2.1 _ (List.getElem_mem hjl))
              have hsz := HTX.out _ (List.getElem_mem hjl)
              generalize l[j] = o at *
              have i1 : (0 : Int) ≤ j := by omega
              have i2 : (j : Int) < m := by omega
              have HB3 := Lib.hid (hb.out.trans (((Below.refl wr.heap.size wr).alloc (Nat.le_refl _) (.cells #[.int .i64 o.id, .int .i64 o.pl, .int .i64 o.bi, .int .i64 o.ky, .string o.tx] 72)).mono hb.out.size))
              clear hb
              by_cases q : 200 < o.tx.size
              · have hbt : b = true := HBAD.out (by omega)
                subst hbt
                have HB9 := Lib.hid (X1.out.trans (HB3.out.mono X1.out.size))
                have k5 : decide ((200 : Int) < (o.tx.size : Int)) = true := decide_eq_true (by omega)
                have k6 : decide (200 < o.tx.size) = true := decide_eq_true q
                go_wp2
                go_ret
                exact ⟨rfl, HB9.out⟩
              · have k5 : decide ((200 : Int) < (o.tx.size : Int)) = false := decide_eq_false (by omega)
                have k6 : decide (200 < o.tx.size) = false := decide_eq_false q
                have HS2 : Hid (∀ x ∈ l.take (j + 1), x.tx.size ≤ 200) := Lib.hid (by
                  rw [HTK.out]
                  intro x hx
                  rcases List.mem_append.1 hx with hx | hx
                  · exact hs.out x hx
                  · rw [List.mem_singleton.1 hx]; omega)
                clear hs HBAD
                go_wp2
                go_roundg (gk - 1)
                case measure => omega
                case rel => exact ⟨j + 1, by go_num, by omega, by omega, HS2, HB3⟩
            · obtain rfl : j = m := by omega
              have h5 := hs.out
              rw [List.take_of_length_le (by rw [HL.out]; exact Nat.le_refl _)] at h5
              have R3 := RawAt.below R1.out hb.out R1.out.lt
              have z0 : wr.cell? ⟨w.heap.size, 0, none⟩ = some (.int .i64 N) := RawAt.cell R3 0
              have z1 : wr.cell? ⟨w.heap.size, 1, none⟩ = some (.slice A j c) := RawAt.cell R3 1
              have CN3 := Lib.hid (CN.out wr hb.out h5)
              have hbt : b = !(r == 0) := by
                by_cases hz : r = 0
                · rw [BF.out ⟨by have := HGS.out.1; omega, by have := HGS.out.2.1; omega, by rw [HL.out]; have := HGS.out.2.2.1; omega, by rw [HK.out]; have := HGS.out.2.2.2; omega, h5, by rw [← HR.out]; exact hz⟩]
                  simp [hz]
                · rw [BT.out fun h => hz (by rw [HR.out]; exact h.2.2.2.2.2)]
                  simp [hz]
              subst hbt
              have HB5 := Lib.hid (X1.out.trans (hb.out.mono X1.out.size))
              clear h5 hs hb R3 CN
              go_wp2_with fail
              with_reducible refine (CN3.out).mono ?_
              rintro e w4 ⟨nn, A2, m2, c2, rfl, hres, b4⟩
              have HB6 := Lib.hid (HB5.out.trans (b4.mono HB5.out.size))
              clear hres b4 HB5
              have F13 := cr13f
              go_wp2
              go_ret
              exact ⟨by first | rfl | simp [bne], HB6.out⟩
end Go.Proofs.YtdpmimlhchghlaaGreat
