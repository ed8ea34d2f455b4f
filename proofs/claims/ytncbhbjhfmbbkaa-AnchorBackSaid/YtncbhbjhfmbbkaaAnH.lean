/- Anchors: the law's refs and same, the document's Wrong. -/
import Derived.Test.YtncbhbjhfmbbkaaAnE
import Derived.Deep.RegionHeld3
namespace Go.Proofs.Ytncbhbjhfmbbkaa
open Go.RowKit Go.Sort
set_option linter.unusedVariables false
theorem ran_info : (Try.prog.info? 35).map (fun i => (i.zero, i.size, i.bytes)) = some (some (.agg #[.int .i64 0, .int .i64 0, .int .i64 0]), 3, 24) := by kernel_rfl
theorem ran_slt : SlT Try.prog 31 35 3 24 := slt_of Try.underlying31 ran_info rfl (by kernel_rfl)
set_option maxHeartbeats 16000000 in
set_option maxRecDepth 100000 in
theorem arefs_any (A : Option Addr) (m c : Nat) (o : List An) (w : World) (hA : RowsAt encA 3 w A o) (hl : o.length = m) (hm : m ≤ 100000) :
    Calls Try.prog 19 #[.slice A m c] w fun e w' => ∃ v, e = .returned v ∧ w'.ownsRow w.heap.size 35 3 v m (kfl encA o) ∧ Below w.heap.size w w' := by
  have HR := Lib.hid hA
  have HM := Lib.hid hl
  have ST := ran_slt
  clear hA hl
  go_enter Try.func19, Try.ntmps19
  go_wp2_with fail
  go_loopg [3, 8] m (fun g v i wr => ∃ (k : Nat), i = .int .i64 k ∧ k ≤ m ∧ m - k ≤ g ∧ Hid (Below w.heap.size w wr) ∧ Hid (wr.ownsRow w.heap.size 35 3 v k (kfl encA (o.take k))))
  case atStart => exact ⟨0, rfl, by omega, by omega, Lib.hid (Below.refl _ _), Lib.hid (World.ownsRow_nil _ _ _ _)⟩
  case round =>
    obtain ⟨k, rfl, h1, h2, hb, hown⟩ := hrel
    by_cases hlt : k < m
    · have hkl : k < o.length := by rw [HM.out]; exact hlt
      obtain ⟨bA, off, rfl, hbA, hce⟩ := (HR.out.below hb.out).at1 hkl
      have f0 := hce 0 (by omega)
      have f1 := hce 1 (by omega)
      have f2 := hce 2 (by omega)
      rw [Nat.add_zero] at f0
      have htk : o.take (k + 1) = o.take k ++ [o[k]] := by rw [List.take_succ_eq_append_getElem hkl]
      have HTK := Lib.hid htk
      clear htk hce
      generalize o[k] = a at *
      simp [encA] at f0 f1 f2
      have i1 : (0 : Int) ≤ k := by omega
      have i2 : (k : Int) < m := by omega
      have x3 : Below wr.heap.size wr (wr.alloc (.cells #[.int .i64 a.id, .int .i64 a.pl, .int .i64 a.bi] 36)) := (Below.refl _ _).alloc (Nat.le_refl _) _
      have R3 : RawAt 36 (wr.alloc (.cells #[.int .i64 a.id, .int .i64 a.pl, .int .i64 a.bi] 36)) wr.heap.size #[.int .i64 a.id, .int .i64 a.pl, .int .i64 a.bi] := heap_alloc_new wr _
      have e0 := RawAt.cell R3 0
      have e1 := RawAt.cell R3 1
      have e2 := RawAt.cell R3 2
      simp at e0 e1 e2
      have HB3 := Lib.hid (hb.out.trans (x3.mono hb.out.size))
      have HO3 := Lib.hid (own_below hown.out x3)
      obtain ⟨A3, c3, rfl⟩ := own_form hown.out
      have hz3 : (wr.alloc (.cells #[.int .i64 a.id, .int .i64 a.pl, .int .i64 a.bi] 36)).heap.size = wr.heap.size + 1 := by simp
      generalize hW3 : wr.alloc (.cells #[.int .i64 a.id, .int .i64 a.pl, .int .i64 a.bi] 36) = W3 at HB3 HO3 hz3
      have x4 : Below W3.heap.size W3 (W3.alloc (.cells #[.int .i64 a.id, .int .i64 a.pl, .int .i64 a.bi] 35)) := (Below.refl _ _).alloc (Nat.le_refl _) _
      have R4 : RawAt 35 (W3.alloc (.cells #[.int .i64 a.id, .int .i64 a.pl, .int .i64 a.bi] 35)) W3.heap.size #[.int .i64 a.id, .int .i64 a.pl, .int .i64 a.bi] := heap_alloc_new W3 _
      have HO4 := Lib.hid (own_below HO3.out x4)
      have HS4 : Hid (RowsAt encA 3 (W3.alloc (.cells #[.int .i64 a.id, .int .i64 a.pl, .int .i64 a.bi] 35)) (some ⟨wr.heap.size + 1, 0, none⟩) [a]) := Lib.hid (by rw [← hz3]; exact rows_of_block (enc := encA) (k := 3) encA_len R4 (l := [a]) rfl)
      have HB4 := Lib.hid (HB3.out.trans (x4.mono HB3.out.size))
      have hlt4 := hown.out.lt
      have HW3 := Lib.hid hW3
      clear R3 x3 hown hb x4 R4 hW3 hz3
      rw [← HW3.out] at HO4 HS4 HB4
      go_wp2_with (at_builtin; refine wpList_appK (enc := encA) ST encA_len (by omega) rfl (.tmp 12) (.tmp 20) rfl (base := w.heap.size) (v := .slice A3 k c3) rfl HO4.out _ 1 1 [a] rfl HS4.out ⟨Nat.le_refl _, fun h => by cases h⟩ rfl (kfl_one' encA_one _) (by simp only [maxLen]; omega) (by omega) HB4.out.size ?_; intro v5 w5 hown5 hg5 hor5)
      have hb5 := Lib.hid (HB4.out.grown hg5 HB4.out.size (fun j hj => (hlt4 j hj).1))
      have hO5 : Hid (w5.ownsRow w.heap.size 35 3 v5 (k + 1) (kfl encA (o.take (k + 1)))) := Lib.hid (by rw [HTK.out, kfl_append]; exact hown5)
      clear hown5 hg5 hor5 HO4 HS4 HB4 HB3 HO3
      go_wp2
      go_roundg (gk - 1)
      case measure => omega
      case rel => exact ⟨k + 1, by go_num, by omega, by omega, hb5, hO5⟩
    · obtain rfl : m = k := by omega
      have e2 : o.take m = o := List.take_of_length_le (by rw [HM.out]; exact Nat.le_refl _)
      have ho2 := hown.out
      rw [e2] at ho2
      have HO2 := Lib.hid ho2
      have HBB := hb
      clear e2 ho2 hown hb
      go_wp2
      go_ret
      exact ⟨_, rfl, HO2.out, HBB.out⟩
set_option maxHeartbeats 16000000 in
set_option maxRecDepth 100000 in
theorem rWrong_any (n : Int) (A : Option Addr) (m c : Nat) (l : List An) (w : World) (hA : RowsAt encA 3 w A l) (hcap : Caps A m c) (hl : l.length = m) (r : Int) (hr : awrong n l = r) :
    Calls Try.prog 18 #[.int .i64 n, .slice A m c] w fun e w' => e = .returned (.int .i64 r) ∧ Below w.heap.size w w' := by
  have HR := Lib.hid hr
  have HL := Lib.hid hl
  have HC := Lib.hid hcap
  have HA := Lib.hid hA
  have ST := ran_slt
  clear hA hl hcap hr
  by_cases g1 : n < 0
  · have k1 : decide (n < 0) = true := decide_eq_true g1
    have e : r = 1 := by rw [← HR.out]; unfold awrong; rw [if_pos (.inl g1)]
    subst e
    clear HR
    go_enter Try.func18, Try.ntmps18
    go_wp2
    go_ret
    exact ⟨rfl, Below.refl _ _⟩
  · have k1 : decide (n < 0) = false := decide_eq_false g1
    by_cases g2 : 1099511627776 < n
    · have k2 : decide (1099511627776 < n) = true := decide_eq_true g2
      have e : r = 1 := by rw [← HR.out]; unfold awrong; rw [if_pos (.inr g2)]
      subst e
      clear HR
      go_enter Try.func18, Try.ntmps18
      go_wp2
      go_ret
      exact ⟨rfl, Below.refl _ _⟩
    · have k2 : decide (1099511627776 < n) = false := decide_eq_false g2
      by_cases g3 : 200 < m
      · have k3 : decide (200 < m) = true := decide_eq_true g3
        have k4 : decide ((200 : Int) < (m : Int)) = true := decide_eq_true (by omega)
        have e : r = 5 := by rw [← HR.out]; unfold awrong; rw [if_neg (by omega), if_pos (by rw [HL.out]; exact g3)]
        subst e
        clear HR
        go_enter Try.func18, Try.ntmps18
        go_wp2
        go_ret
        exact ⟨rfl, Below.refl _ _⟩
      · skip
        have k3 : decide (200 < m) = false := decide_eq_false g3
        have k4 : decide ((200 : Int) < (m : Int)) = false := decide_eq_false (by omega)
        have e : r = aw n [] l := by rw [← HR.out]; unfold awrong; rw [if_neg (by omega), if_neg (by rw [HL.out]; exact g3)]
        have HE := Lib.hid e
        clear e HR
        go_enter Try.func18, Try.ntmps18
        go_wp2_with fail
        go_loopg [20] m (fun g i wr => ∃ (k : Nat), i = .int .i64 k ∧ k ≤ m ∧ m - k ≤ g ∧ Hid (Below w.heap.size w wr) ∧ Hid (r = aw n (l.take k) (l.drop k)))
        case atStart => exact ⟨0, rfl, by omega, by omega, Lib.hid (Below.refl _ _), Lib.hid (by simpa using HE.out)⟩
        case round =>
          obtain ⟨k, rfl, h1, h2, hb, hck⟩ := hrel
          clear HE
          obtain ⟨gO, hgO⟩ : ∃ g, g = gk := ⟨_, rfl⟩
          subst hgO
          by_cases hlt : k < m
          · have hkl : k < l.length := by rw [HL.out]; exact hlt
            obtain ⟨bA, off, rfl, hbA, hce⟩ := (HA.out.below hb.out).at1 hkl
            have f0 := hce 0 (by omega)
            have f1 := hce 1 (by omega)
            have f2 := hce 2 (by omega)
            rw [Nat.add_zero] at f0
            have hdr : l.drop k = l[k] :: l.drop (k + 1) := List.drop_eq_getElem_cons hkl
            have htk : l.take (k + 1) = l.take k ++ [l[k]] := by rw [List.take_succ_eq_append_getElem hkl]
            have hst := hck.out
            rw [hdr, aw] at hst
            rw [← htk] at hst
            have HST := Lib.hid hst
            clear hst htk hdr hck
            generalize l[k] = o at *
            clear hce
            simp [encA] at f0 f1 f2
            have i1 : (0 : Int) ≤ k := by omega
            have i2 : (k : Int) < m := by omega
            have x3 : Below wr.heap.size wr (wr.alloc (.cells #[.int .i64 o.id, .int .i64 o.pl, .int .i64 o.bi] 35)) := (Below.refl _ _).alloc (Nat.le_refl _) _
            have R3 : RawAt 35 (wr.alloc (.cells #[.int .i64 o.id, .int .i64 o.pl, .int .i64 o.bi] 35)) wr.heap.size #[.int .i64 o.id, .int .i64 o.pl, .int .i64 o.bi] := heap_alloc_new wr _
            have e0 := RawAt.cell R3 0
            have e1 := RawAt.cell R3 1
            have e2 := RawAt.cell R3 2
            simp at e0 e1 e2
            have HR3 := Lib.hid R3
            have HB3 := Lib.hid (hb.out.trans (x3.mono hb.out.size))
            have cut := fun W : World => cutK_hd (P := Try.prog) ST (some ⟨bA, off, none⟩) m c k (by have := HC.out.1; omega) W
            clear R3 hb x3
            by_cases q1 : o.pl < 0
            · have c1 : decide (o.pl < 0) = true := decide_eq_true q1
              have e : r = 1 := by rw [HST.out, if_pos (fun h => by obtain ⟨q1, q2, q3⟩ := h; omega)]
              subst e
              clear HST
              go_wp2
              go_ret
              exact ⟨rfl, HB3.out⟩
            · have c1 : decide (o.pl < 0) = false := decide_eq_false q1
              by_cases q2 : n < o.pl
              · have c2 : decide (n < o.pl) = true := decide_eq_true q2
                have e : r = 1 := by rw [HST.out, if_pos (fun h => by obtain ⟨q1, q2, q3⟩ := h; omega)]
                subst e
                clear HST
                go_wp2
                go_ret
                exact ⟨rfl, HB3.out⟩
              · have c2 : decide (n < o.pl) = false := decide_eq_false q2
                by_cases q3 : o.bi = 0
                · have c3 : (o.bi != 0) = false := by simp [q3]
                  have c3' : (o.bi == 0) = true := by simp [q3]
                  have Q3 := Lib.hid q3
                  have q4 : aOk n o := ⟨by omega, by omega, .inl q3⟩
                  have Q4 := Lib.hid q4
                  clear q3 q4
                  have HST2 : Hid (r = if (l.take k).any (fun b => b.id == o.id) then 8 else aw n (l.take (k + 1)) (l.drop (k + 1))) := Lib.hid (by rw [HST.out, if_neg (fun h => h Q4.out)])
                  clear HST
                  go_wp2_with fail
                  generalize wr.heap.size = ob at *
                  go_loopg [48] k (fun g i wr2 => ∃ (j : Nat), i = .int .i64 j ∧ j ≤ k ∧ k - j ≤ g ∧ Hid (Below w.heap.size w wr2) ∧ Hid (RawAt 35 wr2 ob #[.int .i64 o.id, .int .i64 o.pl, .int .i64 o.bi]) ∧ Hid (∀ b ∈ l.take j, b.id ≠ o.id))
                  case atStart => exact ⟨0, rfl, by omega, by omega, HB3, HR3, Lib.hid (fun b hb => absurd hb (by simp))⟩
                  case round =>
                    obtain ⟨j, rfl, j1, j2, hb2, hr2, hne⟩ := hrel
                    clear HR3 HB3
                    by_cases hlt2 : j < k
                    · have hjl : j < l.length := by omega
                      obtain ⟨bA2, off2, hA2, hbA2, hce2⟩ := (HA.out.below hb2.out).at1 hjl
                      injection hA2 with hA2
                      injection hA2 with hA3 hA4
                      subst hA3
                      subst hA4
                      have y0 := hce2 0 (by omega)
                      have y1 := hce2 1 (by omega)
                      have y2 := hce2 2 (by omega)
                      rw [Nat.add_zero] at y0
                      have htk2 : l.take (j + 1) = l.take j ++ [l[j]] := by rw [List.take_succ_eq_append_getElem hjl]
                      have hmem : l[j] ∈ l.take k := by rw [List.mem_take_iff_getElem]; exact ⟨j, by omega, rfl⟩
                      have HTK2 := Lib.hid htk2
                      have HMEM := Lib.hid hmem
                      clear htk2 hce2 hmem
                      generalize l[j] = b at *
                      simp [encA] at y0 y1 y2
                      have i3 : (0 : Int) ≤ j := by omega
                      have i4 : (j : Int) < k := by omega
                      have x5 : Below wr.heap.size wr (wr.alloc (.cells #[.int .i64 b.id, .int .i64 b.pl, .int .i64 b.bi] 35)) := (Below.refl _ _).alloc (Nat.le_refl _) _
                      have R5 : RawAt 35 (wr.alloc (.cells #[.int .i64 b.id, .int .i64 b.pl, .int .i64 b.bi] 35)) wr.heap.size #[.int .i64 b.id, .int .i64 b.pl, .int .i64 b.bi] := heap_alloc_new wr _
                      have z0 := RawAt.cell R5 0
                      have R6 := RawAt.below hr2.out x5 hr2.out.lt
                      have z1 := RawAt.cell R6 0
                      simp at z0 z1
                      have HB5 := Lib.hid (hb2.out.trans (x5.mono hb2.out.size))
                      have HR6 := Lib.hid R6
                      clear R5 R6 x5 hb2 hr2
                      by_cases g7 : b.id = o.id
                      · have k7 : decide (b.id = o.id) = true := decide_eq_true g7
                        have k8 : (b.id == o.id) = true := by simp [g7]
                        have e : r = 8 := by rw [HST2.out, if_pos (List.any_eq_true.2 ⟨b, HMEM.out, by simp [g7]⟩)]
                        subst e
                        clear g7 HST2
                        go_wp2
                        go_ret
                        exact ⟨rfl, HB5.out⟩
                      · have k7 : decide (b.id = o.id) = false := decide_eq_false g7
                        have k8 : (b.id == o.id) = false := by simp [g7]
                        have HNE : Hid (∀ x ∈ l.take (j + 1), x.id ≠ o.id) := Lib.hid (fun x hx => by
                          rw [HTK2.out] at hx
                          rcases List.mem_append.1 hx with hx | hx
                          · exact hne.out x hx
                          · obtain rfl := List.mem_singleton.1 hx
                            exact g7)
                        clear g7 hne
                        go_wp2
                        go_roundg (gk - 1)
                        case measure => omega
                        case rel => exact ⟨j + 1, by go_num, by omega, by omega, HB5, HR6, HNE⟩
                    · obtain rfl : k = j := by omega
                      have HN : Hid (r = aw n (l.take (k + 1)) (l.drop (k + 1))) := Lib.hid (by rw [HST2.out, if_neg (fun h => by obtain ⟨b, hb, hbe⟩ := List.any_eq_true.1 h; exact hne.out b hb (by simpa using hbe))])
                      clear HST2 hne hr2
                      go_wp2
                      go_roundg (gO - 1)
                      case measure => omega
                      case rel => exact ⟨k + 1, by go_num, by omega, by omega, hb2, HN⟩
                · have c3 : (o.bi != 0) = true := by simp [q3]
                  have c3' : (o.bi == 0) = false := by simp [q3]
                  by_cases q4 : o.bi = 1
                  · have c4 : (o.bi != 1) = false := by simp [q4]
                    have c4' : (o.bi == 1) = true := by simp [q4]
                    have q5 : aOk n o := ⟨by omega, by omega, .inr q4⟩
                    have Q4 := Lib.hid q5
                    clear q4 q5 q3
                    have HST2 : Hid (r = if (l.take k).any (fun b => b.id == o.id) then 8 else aw n (l.take (k + 1)) (l.drop (k + 1))) := Lib.hid (by rw [HST.out, if_neg (fun h => h Q4.out)])
                    clear HST
                    go_wp2_with fail
                    generalize wr.heap.size = ob at *
                    go_loopg [48] k (fun g i wr2 => ∃ (j : Nat), i = .int .i64 j ∧ j ≤ k ∧ k - j ≤ g ∧ Hid (Below w.heap.size w wr2) ∧ Hid (RawAt 35 wr2 ob #[.int .i64 o.id, .int .i64 o.pl, .int .i64 o.bi]) ∧ Hid (∀ b ∈ l.take j, b.id ≠ o.id))
                    case atStart => exact ⟨0, rfl, by omega, by omega, HB3, HR3, Lib.hid (fun b hb => absurd hb (by simp))⟩
                    case round =>
                      obtain ⟨j, rfl, j1, j2, hb2, hr2, hne⟩ := hrel
                      clear HR3 HB3
                      by_cases hlt2 : j < k
                      · have hjl : j < l.length := by omega
                        obtain ⟨bA2, off2, hA2, hbA2, hce2⟩ := (HA.out.below hb2.out).at1 hjl
                        injection hA2 with hA2
                        injection hA2 with hA3 hA4
                        subst hA3
                        subst hA4
                        have y0 := hce2 0 (by omega)
                        have y1 := hce2 1 (by omega)
                        have y2 := hce2 2 (by omega)
                        rw [Nat.add_zero] at y0
                        have htk2 : l.take (j + 1) = l.take j ++ [l[j]] := by rw [List.take_succ_eq_append_getElem hjl]
                        have hmem : l[j] ∈ l.take k := by rw [List.mem_take_iff_getElem]; exact ⟨j, by omega, rfl⟩
                        have HTK2 := Lib.hid htk2
                        have HMEM := Lib.hid hmem
                        clear htk2 hce2 hmem
                        generalize l[j] = b at *
                        simp [encA] at y0 y1 y2
                        have i3 : (0 : Int) ≤ j := by omega
                        have i4 : (j : Int) < k := by omega
                        have x5 : Below wr.heap.size wr (wr.alloc (.cells #[.int .i64 b.id, .int .i64 b.pl, .int .i64 b.bi] 35)) := (Below.refl _ _).alloc (Nat.le_refl _) _
                        have R5 : RawAt 35 (wr.alloc (.cells #[.int .i64 b.id, .int .i64 b.pl, .int .i64 b.bi] 35)) wr.heap.size #[.int .i64 b.id, .int .i64 b.pl, .int .i64 b.bi] := heap_alloc_new wr _
                        have z0 := RawAt.cell R5 0
                        have R6 := RawAt.below hr2.out x5 hr2.out.lt
                        have z1 := RawAt.cell R6 0
                        simp at z0 z1
                        have HB5 := Lib.hid (hb2.out.trans (x5.mono hb2.out.size))
                        have HR6 := Lib.hid R6
                        clear R5 R6 x5 hb2 hr2
                        by_cases g7 : b.id = o.id
                        · have k7 : decide (b.id = o.id) = true := decide_eq_true g7
                          have k8 : (b.id == o.id) = true := by simp [g7]
                          have e : r = 8 := by rw [HST2.out, if_pos (List.any_eq_true.2 ⟨b, HMEM.out, by simp [g7]⟩)]
                          subst e
                          clear g7 HST2
                          go_wp2
                          go_ret
                          exact ⟨rfl, HB5.out⟩
                        · have k7 : decide (b.id = o.id) = false := decide_eq_false g7
                          have k8 : (b.id == o.id) = false := by simp [g7]
                          have HNE : Hid (∀ x ∈ l.take (j + 1), x.id ≠ o.id) := Lib.hid (fun x hx => by
                            rw [HTK2.out] at hx
                            rcases List.mem_append.1 hx with hx | hx
                            · exact hne.out x hx
                            · obtain rfl := List.mem_singleton.1 hx
                              exact g7)
                          clear g7 hne
                          go_wp2
                          go_roundg (gk - 1)
                          case measure => omega
                          case rel => exact ⟨j + 1, by go_num, by omega, by omega, HB5, HR6, HNE⟩
                      · obtain rfl : k = j := by omega
                        have HN : Hid (r = aw n (l.take (k + 1)) (l.drop (k + 1))) := Lib.hid (by rw [HST2.out, if_neg (fun h => by obtain ⟨b, hb, hbe⟩ := List.any_eq_true.1 h; exact hne.out b hb (by simpa using hbe))])
                        clear HST2 hne hr2
                        go_wp2
                        go_roundg (gO - 1)
                        case measure => omega
                        case rel => exact ⟨k + 1, by go_num, by omega, by omega, hb2, HN⟩
                  · have c4 : (o.bi != 1) = true := by simp [q4]
                    have c4' : (o.bi == 1) = false := by simp [q4]
                    have e : r = 1 := by rw [HST.out, if_pos (fun h => by obtain ⟨q1, q2, q3⟩ := h; omega)]
                    subst e
                    clear HST
                    go_wp2
                    go_ret
                    exact ⟨rfl, HB3.out⟩
          · obtain rfl : k = m := by omega
            have e2 : l.drop k = [] := List.drop_of_length_le (by rw [HL.out]; exact Nat.le_refl _)
            have hck2 := hck.out
            rw [e2, aw] at hck2
            subst hck2
            clear hck e2
            go_wp2
            go_ret
            exact ⟨rfl, hb.out⟩
end Go.Proofs.Ytncbhbjhfmbbkaa
