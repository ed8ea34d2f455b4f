/- Creases: the contract of New. -/
import Derived.Test.YtjkmkobnfhepaaaGreatCrC
namespace Go.Proofs.YtjkmkobnfhepaaaGreat
open Go.RowKit
set_option linter.unusedVariables false
theorem CrOk.each : ∀ {l : List (Int × Int)} {f t : Int}, CrOk f l t → ∀ x ∈ l, f ≤ x.1 ∧ x.1 < x.2 ∧ x.2 ≤ t
  | y :: l, f, t, h, x, hx => by
    obtain ⟨h1, h2, h3⟩ := h
    have hle := h3.le
    rcases List.mem_cons.1 hx with rfl | hx
    · exact ⟨h1, h2, hle⟩
    · have := CrOk.each h3 x hx; omega
set_option maxHeartbeats 8000000 in
set_option maxRecDepth 100000 in
theorem cNew_any {p : Option Addr} {o : List In} {n : Nat} {h : Nat} (A : Option Addr) (m c : Nat) (l : List (Int × Int)) (w : World) (ht : WvAt w p (wvP 0 o n) h) (hwv : Wv 0 o n) (hA : RowsAt wencS 2 w A l) (hl : l.length = m) (hm : m ≤ 1000) (hbd : n + wosum n 1 o ≤ 100000000) :
    Calls Tryz.prog 9 #[.pointer p, .slice A m c] w fun e w' => ((RtOk 0 l n ∧ ∃ a h', e = .returned (.tuple #[.pointer (some a), .int .i64 0]) ∧ CrAt w' (some a) (crP 0 (l.map (cpl o)) (n + wosum n 1 o)) h') ∨ (¬ RtOk 0 l n ∧ e = .returned (.tuple #[.pointer none, .int .i64 1]))) ∧ Below w.heap.size w w' := by
  have CW := Lib.hid (cWoven_any A m c l w ht hwv hA hl hm)
  have CZ := Lib.hid fun (W : World) (hW : Below w.heap.size w W) => wvSizes (ht.below hW)
  obtain ⟨_, hs1, hs0⟩ := wsp_len o 0 n hwv
  rw [show (n : Int) - 0 = (n : Int) from by omega] at hs0 hs1
  rw [hs0, hs1] at CZ
  have HL := Lib.hid hl
  clear ht hA hl hs0 hs1
  obtain ⟨N1, hN1⟩ : ∃ N1, N1 = (n : Int) + wosum n 1 o := ⟨_, rfl⟩
  have hpos := wosum_pos o n 1
  rw [← hN1] at CZ hbd
  have HN1 := Lib.hid hN1
  rw [← hN1]
  have hN0 : 0 ≤ N1 := by omega
  clear hN1 hpos
  by_cases hr : RtOk 0 l n
  · have hcr : CrOk 0 (l.map (cpl o)) N1 := by rw [HN1.out]; exact RtOk.cr o hr (by omega) (by have := wosum_pos o 0 0; omega)
    have HR := Lib.hid hr
    have HEA := Lib.hid hcr.each
    have HOK := Lib.hid (crP_ok hcr (Int.le_refl 0) (by omega))
    have HLE := Lib.hid (crP_len (l.map (cpl o)) 0 N1)
    have HML : Hid ((l.map (cpl o)).length = m) := Lib.hid (by rw [List.length_map]; exact HL.out)
    clear hr hcr
    generalize l.map (cpl o) = L at *
    go_enter Tryz.func9, Tryz.ntmps9
    go_wp2_with fail
    with_reducible refine (CW.out).mono ?_
    rintro e w1 ⟨⟨_, v1, rfl, o1⟩ | ⟨hn, _⟩, b1⟩
    · obtain ⟨A1, c1, rfl, hR1, _, _⟩ := rows_of_own wencS_len (by omega) o1
      have HR1 := Lib.hid hR1
      have HB1 := Lib.hid b1
      clear o1 hR1 b1 CW
      go_wp2_with fail
      with_reducible refine (CZ.out _ HB1.out).mono ?_
      rintro e w2 ⟨rfl, b2⟩
      have HB2 := Lib.hid (HB1.out.trans (b2.mono HB1.out.size))
      have CP := Lib.hid (cPieces_any A1 m c1 L 0 N1 w2 (HR1.out.below b2) HML.out hm (by omega) (by omega) (fun x hx => by have := HEA.out x hx; omega))
      clear b2 HB1 CZ HR1
      go_wp2_with fail
      with_reducible refine (CP.out).mono ?_
      rintro e w3 ⟨v3, rfl, hO3, b3⟩
      have HB3 := Lib.hid (HB2.out.trans (b3.mono HB2.out.size))
      obtain ⟨A3, c3, rfl, hI, _, hC3⟩ := its_of_own (l := crP 0 L N1) hO3
      have CN := Lib.hid (tnew_any A3 _ c3 (crP 0 L N1) w3 hI rfl hC3 (by have := HLE.out; have := HML.out; omega) HOK.out)
      clear hO3 hI hC3 b3 CP HB2
      generalize hwl : crP 0 L N1 = I at *
      have HWL := Lib.hid hwl
      clear hwl
      go_wp2_with fail
      with_reducible refine (CN.out).mono ?_
      rintro e w4 ⟨a', h', rfl, hT, b4⟩
      have HT := Lib.hid hT
      have HB4 := Lib.hid (HB3.out.trans (b4.mono HB3.out.size))
      have x5 : Below w4.heap.size w4 (w4.alloc (.cells #[.pointer (some a')] 80)) := (Below.refl _ _).alloc (Nat.le_refl _) _
      have HF : Hid (CrAt (w4.alloc (.cells #[.pointer (some a')] 80)) (some ⟨w4.heap.size, 0, none⟩) I h') := Lib.hid (.inr ⟨w4.heap.size, some a', rfl, heap_alloc_new w4 _, HT.out.below x5⟩)
      have HB5 := Lib.hid (HB4.out.trans (x5.mono HB4.out.size))
      clear hT b4 x5 CN
      go_wp2
      go_ret2
      exact ⟨.inl ⟨HR.out, _, h', rfl, by rw [HWL.out]; exact HF.out⟩, HB5.out⟩
    · exact absurd HR.out hn
  · have HR := Lib.hid hr
    clear hr
    go_enter Tryz.func9, Tryz.ntmps9
    go_wp2_with fail
    with_reducible refine (CW.out).mono ?_
    rintro e w1 ⟨⟨hy, _⟩ | ⟨_, rfl⟩, b1⟩
    · exact absurd hy HR.out
    · have HB1 := Lib.hid b1
      clear b1 CW
      go_wp2
      go_ret2
      exact ⟨.inr ⟨HR.out, rfl⟩, HB1.out⟩
end Go.Proofs.YtjkmkobnfhepaaaGreat
