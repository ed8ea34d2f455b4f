/- The contracts of a law's own ref, refSum, refs and right (package bodkinlaw06). -/
import Derived.Test.YtbbplppcabeojaaItOwn
import Derived.Test.YtbbplppcabeojaaItRight
namespace Go.Proofs.Ytbbplppcabeojaa
open Go.RowKit
set_option maxHeartbeats 1000000 in
theorem iref6_any (i : I7) (w : World) : Calls Try.prog 61 #[.agg (ics i)] w fun e w' => e = .returned (.agg (ics i)) ∧ Below w.heap.size w w' := by
  unfold ics
  go_enter Try.func61, Try.ntmps61
  go_wp2
  refine bodyPost_ret (v := .agg #[.int .i64 i.tag, .int .i64 i.id, .int .i64 i.d0, .int .i64 i.d1, .int .i64 i.d2, .int .i64 i.mx, .string i.tx]) (by simp [results, Try.results61, go_sem]) rfl ⟨rfl, ?_⟩
  (repeat' (first | (with_reducible exact Below.refl _ _) | (with_reducible refine Below.setCell ?_ ?_ _) | (with_reducible refine Below.drew ?_) | (with_reducible refine Below.alloc ?_ ?_ _))) <;> first | exact Nat.le_refl _ | (simp; done) | (simp; omega)
set_option maxHeartbeats 1000000 in
theorem srefs6_any (s : S6) (w : World) : Calls Try.prog 62 #[.agg (scs s)] w fun e w' => e = .returned (.agg (scs s)) ∧ Below w.heap.size w w' := by
  unfold scs
  go_enter Try.func62, Try.ntmps62
  go_wp2
  refine bodyPost_ret (v := .agg #[.int .i64 s.n, .int .i64 s.d0, .int .i64 s.d1, .int .i64 s.d2, .int .i64 s.mx, .int .i64 s.pl]) (by simp [results, Try.results62, go_sem]) rfl ⟨rfl, ?_⟩
  (repeat' (first | (with_reducible exact Below.refl _ _) | (with_reducible refine Below.setCell ?_ ?_ _) | (with_reducible refine Below.drew ?_) | (with_reducible refine Below.alloc ?_ ?_ _))) <;> first | exact Nat.le_refl _ | (simp; done) | (simp; omega)
set_option maxHeartbeats 4000000 in
set_option maxRecDepth 100000 in
theorem right6_any (A : Option Addr) (n c : Nat) (l : List I7) (w : World) (hA : ItsAt w A l) (hl : l.length = n) (hn : n ≤ 9223372036854775807) (rb : Bool) (hrb : rb = true ↔ n ≤ 300 ∧ Okl l) :
    Calls Try.prog 18 #[.slice A n c] w fun e w' => e = .returned (.bool rb) ∧ Below w.heap.size w w' := by
  have HA := Lib.hid hA; clear hA
  have HL := Lib.hid hl; clear hl
  have HRB := Lib.hid hrb; clear hrb
  by_cases hk : 300 < n
  · have hf : false = rb := by
      cases rb
      · rfl
      · have := (HRB.out.1 rfl).1; omega
    have HF := Lib.hid hf; clear hf
    go_enter Try.func18, Try.ntmps18
    go_wp2
    go_ret
    exact ⟨ret_bool HF.out, Below.refl _ _⟩
  · go_enter Try.func18, Try.ntmps18
    go_wp2
    go_loopg [10] n (fun k i wr => ∃ j : Nat, i = .int .i64 j ∧ j ≤ n ∧ n - j ≤ k ∧ Below w.heap.size w wr ∧ Hid (Okl (l.take j)))
    case atStart => exact ⟨0, rfl, by omega, by omega, Below.refl _ _, fun i hi => absurd hi (by simp)⟩
    case round =>
      obtain ⟨j, rfl, h1, h2, hb, hok⟩ := hrel
      by_cases hlt : j < n
      · have hm : j < l.length := by rw [HL.out]; exact hlt
        obtain ⟨b, off, rfl, hbs, hc⟩ := HA.out (by omega)
        obtain ⟨e0, e1, e2, e3, e4, e5, e6⟩ := hc j hm
        clear hc
        obtain ⟨H1, H2⟩ := old_cells hb
        have CR : Hid (∀ (W : World), Calls Try.prog 61 #[.agg #[.int .i64 (ith l j).tag, .int .i64 (ith l j).id, .int .i64 (ith l j).d0, .int .i64 (ith l j).d1, .int .i64 (ith l j).d2, .int .i64 (ith l j).mx, .string (ith l j).tx]] W fun e w' => e = .returned (.agg #[.int .i64 (ith l j).tag, .int .i64 (ith l j).id, .int .i64 (ith l j).d0, .int .i64 (ith l j).d1, .int .i64 (ith l j).d2, .int .i64 (ith l j).mx, .string (ith l j).tx]) ∧ Below W.heap.size W w') := fun W => iref6_any _ W
        have CX : Hid (∀ (rb : Bool) (W : World), (rb = true ↔ Oki (ith l j)) → Calls Try.prog 45 #[.agg #[.int .i64 (ith l j).tag, .int .i64 (ith l j).id, .int .i64 (ith l j).d0, .int .i64 (ith l j).d1, .int .i64 (ith l j).d2, .int .i64 (ith l j).mx, .string (ith l j).tx]] W fun e w' => e = .returned (.bool rb) ∧ Below W.heap.size W w') := fun rb W h => right_any _ rb h W
        by_cases ho : Oki (ith l j)
        · have HOK := Lib.hid (hok.out.step hm ho)
          have CX2 := Lib.hid fun W => CX.out true W ⟨fun _ => ho, fun _ => rfl⟩
          clear CX ho
          generalize ith l j = x at *
          go_wp2_with fail
          refine (CR.out _).mono ?_
          rintro e w1 ⟨rfl, hb1⟩
          go_wp2_with fail
          refine (CX2.out _).mono ?_
          rintro e w2 ⟨rfl, hb2⟩
          have a1 := (hb.alloc hb.size (.cells (ics x) 54))
          have a2 := a1.trans (hb1.mono a1.size)
          have a3 := a2.trans (hb2.mono a2.size)
          go_wp2
          go_roundg (gk - 1)
          case measure => omega
          case rel => exact ⟨j + 1, by go_num, by omega, by omega, a3, HOK⟩
        · have HF := Lib.hid (show false = rb by
            cases rb
            · rfl
            · exact absurd ((HRB.out.1 rfl).2 _ (ith_mem l hm)) ho)
          have CX2 := Lib.hid fun W => CX.out false W ⟨fun h => absurd h (by simp), fun h => absurd h ho⟩
          clear CX ho
          generalize ith l j = x at *
          go_wp2_with fail
          refine (CR.out _).mono ?_
          rintro e w1 ⟨rfl, hb1⟩
          go_wp2_with fail
          refine (CX2.out _).mono ?_
          rintro e w2 ⟨rfl, hb2⟩
          have a1 := (hb.alloc hb.size (.cells (ics x) 54))
          have a2 := a1.trans (hb1.mono a1.size)
          have a3 := a2.trans (hb2.mono a2.size)
          go_wp2
          go_ret
          exact ⟨ret_bool HF.out, a3⟩
      · have HF := Lib.hid (show true = rb from ((HRB.out.2 ⟨by omega, by have := hok.out; rwa [List.take_of_length_le (by rw [HL.out]; omega)] at this⟩).symm))
        go_wp2
        go_ret
        exact ⟨ret_bool HF.out, hb⟩
set_option maxHeartbeats 4000000 in
set_option maxRecDepth 100000 in
theorem refs6_any (A : Option Addr) (n c : Nat) (l : List I7) (w : World) (hA : ItsAt w A l) (hl : l.length = n) (hn : n ≤ 100000) :
    Calls Try.prog 21 #[.slice A n c] w fun e w' => ∃ A' c', e = .returned (.slice A' n c') ∧ Below w.heap.size w w' ∧ ItsAt w' A' l ∧ Caps A' n c' := by
  obtain ⟨i0, hi0, hz0, hz1, hz2⟩ := info_parts ritem_info
  have HA := Lib.hid hA; clear hA
  have HL := Lib.hid hl; clear hl
  go_enter Try.func21, Try.ntmps21
  go_wp2
  go_loopg [3, 8] n (fun k v i wr => ∃ j : Nat, i = .int .i64 j ∧ j ≤ n ∧ n - j ≤ k ∧ Below w.heap.size w wr ∧ Hid (wr.ownsRow w.heap.size 75 7 v j (iflat (l.take j))))
  case atStart => exact ⟨0, rfl, by omega, by omega, Below.refl _ _, World.ownsRow_nil _ _ _ _⟩
  case round =>
    obtain ⟨j, rfl, h1, h2, hb, hown⟩ := hrel
    have hsz := hb.size
    by_cases hlt : j < n
    · have hm : j < l.length := by rw [HL.out]; exact hlt
      obtain ⟨b, off, rfl, hbs, hc⟩ := HA.out (by omega)
      obtain ⟨e0, e1, e2, e3, e4, e5, e6⟩ := hc j hm
      clear hc
      obtain ⟨H1, H2⟩ := old_cells hb
      have HT := Lib.hid (take_ith l hm)
      have CR : Hid (∀ (W : World), Calls Try.prog 61 #[.agg #[.int .i64 (ith l j).tag, .int .i64 (ith l j).id, .int .i64 (ith l j).d0, .int .i64 (ith l j).d1, .int .i64 (ith l j).d2, .int .i64 (ith l j).mx, .string (ith l j).tx]] W fun e w' => e = .returned (.agg #[.int .i64 (ith l j).tag, .int .i64 (ith l j).id, .int .i64 (ith l j).d0, .int .i64 (ith l j).d1, .int .i64 (ith l j).d2, .int .i64 (ith l j).mx, .string (ith l j).tx]) ∧ Below W.heap.size W w') := fun W => iref6_any _ W
      generalize ith l j = x at *
      go_wp2_with fail
      refine (CR.out _).mono ?_
      rintro e w1 ⟨rfl, hb1⟩
      have a1 : Below wr.heap.size wr w1 := ((Below.refl _ _).alloc (Nat.le_refl _) (.cells (ics x) 54)).trans (hb1.mono (by simp))
      have hown1 := own_below hown.out a1
      have a2 := hb.trans (a1.mono hsz)
      have hz1' : w.heap.size ≤ w1.heap.size := Nat.le_trans hsz a1.size
      go_wp2_with (at_builtin; refine wpList_append_own _ rfl (.tmp 12) (.tmp 15) _ rfl w.heap.size 75 i0 _ 7 64 Try.underlying30 hi0 hz0 hz1 hz2 rfl (by omega) _ j (iflat (l.take j)) rfl (hown1.alloc _) ⟨w1.heap.size, 0, none⟩ 1 1 (iflat [x]) rfl (by simp [iflat]) (news_new w1 _ x) (iflat_one _) (by simp only [maxLen]; omega) (by omega) (by simp; omega) ?_; intro v4 w4 hown4 hg4 hnil4; clear hnil4)
      have hb4 : Below w.heap.size w w4 := (a2.alloc hz1' _).grown hg4 (by simp; omega) (fun k hk => (hown1.lt k hk).1)
      go_roundg (gk - 1)
      case measure => omega
      case rel => exact ⟨j + 1, by go_num, by omega, by omega, hb4, by rw [HT.out, iflat_append]; exact hown4⟩
    · have hj : j = n := by omega
      subst hj
      rw [List.take_of_length_le (by rw [HL.out]; omega)] at hown
      obtain ⟨A2, c2, rfl, hI, hl2, hcap⟩ := its_of_own hown.out
      have HI := Lib.hid hI; clear hI
      have HCP := Lib.hid hcap; clear hcap
      clear hown hl2
      go_wp2
      go_ret
      exact ⟨A2, c2, rfl, hb, HI.out, HCP.out⟩
end Go.Proofs.Ytbbplppcabeojaa
