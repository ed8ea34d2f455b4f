/- The law LinesNil. -/
import Derived.Test.YtaemndioleofjaaLTwo
namespace Go.Proofs.Ytaemndioleofjaa
open Go.RowKit
theorem nil_span : SpanIs [] 0 0 0 0 := .inr ⟨by decide, by decide, rfl, 0, ah_zero _, rfl, .inl ⟨by decide, rfl⟩⟩
theorem nil_place (r c : Int) : (r = 0 ∧ c = 0 → PlaceIs [] r c 0 0) ∧ (¬ (r = 0 ∧ c = 0) → PlaceIs [] r c 0 1) := by
  refine ⟨fun ⟨h1, h2⟩ => ?_, fun h => ?_⟩
  · subst h1; subst h2
    exact ⟨0, 0, 0, nil_span, .inr (.inr ⟨rfl, by decide, by decide, rfl, rfl⟩)⟩
  · by_cases h0 : r = 0
    · subst h0
      exact ⟨0, 0, 0, nil_span, .inr (.inl ⟨rfl, fun h1 => h ⟨rfl, by omega⟩, rfl, rfl⟩)⟩
    · exact ⟨0, 0, 1, .inl ⟨fun h1 => h0 (by have : brks [] = 0 := rfl; omega), rfl, rfl, rfl⟩, .inl ⟨rfl, rfl, rfl⟩⟩
theorem nil_clip (r c : Int) : ClipIs [] r c 0 0 := by
  rcases Int.lt_trichotomy r 0 with h | h | h
  · exact .inl ⟨h, rfl, rfl⟩
  · subst h
    exact .inr (.inr ⟨by decide, by decide, 0, 0, nil_span, rfl, by omega⟩)
  · exact .inr (.inl ⟨by omega, by have : brks [] = 0 := rfl; omega, .inr ⟨by decide, by decide, rfl, rfl, 0, ah_zero _, rfl⟩⟩)
set_option maxHeartbeats 4000000 in
set_option maxRecDepth 100000 in
theorem linesNil_walk (r c : Int) (w : World) (_hr : Lit.wf (.int .i64 r)) (hc : Lit.wf (.int .i64 c)) : Calls Try.prog 7 #[.agg #[.int .i64 r, .int .i64 c]] w fun e w' => e = .returned (.bool true) ∧ Below w.heap.size w w' := by
  have hc0 : -9223372036854775808 ≤ c ∧ c ≤ 9223372036854775807 := by simp [Lit.wf, IntKind.min, IntKind.max, IntKind.signed, IntKind.bits] at hc; omega
  obtain ⟨hc0, hc1⟩ := hc0
  clear hc _hr
  have CW := Lib.hid fun W => two_any W
  have CS := Lib.hid fun (W : World) => (lspan_any (RP.none_ W) 0).mono fun e w' ⟨f, t, d, hi, he, hb⟩ => (by obtain ⟨rfl, rfl, rfl⟩ := hi.unique nil_span; exact ⟨he, hb⟩ : e = Ending.returned (.tuple #[.agg #[.int .i64 0, .int .i64 0], .int .i64 0]) ∧ Below W.heap.size W w')
  have CR := Lib.hid fun (W : World) => lrows_any (RP.none_ W)
  have CC := Lib.hid fun (W : World) => (lclip_any (RP.none_ W) r c hc0 hc1).mono fun e w' ⟨a, b, hi, he, hb⟩ => (by obtain ⟨rfl, rfl⟩ := hi.unique (nil_clip r c); exact ⟨he, hb⟩ : e = Ending.returned (.agg #[.int .i64 0, .int .i64 0]) ∧ Below W.heap.size W w')
  obtain ⟨pe, hpe⟩ : ∃ pe : Int, (r = 0 ∧ c = 0 ∧ pe = 0) ∨ (¬ (r = 0 ∧ c = 0) ∧ pe = 1) := by
    by_cases h : r = 0 ∧ c = 0
    · exact ⟨0, .inl ⟨h.1, h.2, rfl⟩⟩
    · exact ⟨1, .inr ⟨h, rfl⟩⟩
  have CP := Lib.hid fun (W : World) => (lplace_any (RP.none_ W) r c hc0 hc1).mono fun e w' ⟨n, d, hi, he, hb⟩ => (by
    have : n = 0 ∧ d = pe := by
      rcases hpe with ⟨h1, h2, rfl⟩ | ⟨h1, rfl⟩
      · exact hi.unique ((nil_place r c).1 ⟨h1, h2⟩)
      · exact hi.unique ((nil_place r c).2 h1)
    obtain ⟨rfl, rfl⟩ := this
    exact ⟨he, hb⟩ : e = Ending.returned (.tuple #[.int .i64 0, .int .i64 pe]) ∧ Below W.heap.size W w')
  rw [show ((brks ([] : List (List Int)).flatten : Int) + 1) = 1 from by decide] at CR
  have x1 : Below w.heap.size w (w.alloc (.cells #[.int .i64 r, .int .i64 c] 39)) := (Below.refl _ _).alloc (Nat.le_refl _) _
  have R1 : RawAt 39 (w.alloc (.cells #[.int .i64 r, .int .i64 c] 39)) w.heap.size #[.int .i64 r, .int .i64 c] := heap_alloc_new w _
  have HR1 := Lib.hid R1
  clear R1 hc0 hc1
  have hcs : (r = 0 ∧ c = 0 ∧ pe = 0) ∨ (r = 0 ∧ (c == 0) = false ∧ pe = 1) ∨ ((r == 0) = false ∧ pe = 1) := by
    rcases hpe with ⟨h1, h2, rfl⟩ | ⟨h1, rfl⟩
    · exact .inl ⟨h1, h2, rfl⟩
    · by_cases h0 : r = 0
      · exact .inr (.inl ⟨h0, by simp; exact fun h => h1 ⟨h0, h⟩, rfl⟩)
      · exact .inr (.inr ⟨by simpa using h0, rfl⟩)
  clear hpe
  rcases hcs with ⟨rfl, rfl, rfl⟩ | ⟨rfl, hcb, rfl⟩ | ⟨hrb, rfl⟩
  all_goals
    go_enter Try.func7, Try.ntmps7
    go_wp2_with fail
    refine (CS.out _).mono ?_
    rintro e w2 ⟨rfl, hb2⟩
    have a2 := x1.trans (hb2.mono x1.size)
    have HR2 := Lib.hid (RawAt.below HR1.out hb2 (RawAt.lt HR1.out))
    have x3 : Below w2.heap.size w2 (w2.alloc (.cells #[.int .i64 0, .int .i64 0] 41)) := (Below.refl _ _).alloc (Nat.le_refl _) _
    have R3 : RawAt 41 (w2.alloc (.cells #[.int .i64 0, .int .i64 0] 41)) w2.heap.size #[.int .i64 0, .int .i64 0] := heap_alloc_new w2 _
    have HR3 := Lib.hid R3
    have HP3 := Lib.hid (RawAt.below HR2.out x3 (RawAt.lt HR2.out))
    have a3 := a2.trans (x3.mono a2.size)
    have q0 := RawAt.cell HP3.out 0
    have q1 := RawAt.cell HP3.out 1
    simp at q0 q1
    clear R3
    obtain ⟨sb, hsb⟩ : ∃ sb, sb = w2.heap.size := ⟨_, rfl⟩
    rw [← hsb] at HR3
    have HSB := Lib.hid hsb
    clear hsb
    go_wp2_with fail
    rw [← HSB.out]
    generalize w2.alloc (.cells #[.int .i64 0, .int .i64 0] 41) = W3 at *
    clear q0 q1
    refine (CP.out _).mono ?_
    rintro e w4 ⟨rfl, hb4⟩
    have a4 := a3.trans (hb4.mono a3.size)
    go_wp2_with fail
    refine (CR.out _).mono ?_
    rintro e w5 ⟨rfl, hb5⟩
    have q45 := hb4.trans (hb5.mono hb4.size)
    have a5 := a4.trans (hb5.mono a4.size)
    have HR5 := Lib.hid (RawAt.below HR3.out q45 (RawAt.lt HR3.out))
    have HP5 := Lib.hid (RawAt.below HP3.out q45 (RawAt.lt HP3.out))
    have s0 := RawAt.cell HR5.out 0
    have s1 := RawAt.cell HR5.out 1
    have q0 := RawAt.cell HP5.out 0
    have q1 := RawAt.cell HP5.out 1
    simp at s0 s1 q0 q1
    go_wp2_with fail
    refine (CC.out _).mono ?_
    rintro e w6 ⟨rfl, hb6⟩
    have a6 := a5.trans (hb6.mono a5.size)
    go_wp2_with fail
    refine (CW.out _).mono ?_
    rintro e w7 ⟨rfl, hb7⟩
    go_wp2_with fail
    go_ret
    exact ⟨rfl, a6.trans (hb7.mono a6.size)⟩
end Go.Proofs.Ytaemndioleofjaa
