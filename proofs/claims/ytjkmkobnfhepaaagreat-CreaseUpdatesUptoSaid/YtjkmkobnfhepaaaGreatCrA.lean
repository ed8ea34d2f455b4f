/- Creases: a crease in memory; kept, Height, Sizes. -/
import Derived.Test.YtjkmkobnfhepaaaGreatWvE
import Derived.Test.YtjkmkobnfhepaaaGreatCrP
namespace Go.Proofs.YtjkmkobnfhepaaaGreat
open Go.RowKit
set_option linter.unusedVariables false
/-- A crease, or none. -/
def CrAt (w : World) (p : Option Addr) (l : List I7) (h : Nat) : Prop :=
  (p = none ∧ l = [] ∧ h = 0) ∨ (∃ b q, p = some ⟨b, 0, none⟩ ∧ RawAt 80 w b #[.pointer q] ∧ TP w q l h)
theorem CrAt.below {w w' : World} {p : Option Addr} {l : List I7} {h : Nat} (ht : CrAt w p l h) (hb : Below w.heap.size w w') : CrAt w' p l h := by
  rcases ht with h1 | ⟨b, q, h1, h2, h3⟩
  · exact .inl h1
  · exact .inr ⟨b, q, h1, h2.below hb h2.lt, h3.below hb⟩
theorem crkept_nil (w : World) : Calls Tryz.prog 42 #[.pointer none] w fun e w' => e = .returned (.pointer none) ∧ w' = w := by
  go_enter Tryz.func42, Tryz.ntmps42
  go_wp2
  go_ret
  exact ⟨rfl, rfl⟩
theorem crkept_some (b : Nat) (q : Option Addr) (w : World) (e0 : w.cell? ⟨b, 0, none⟩ = some (.pointer q)) : Calls Tryz.prog 42 #[.pointer (some ⟨b, 0, none⟩)] w fun e w' => e = .returned (.pointer q) ∧ w' = w := by
  go_enter Tryz.func42, Tryz.ntmps42
  go_wp2
  go_ret
  exact ⟨rfl, rfl⟩
theorem crkept {p : Option Addr} {l : List I7} {h : Nat} {w : World} (ht : CrAt w p l h) : ∃ q, TP w q l h ∧ ∀ W, Below w.heap.size w W → Calls Tryz.prog 42 #[.pointer p] W fun e w' => e = .returned (.pointer q) ∧ w' = W := by
  rcases ht with ⟨rfl, rfl, rfl⟩ | ⟨b, q, rfl, h2, h3⟩
  · exact ⟨none, .inl ⟨rfl, rfl, rfl⟩, fun W _ => crkept_nil W⟩
  · exact ⟨q, h3, fun W hW => crkept_some b q W (RawAt.cell (h2.below hW h2.lt) 0)⟩
theorem CrAt.okl {w : World} {p : Option Addr} {l : List I7} {h : Nat} (ht : CrAt w p l h) : Okl l ∧ l.length ≤ 30000 := by
  obtain ⟨q, hq, _⟩ := crkept ht
  exact hq.okl
set_option maxHeartbeats 4000000 in
set_option maxRecDepth 100000 in
theorem crHeight {p : Option Addr} {l : List I7} {h : Nat} {w : World} (ht : CrAt w p l h) : Calls Tryz.prog 24 #[.pointer p] w fun e w' => e = .returned (.int .i64 h) ∧ Below w.heap.size w w' := by
  obtain ⟨q, hq, hk⟩ := crkept ht
  have CK := Lib.hid (hk w (Below.refl _ _))
  have CS := Lib.hid (theight_any q _ h w hq)
  clear hk hq ht
  go_enter Tryz.func24, Tryz.ntmps24
  go_wp2_with fail
  refine CK.out.mono ?_
  rintro e w1 ⟨rfl, rfl⟩
  go_wp2_with fail
  refine CS.out.mono ?_
  rintro e w2 ⟨rfl, b2⟩
  go_wp2
  go_ret
  exact ⟨rfl, b2⟩
set_option maxHeartbeats 4000000 in
set_option maxRecDepth 100000 in
theorem crSizes {p : Option Addr} {l : List I7} {h : Nat} {w : World} (ht : CrAt w p l h) : Calls Tryz.prog 34 #[.pointer p] w fun e w' => e = .returned (.tuple #[.int .i64 (wdsum 0 l), .int .i64 (wdsum 1 l)]) ∧ Below w.heap.size w w' := by
  obtain ⟨q, hq, hk⟩ := crkept ht
  obtain ⟨e0, e1⟩ := sall_dz _ l rfl hq.okl.1
  rw [← e0, ← e1]
  have CK := Lib.hid (hk w (Below.refl _ _))
  have CS := Lib.hid (tsum_n q l h w hq)
  clear hk hq ht e0 e1
  generalize sall l = s at *
  have hfl : ∀ (k : Int) (u : World), (Instr.field 114 (.agg #[.int .i64 k, .int .i64 s.d0, .int .i64 s.d1, .int .i64 s.d2, .int .i64 s.mx, .int .i64 s.pl]) 1).run Tryz.prog u = .ok (.agg #[.int .i64 s.d0, .int .i64 s.d1, .int .i64 s.d2]) u := fun k u => by kernel_rfl
  go_enter Tryz.func34, Tryz.ntmps34
  go_wp2_with fail
  refine CK.out.mono ?_
  rintro e w1 ⟨rfl, rfl⟩
  go_wp2_with fail
  refine CS.out.mono ?_
  rintro e w2 ⟨rfl, b2⟩
  have R3 : RawAt 112 (w2.alloc (.cells #[.int .i64 s.d0, .int .i64 s.d1, .int .i64 s.d2] 112)) w2.heap.size #[.int .i64 s.d0, .int .i64 s.d1, .int .i64 s.d2] := heap_alloc_new w2 _
  have x3 : Below w2.heap.size w2 (w2.alloc (.cells #[.int .i64 s.d0, .int .i64 s.d1, .int .i64 s.d2] 112)) := (Below.refl _ _).alloc (Nat.le_refl _) _
  have HB3 := Lib.hid (b2.trans (x3.mono b2.size))
  have c0 := RawAt.cell R3 0
  have c1 := RawAt.cell R3 1
  simp at c0 c1
  clear R3 x3
  go_wp2_with fail
  go_quiet (fail)
  have HQ := drewN_below HB3.out nq
  go_wp2
  go_ret2
  exact ⟨rfl, HQ⟩
theorem crP_ok : ∀ {l : List (Int × Int)} {f t : Int}, CrOk f l t → 0 ≤ f → t ≤ 1099511627776 → Okl (crP f l t)
  | [], f, t, h, h0, ht => by
    unfold CrOk at h
    rw [crP_nil]
    intro i hi
    unfold cgap at hi
    split at hi
    · rw [List.mem_singleton.1 hi]
      unfold Oki Okd Okn cpc
      simp
      omega
    · cases hi
  | x :: l, f, t, h, h0, ht => by
    obtain ⟨h1, h2, h3⟩ := h
    have hle := h3.le
    rw [crP_cons]
    intro i hi
    rcases List.mem_append.1 hi with hi | hi
    · unfold cgap at hi
      split at hi
      · rw [List.mem_singleton.1 hi]
        unfold Oki Okd Okn cpc
        simp
        omega
      · cases hi
    · rcases List.mem_append.1 hi with hi | hi
      · unfold cgap at hi
        split at hi
        · rw [List.mem_singleton.1 hi]
          unfold Oki Okd Okn cpc
          simp
          omega
        · cases hi
      · exact crP_ok h3 (by omega) ht i hi
end Go.Proofs.YtjkmkobnfhepaaaGreat
