/- Windows, pure: what widening stops at: the nearest ends that no hidden span is on both sides of. -/
import Derived.Test.YtjkmkobnfhepaaaBase
namespace Go.Proofs.Ytjkmkobnfhepaaa

set_option linter.unusedVariables false
/-- Is a span on both sides of a place? -/
def wacr (l : List (Int × Int)) (p : Int) : Bool := l.any fun x => decide (x.1 < p ∧ p < x.2)
/-- What the program takes for the span around a place. -/
def Arnd (l : List (Int × Int)) (p u v : Int) : Prop := (wacr l p = false ∧ u = p ∧ v = p) ∨ ((u, v) ∈ l ∧ u < p ∧ p < v)
/-- How many spans begin ahead of a place, how many end behind it. -/
def cntL (l : List (Int × Int)) (p : Int) : Nat := (l.filter fun x => decide (x.1 < p)).length
def cntR (l : List (Int × Int)) (p : Int) : Nat := (l.filter fun x => decide (p < x.2)).length
theorem cntL_le (l : List (Int × Int)) (p : Int) : cntL l p ≤ l.length := List.length_filter_le _ _
theorem cntR_le (l : List (Int × Int)) (p : Int) : cntR l p ≤ l.length := List.length_filter_le _ _
theorem cntL_mono : ∀ (l : List (Int × Int)) {p q : Int}, q ≤ p → cntL l q ≤ cntL l p
  | [], _, _, _ => Nat.le_refl _
  | x :: l, p, q, h => by
    have ih := cntL_mono l h
    unfold cntL at *
    rw [List.filter_cons, List.filter_cons]
    by_cases h1 : x.1 < q
    · have h2 : x.1 < p := by omega
      rw [if_pos (by simpa using h1), if_pos (by simpa using h2)]
      simpa using ih
    · rw [if_neg (by simpa using h1)]
      split
      · rw [List.length_cons]; omega
      · exact ih
theorem cntR_mono : ∀ (l : List (Int × Int)) {p q : Int}, p ≤ q → cntR l q ≤ cntR l p
  | [], _, _, _ => Nat.le_refl _
  | x :: l, p, q, h => by
    have ih := cntR_mono l h
    unfold cntR at *
    rw [List.filter_cons, List.filter_cons]
    by_cases h1 : q < x.2
    · have h2 : p < x.2 := by omega
      rw [if_pos (by simpa using h1), if_pos (by simpa using h2)]
      simpa using ih
    · rw [if_neg (by simpa using h1)]
      split
      · rw [List.length_cons]; omega
      · exact ih
theorem cntL_lt : ∀ (l : List (Int × Int)) {p q : Int} {x : Int × Int}, x ∈ l → x.1 < p → q ≤ x.1 → cntL l q < cntL l p
  | y :: l, p, q, x, hx, h1, h2 => by
    have hm := cntL_mono l (show q ≤ p by omega)
    rcases List.mem_cons.mp hx with rfl | hx
    · unfold cntL at *
      rw [List.filter_cons, List.filter_cons, if_neg (by simpa using h2), if_pos (by simpa using h1), List.length_cons]
      omega
    · have ih := cntL_lt l hx h1 h2
      unfold cntL at *
      rw [List.filter_cons, List.filter_cons]
      by_cases g1 : y.1 < q
      · have g2 : y.1 < p := by omega
        rw [if_pos (by simpa using g1), if_pos (by simpa using g2)]
        simpa using ih
      · rw [if_neg (by simpa using g1)]
        split
        · rw [List.length_cons]; omega
        · exact ih
theorem cntR_lt : ∀ (l : List (Int × Int)) {p q : Int} {x : Int × Int}, x ∈ l → p < x.2 → x.2 ≤ q → cntR l q < cntR l p
  | y :: l, p, q, x, hx, h1, h2 => by
    have hm := cntR_mono l (show p ≤ q by omega)
    rcases List.mem_cons.mp hx with rfl | hx
    · unfold cntR at *
      rw [List.filter_cons, List.filter_cons, if_neg (by simpa using h2), if_pos (by simpa using h1), List.length_cons]
      omega
    · have ih := cntR_lt l hx h1 h2
      unfold cntR at *
      rw [List.filter_cons, List.filter_cons]
      by_cases g1 : q < y.2
      · have g2 : p < y.2 := by omega
        rw [if_pos (by simpa using g1), if_pos (by simpa using g2)]
        simpa using ih
      · rw [if_neg (by simpa using g1)]
        split
        · rw [List.length_cons]; omega
        · exact ih
theorem wacr_true {l : List (Int × Int)} {p : Int} : wacr l p = true ↔ ∃ x ∈ l, x.1 < p ∧ p < x.2 := by simp [wacr]
theorem wacr_no {l : List (Int × Int)} {p : Int} : wacr l p = false ↔ ∀ x ∈ l, ¬ (x.1 < p ∧ p < x.2) := by
  rw [← Bool.not_eq_true, wacr_true]
  exact ⟨fun h x hx g => h ⟨x, hx, g⟩, fun h ⟨x, hx, g⟩ => h x hx g⟩
/-- Where widening is: the ends ahead are at p, those behind at b + d and c + d; nothing that it may stop at was passed. -/
structure Wdn (l m : List (Int × Int)) (p0 b c p d : Int) : Prop where
  le : p ≤ p0
  nl : ∀ r, r ≤ p0 → wacr l r = false → wacr m r = false → r ≤ p
  ge : 0 ≤ d
  nr : ∀ r, 0 ≤ r → wacr l (b + r) = false → wacr m (c + r) = false → d ≤ r
/-- Where it may stop, ahead and behind. -/
def WdL (l m : List (Int × Int)) (p : Int) : Prop := wacr l p = false ∧ wacr m p = false
def WdR (l m : List (Int × Int)) (b c d : Int) : Prop := wacr l (b + d) = false ∧ wacr m (c + d) = false
theorem Wdn.start (l m : List (Int × Int)) (p0 b c : Int) : Wdn l m p0 b c p0 0 := ⟨Int.le_refl _, fun _ h _ _ => h, Int.le_refl _, fun _ h _ _ => h⟩
theorem Wdn.unique {l m : List (Int × Int)} {p0 b c p d p' d' : Int} (h : Wdn l m p0 b c p d) (g : Wdn l m p0 b c p' d') (h1 : WdL l m p) (h2 : WdR l m b c d) (g1 : WdL l m p') (g2 : WdR l m b c d') : p = p' ∧ d = d' := by
  have a1 := h.nl p' g.le g1.1 g1.2
  have a2 := g.nl p h.le h1.1 h1.2
  have a3 := h.nr d' g.ge g2.1 g2.2
  have a4 := g.nr d h.ge h2.1 h2.2
  omega
/-- The end ahead goes to the beginning of a span that is on both sides of it. -/
theorem Wdn.left {l m : List (Int × Int)} {p0 b c p d : Int} (h : Wdn l m p0 b c p d) {x : Int × Int} (hx : x ∈ l ∨ x ∈ m) (h1 : x.1 < p) (h2 : p < x.2) : Wdn l m p0 b c x.1 d := by
  refine ⟨by have := h.le; omega, fun r hr g1 g2 => ?_, h.ge, h.nr⟩
  have g3 := h.nl r hr g1 g2
  rcases hx with hx | hx
  · have := wacr_no.mp g1 x hx
    omega
  · have := wacr_no.mp g2 x hx
    omega
theorem Wdn.rightL {l m : List (Int × Int)} {p0 b c p d : Int} (h : Wdn l m p0 b c p d) {x : Int × Int} (hx : x ∈ l) (h1 : x.1 < b + d) (h2 : b + d < x.2) : Wdn l m p0 b c p (x.2 - b) := by
  refine ⟨h.le, h.nl, by have := h.ge; omega, fun r hr g1 g2 => ?_⟩
  have g3 := h.nr r hr g1 g2
  have := wacr_no.mp g1 x hx
  omega
theorem Wdn.rightM {l m : List (Int × Int)} {p0 b c p d : Int} (h : Wdn l m p0 b c p d) {x : Int × Int} (hx : x ∈ m) (h1 : x.1 < c + d) (h2 : c + d < x.2) : Wdn l m p0 b c p (x.2 - c) := by
  refine ⟨h.le, h.nl, by have := h.ge; omega, fun r hr g1 g2 => ?_⟩
  have g3 := h.nr r hr g1 g2
  have := wacr_no.mp g2 x hx
  omega
theorem arnd_le {l : List (Int × Int)} {p u v : Int} (h : Arnd l p u v) : u ≤ p ∧ p ≤ v := by rcases h with ⟨_, rfl, rfl⟩ | ⟨_, h⟩ <;> omega
theorem arnd_no {l : List (Int × Int)} {p u v : Int} (h : Arnd l p u v) (hs : u = p ∨ v = p) : wacr l p = false := by
  rcases h with h | ⟨_, h⟩
  · exact h.1
  · omega
/-- A round of the program: both ends as far as one span on either side tells. -/
theorem Wdn.round {l m : List (Int × Int)} {p0 b c p d u1 v1 u2 v2 u3 v3 u4 v4 : Int} (h : Wdn l m p0 b c p d) (a1 : Arnd l p u1 v1) (a2 : Arnd m p u2 v2) (a3 : Arnd l (b + d) u3 v3) (a4 : Arnd m (c + d) u4 v4) :
    Wdn l m p0 b c (p - max (p - u1) (p - u2)) (d + max (v3 - (b + d)) (v4 - (c + d))) := by
  have e1 := arnd_le a1
  have e2 := arnd_le a2
  have e3 := arnd_le a3
  have e4 := arnd_le a4
  have hl : Wdn l m p0 b c (p - max (p - u1) (p - u2)) d := by
    by_cases g : u1 ≤ u2
    · have e : p - max (p - u1) (p - u2) = u1 := by omega
      rw [e]
      rcases a1 with ⟨_, rfl, rfl⟩ | ⟨hx, h1, h2⟩
      · exact h
      · exact h.left (.inl hx) h1 h2
    · have e : p - max (p - u1) (p - u2) = u2 := by omega
      rw [e]
      rcases a2 with ⟨_, rfl, rfl⟩ | ⟨hx, h1, h2⟩
      · exact h
      · exact h.left (.inr hx) h1 h2
  by_cases g : v4 - (c + d) ≤ v3 - (b + d)
  · have e : d + max (v3 - (b + d)) (v4 - (c + d)) = v3 - b := by omega
    rw [e]
    rcases a3 with ⟨_, rfl, rfl⟩ | ⟨hx, h1, h2⟩
    · have : b + d - b = d := by omega
      rw [this]; exact hl
    · exact hl.rightL hx h1 h2
  · have e : d + max (v3 - (b + d)) (v4 - (c + d)) = v4 - c := by omega
    rw [e]
    rcases a4 with ⟨_, rfl, rfl⟩ | ⟨hx, h1, h2⟩
    · have : c + d - c = d := by omega
      rw [this]; exact hl
    · exact hl.rightM hx h1 h2
/-- How many rounds the program may still want at either end. -/
def wdcL (l m : List (Int × Int)) (p : Int) : Nat := cntL l p + cntL m p
def wdcR (l m : List (Int × Int)) (b c d : Int) : Nat := cntR l (b + d) + cntR m (c + d)
theorem wdcL_zero {l m : List (Int × Int)} {p : Int} (h : wdcL l m p = 0) : WdL l m p := by
  constructor
  · rw [wacr_no]
    intro x hx g
    have := cntL_lt l hx g.1 (Int.le_refl x.1)
    unfold wdcL at h
    omega
  · rw [wacr_no]
    intro x hx g
    have := cntL_lt m hx g.1 (Int.le_refl x.1)
    unfold wdcL at h
    omega
theorem wdcR_zero {l m : List (Int × Int)} {b c d : Int} (h : wdcR l m b c d = 0) : WdR l m b c d := by
  constructor
  · rw [wacr_no]
    intro x hx g
    have := cntR_lt l hx g.2 (Int.le_refl x.2)
    unfold wdcR at h
    omega
  · rw [wacr_no]
    intro x hx g
    have := cntR_lt m hx g.2 (Int.le_refl x.2)
    unfold wdcR at h
    omega
theorem wdcL_lt {l m : List (Int × Int)} {p q : Int} {x : Int × Int} (hx : x ∈ l ∨ x ∈ m) (h1 : x.1 < p) (h2 : q ≤ x.1) : wdcL l m q < wdcL l m p := by
  have m1 := cntL_mono l (show q ≤ p by omega)
  have m2 := cntL_mono m (show q ≤ p by omega)
  unfold wdcL
  rcases hx with hx | hx
  · have := cntL_lt l hx h1 h2; omega
  · have := cntL_lt m hx h1 h2; omega
theorem wdcR_ltL {l m : List (Int × Int)} {b c d e : Int} {x : Int × Int} (hx : x ∈ l) (h1 : b + d < x.2) (h2 : x.2 ≤ b + e) : wdcR l m b c e < wdcR l m b c d := by
  have m2 := cntR_mono m (show c + d ≤ c + e by omega)
  have := cntR_lt l hx h1 h2
  unfold wdcR
  omega
theorem wdcR_ltM {l m : List (Int × Int)} {b c d e : Int} {x : Int × Int} (hx : x ∈ m) (h1 : c + d < x.2) (h2 : x.2 ≤ c + e) : wdcR l m b c e < wdcR l m b c d := by
  have m2 := cntR_mono l (show b + d ≤ b + e by omega)
  have := cntR_lt m hx h1 h2
  unfold wdcR
  omega
/-- Behind a round of the program each end stands, or has a span less ahead. -/
theorem Wdn.lessL {l m : List (Int × Int)} {p u1 v1 u2 v2 : Int} {k : Nat} (hk : WdL l m p ∨ wdcL l m p ≤ k + 1) (a1 : Arnd l p u1 v1) (a2 : Arnd m p u2 v2) :
    WdL l m (p - max (p - u1) (p - u2)) ∨ wdcL l m (p - max (p - u1) (p - u2)) ≤ k := by
  by_cases hL : WdL l m p
  · left
    have e1 := arnd_le a1
    have e2 := arnd_le a2
    have g1 : u1 = p := by
      rcases a1 with h | ⟨hx, h⟩
      · exact h.2.1
      · exact absurd h (wacr_no.mp hL.1 _ hx)
    have g2 : u2 = p := by
      rcases a2 with h | ⟨hx, h⟩
      · exact h.2.1
      · exact absurd h (wacr_no.mp hL.2 _ hx)
    have e : p - max (p - u1) (p - u2) = p := by omega
    rw [e]; exact hL
  · rcases hk with hk | hk
    · exact absurd hk hL
    right
    have e1 := arnd_le a1
    have e2 := arnd_le a2
    rcases a1 with ⟨f1, rfl, rfl⟩ | ⟨hx, h1, h2⟩
    · rcases a2 with ⟨f2, rfl, rfl⟩ | ⟨hx, h1, h2⟩
      · exact absurd ⟨f1, f2⟩ hL
      · refine Nat.le_of_lt_succ (Nat.lt_of_lt_of_le (wdcL_lt (.inr hx) h1 ?_) hk)
        show _ ≤ u2
        omega
    · have := wdcL_lt (l := l) (m := m) (p := p) (q := p - max (p - u1) (p - u2)) (.inl hx) h1 (by show _ ≤ u1; omega)
      omega
theorem Wdn.lessR {l m : List (Int × Int)} {b c d u3 v3 u4 v4 : Int} {k : Nat} (hk : WdR l m b c d ∨ wdcR l m b c d ≤ k + 1) (a3 : Arnd l (b + d) u3 v3) (a4 : Arnd m (c + d) u4 v4) :
    WdR l m b c (d + max (v3 - (b + d)) (v4 - (c + d))) ∨ wdcR l m b c (d + max (v3 - (b + d)) (v4 - (c + d))) ≤ k := by
  by_cases hR : WdR l m b c d
  · left
    have e1 := arnd_le a3
    have e2 := arnd_le a4
    have g1 : v3 = b + d := by
      rcases a3 with h | ⟨hx, h⟩
      · exact h.2.2
      · exact absurd h (wacr_no.mp hR.1 _ hx)
    have g2 : v4 = c + d := by
      rcases a4 with h | ⟨hx, h⟩
      · exact h.2.2
      · exact absurd h (wacr_no.mp hR.2 _ hx)
    have e : d + max (v3 - (b + d)) (v4 - (c + d)) = d := by omega
    rw [e]; exact hR
  · rcases hk with hk | hk
    · exact absurd hk hR
    right
    have e1 := arnd_le a3
    have e2 := arnd_le a4
    rcases a3 with ⟨f1, rfl, rfl⟩ | ⟨hx, h1, h2⟩
    · rcases a4 with ⟨f2, rfl, rfl⟩ | ⟨hx, h1, h2⟩
      · exact absurd ⟨f1, f2⟩ hR
      · have := wdcR_ltM (l := l) (m := m) (b := b) (c := c) (d := d) (e := d + max (b + d - (b + d)) (v4 - (c + d))) hx h2 (by show v4 ≤ _; omega)
        omega
    · have := wdcR_ltL (l := l) (m := m) (b := b) (c := c) (d := d) (e := d + max (v3 - (b + d)) (v4 - (c + d))) hx h2 (by show v3 ≤ _; omega)
      omega
/-- Nothing is hidden on both sides of either end just where the program finds nothing. -/
theorem arnd_stop {l m : List (Int × Int)} {p q u1 v1 u2 v2 : Int} (a1 : Arnd l p u1 v1) (a2 : Arnd m q u2 v2) (h : max (p - u1) (q - u2) = 0) : wacr l p = false ∧ wacr m q = false := by
  have e1 := arnd_le a1
  have e2 := arnd_le a2
  exact ⟨arnd_no a1 (.inl (by omega)), arnd_no a2 (.inl (by omega))⟩
theorem arnd_stopR {l m : List (Int × Int)} {p q u1 v1 u2 v2 : Int} (a1 : Arnd l p u1 v1) (a2 : Arnd m q u2 v2) (h : max (v1 - p) (v2 - q) = 0) : wacr l p = false ∧ wacr m q = false := by
  have e1 := arnd_le a1
  have e2 := arnd_le a2
  exact ⟨arnd_no a1 (.inr (by omega)), arnd_no a2 (.inr (by omega))⟩
/-- A round of the document's: by the first span found, at one of both ends; or it stands. -/
def OnceIs (l m : List (Int × Int)) (p b c d p' d' : Int) : Prop :=
  (p' = p ∧ d' = d ∧ WdL l m p ∧ WdR l m b c d) ∨ (d' = d ∧ ∃ x : Int × Int, (x ∈ l ∨ x ∈ m) ∧ x.1 < p ∧ p < x.2 ∧ p' = x.1) ∨
  (p' = p ∧ ∃ x ∈ l, x.1 < b + d ∧ b + d < x.2 ∧ d' = x.2 - b) ∨ (p' = p ∧ ∃ x ∈ m, x.1 < c + d ∧ c + d < x.2 ∧ d' = x.2 - c)
theorem Wdn.once {l m : List (Int × Int)} {p0 b c p d p' d' : Int} (h : Wdn l m p0 b c p d) (o : OnceIs l m p b c d p' d') : Wdn l m p0 b c p' d' := by
  rcases o with ⟨rfl, rfl, _⟩ | ⟨rfl, x, hx, h1, h2, rfl⟩ | ⟨rfl, x, hx, h1, h2, rfl⟩ | ⟨rfl, x, hx, h1, h2, rfl⟩
  · exact h
  · exact h.left hx h1 h2
  · exact h.rightL hx h1 h2
  · exact h.rightM hx h1 h2
theorem Wdn.lessO {l m : List (Int × Int)} {p b c d p' d' : Int} {k : Nat} (hk : (WdL l m p ∧ WdR l m b c d) ∨ wdcL l m p + wdcR l m b c d ≤ k + 1) (o : OnceIs l m p b c d p' d') : (WdL l m p' ∧ WdR l m b c d') ∨ wdcL l m p' + wdcR l m b c d' ≤ k := by
  rcases o with ⟨rfl, rfl, g1, g2⟩ | ⟨rfl, x, hx, h1, h2, rfl⟩ | ⟨rfl, x, hx, h1, h2, rfl⟩ | ⟨rfl, x, hx, h1, h2, rfl⟩
  · exact .inl ⟨g1, g2⟩
  · rcases hk with ⟨a, _⟩ | hk
    · rcases hx with hx | hx
      · exact absurd ⟨h1, h2⟩ (wacr_no.mp a.1 x hx)
      · exact absurd ⟨h1, h2⟩ (wacr_no.mp a.2 x hx)
    · right
      have := wdcL_lt (l := l) (m := m) hx h1 (Int.le_refl x.1)
      omega
  · rcases hk with ⟨_, a⟩ | hk
    · exact absurd ⟨h1, h2⟩ (wacr_no.mp a.1 x hx)
    · right
      have := wdcR_ltL (l := l) (m := m) (b := b) (c := c) (d := d) (e := x.2 - b) hx h2 (by omega)
      omega
  · rcases hk with ⟨_, a⟩ | hk
    · exact absurd ⟨h1, h2⟩ (wacr_no.mp a.2 x hx)
    · right
      have := wdcR_ltM (l := l) (m := m) (b := b) (c := c) (d := d) (e := x.2 - c) hx h2 (by omega)
      omega
theorem WdLR_zero {l m : List (Int × Int)} {p b c d : Int} (hk : (WdL l m p ∧ WdR l m b c d) ∨ wdcL l m p + wdcR l m b c d ≤ 0) : WdL l m p ∧ WdR l m b c d := by
  rcases hk with h | h
  · exact h
  · exact ⟨wdcL_zero (by omega), wdcR_zero (by omega)⟩
theorem wdc_start (l m : List (Int × Int)) (p b c d : Int) : wdcL l m p ≤ l.length + m.length ∧ wdcR l m b c d ≤ l.length + m.length := by
  have := cntL_le l p
  have := cntL_le m p
  have := cntR_le l (b + d)
  have := cntR_le m (c + d)
  unfold wdcL wdcR
  omega
end Go.Proofs.Ytjkmkobnfhepaaa
