/- Anchors: what a set is in memory; in, New. -/
import Derived.Test.YtncbhbjhfmbbkaaAnA
import Derived.Test.YtncbhbjhfmbbkaaMapV
namespace Go.Proofs.Ytncbhbjhfmbbkaa
open Go.RowKit Go.Sort
set_option linter.unusedVariables false
/-- May an anchor be in a text of n runes? -/
def aOk (n : Int) (a : An) : Prop := 0 ≤ a.pl ∧ a.pl ≤ n ∧ (a.bi = 0 ∨ a.bi = 1)
instance (n : Int) (a : An) : Decidable (aOk n a) := by unfold aOk; exact inferInstance
/-- What is wrong with anchors behind others. -/
def aw (n : Int) : List An → List An → Int
  | _, [] => 0
  | seen, a :: l => if ¬ aOk n a then 1 else if seen.any (fun b => b.id == a.id) then 8 else aw n (seen ++ [a]) l
def awrong (n : Int) (l : List An) : Int := if n < 0 ∨ 1099511627776 < n then 1 else if 200 < l.length then 5 else aw n [] l
def aagg (a : An) : Value := .agg #[.int .i64 a.id, .int .i64 a.pl, .int .i64 a.bi]
/-- What a map has of anchors, by their numbers. -/
structure AMap (f : Int → Option Value) (o : List An) : Prop where
  has : ∀ a ∈ o, f a.id = some (aagg a)
  non : ∀ x, (∀ a ∈ o, a.id ≠ x) → f x = none
def Apart (l : List An) : Prop := l.Pairwise fun a b => a.id ≠ b.id
theorem apart_inj : ∀ {l : List An}, Apart l → ∀ x ∈ l, ∀ y ∈ l, x.id = y.id → x = y
  | [], _, x, h, _, _, _ => absurd h (by simp)
  | a :: l, hp, x, hx, y, hy, e => by
    obtain ⟨h1, h2⟩ := List.pairwise_cons.1 hp
    rcases List.mem_cons.1 hx with hx' | hx'
    · rcases List.mem_cons.1 hy with hy' | hy'
      · rw [hx', hy']
      · subst hx'; exact absurd e (h1 y hy')
    · rcases List.mem_cons.1 hy with hy' | hy'
      · subst hy'; exact absurd e.symm (h1 x hx')
      · exact apart_inj h2 x hx' y hy' e
theorem apart_snoc {l : List An} {a : An} (h : Apart l) (hn : ∀ b ∈ l, b.id ≠ a.id) : Apart (l ++ [a]) :=
  List.pairwise_append.2 ⟨h, List.pairwise_singleton _ _, fun b hb c hc => by obtain rfl := List.mem_singleton.1 hc; exact hn b hb⟩
theorem aw_apart {n : Int} : ∀ {l seen : List An}, aw n seen l = 0 → Apart seen → Apart (seen ++ l) ∧ ∀ a ∈ l, aOk n a
  | [], seen, _, h => ⟨by simpa using h, fun a h => absurd h (by simp)⟩
  | a :: l, seen, h, hs => by
    unfold aw at h
    split at h
    · cases h
    · rename_i h1
      split at h
      · cases h
      · rename_i h2
        have hn : ∀ b ∈ seen, b.id ≠ a.id := fun b hb he => h2 (List.any_eq_true.2 ⟨b, hb, by simp [he]⟩)
        obtain ⟨r1, r2⟩ := aw_apart h (apart_snoc hs hn)
        refine ⟨by simpa using r1, fun b hb => ?_⟩
        rcases List.mem_cons.1 hb with rfl | hb
        · exact Decidable.of_not_not h1
        · exact r2 b hb
theorem AMap.snoc {f : Int → Option Value} {o : List An} {a : An} (h : AMap f o) (hn : ∀ b ∈ o, b.id ≠ a.id) : AMap (fun x => if x = a.id then some (aagg a) else f x) (o ++ [a]) := by
  constructor
  · intro b hb
    rcases List.mem_append.1 hb with hb | hb
    · simp only [if_neg (hn b hb)]
      exact h.has b hb
    · obtain rfl := List.mem_singleton.1 hb
      simp
  · intro x hx
    have h1 : a.id ≠ x := hx a (by simp)
    simp only [if_neg (Ne.symm h1)]
    exact h.non x (fun b hb => hx b (by simp [hb]))
theorem AMap.perm {f : Int → Option Value} {o o' : List An} (h : AMap f o) (hp : o'.Perm o) : AMap f o' := ⟨fun a ha => h.has a (hp.mem_iff.1 ha), fun x hx => h.non x (fun a ha => hx a (hp.mem_iff.2 ha))⟩
def ikl (x : Int) : Lit := .int .i64 x
/-- A set lies in a block: for a text of n runes, anchors in their order. -/
def ASet (w : World) (sb : Nat) (n : Int) (o : List An) : Prop :=
  ∃ v mb nn f, RawAt 118 w sb #[.int .i64 n, v, .map (some mb)] ∧ w.ownsRow 0 36 3 v o.length (kfl encA o) ∧ MapV Try.prog 3 ikl w mb nn f ∧ AMap f o
theorem ASet.below {w w' : World} {sb : Nat} {n : Int} {o : List An} (h : ASet w sb n o) (hb : Below w.heap.size w w') : ASet w' sb n o := by
  obtain ⟨v, mb, nn, f, h1, h2, h3, h4⟩ := h
  exact ⟨v, mb, nn, f, h1.below hb h1.lt, own_below h2 hb, h3.below hb, h4⟩
theorem intK : KeyEnc Try.prog 3 (fun x : Int => .int .i64 x) ikl (fun x => (Lit.int .i64 x).wf = true) := intKey Try.underlying3
set_option maxHeartbeats 4000000 in
set_option maxRecDepth 100000 in
theorem aIn_any (a : An) (n : Int) (w : World) (r : Bool) (hr : r = true ↔ aOk n a) : Calls Try.prog 55 #[.agg #[.int .i64 a.id, .int .i64 a.pl, .int .i64 a.bi], .int .i64 n] w fun e w' => e = .returned (.bool r) ∧ Below w.heap.size w w' := by
  have x1 : Below w.heap.size w (w.alloc (.cells #[.int .i64 a.id, .int .i64 a.pl, .int .i64 a.bi] 36)) := (Below.refl _ _).alloc (Nat.le_refl _) _
  have R1 : RawAt 36 (w.alloc (.cells #[.int .i64 a.id, .int .i64 a.pl, .int .i64 a.bi] 36)) w.heap.size #[.int .i64 a.id, .int .i64 a.pl, .int .i64 a.bi] := heap_alloc_new w _
  have e1 := RawAt.cell R1 1
  have e2 := RawAt.cell R1 2
  simp at e1 e2
  have HX := Lib.hid x1
  clear R1 x1
  have HR : Hid (r = true ↔ 0 ≤ a.pl ∧ a.pl ≤ n ∧ (a.bi = 0 ∨ a.bi = 1)) := Lib.hid hr
  clear hr
  generalize a.id = ai at *
  generalize a.pl = ap at *
  generalize a.bi = ab at *
  by_cases h1 : 0 ≤ ap
  · have k1 : decide (0 ≤ ap) = true := decide_eq_true h1
    by_cases h2 : ap ≤ n
    · have k2 : decide (ap ≤ n) = true := decide_eq_true h2
      by_cases h3 : ab = 0
      · have k3 : decide (ab = 0) = true := decide_eq_true h3
        have k4 : (ab == 0) = true := by simp [h3]
        have H3 := Lib.hid h3
        clear h3
        obtain rfl : r = true := HR.out.2 ⟨h1, h2, .inl H3.out⟩
        go_enter Try.func55, Try.ntmps55
        go_wp2
        go_ret
        exact ⟨rfl, HX.out⟩
      · have k3 : decide (ab = 0) = false := decide_eq_false h3
        have k4 : (ab == 0) = false := by simp [h3]
        by_cases h4 : ab = 1
        · have k5 : decide (ab = 1) = true := decide_eq_true h4
          have k6 : (ab == 1) = true := by simp [h4]
          have H4 := Lib.hid h4
          clear h4 h3
          obtain rfl : r = true := HR.out.2 ⟨h1, h2, .inr H4.out⟩
          go_enter Try.func55, Try.ntmps55
          go_wp2
          go_ret
          exact ⟨rfl, HX.out⟩
        · have k5 : decide (ab = 1) = false := decide_eq_false h4
          have k6 : (ab == 1) = false := by simp [h4]
          obtain rfl : r = false := by cases r; rfl; exact absurd (HR.out.1 rfl) (by omega)
          go_enter Try.func55, Try.ntmps55
          go_wp2
          go_ret
          exact ⟨rfl, HX.out⟩
    · have k2 : decide (ap ≤ n) = false := decide_eq_false h2
      obtain rfl : r = false := by cases r; rfl; exact absurd (HR.out.1 rfl) (by omega)
      go_enter Try.func55, Try.ntmps55
      go_wp2
      go_ret
      exact ⟨rfl, HX.out⟩
  · have k1 : decide (0 ≤ ap) = false := decide_eq_false h1
    obtain rfl : r = false := by cases r; rfl; exact absurd (HR.out.1 rfl) (by omega)
    go_enter Try.func55, Try.ntmps55
    go_wp2
    go_ret
    exact ⟨rfl, HX.out⟩
end Go.Proofs.Ytncbhbjhfmbbkaa
