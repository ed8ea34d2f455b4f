/- Source, pure: the spots of a buffer, as the program goes (span by span) and as the document goes (place by place). Source, pure: the lines made of spots are the document's, place by place. Source, pure: lines follow one on another; what is plain in them is what is not hidden. Source, pure: the inlays that a spot passes; the spans from a line's beginning on; the lines from a beginning on. Source, pure: each line by its number. -/
import Derived.Test.YtpnjokhhbjpciaaGreatDoorStP
import Derived.Test.YtpnjokhhbjpciaaGreatDoorClP
namespace Go.Proofs.YtpnjokhhbjpciaaGreatDoor
set_option linter.unusedVariables false
/-- A spot: its place, what it has (0: a rune, 1: a hidden span, 2: an end), its rune. -/
structure Spot where
  at_ : Nat
  has : Nat
  own : Int
/-- The spot of a place that is not hidden. -/
def spotR (R : List Int) (i : Nat) : Spot := if R.getD i 0 = 10 then ⟨i, 2, 0⟩ else ⟨i, 0, R.getD i 0⟩
def seg (R : List Int) (a b : Nat) : List Spot := (List.range' a (b - a)).map (spotR R)
theorem seg_nil (R : List Int) (a : Nat) : seg R a a = [] := by simp [seg]
theorem seg_cons (R : List Int) {a b : Nat} (h : a < b) : seg R a b = spotR R a :: seg R (a + 1) b := by
  unfold seg
  obtain ⟨k, hk⟩ : ∃ k, b - a = k + 1 := ⟨b - a - 1, by omega⟩
  rw [hk, List.range'_succ, List.map_cons, show b - (a + 1) = k by omega]
/-- Hidden spans from a place on: rising, apart, not empty, up to n. -/
def HOk (n : Nat) : Nat → List (Nat × Nat) → Prop
  | a, [] => a ≤ n
  | a, x :: H => a ≤ x.1 ∧ x.1 < x.2 ∧ HOk n x.2 H
theorem HOk.le {n : Nat} : ∀ {a : Nat} {H : List (Nat × Nat)}, HOk n a H → a ≤ n
  | a, [], h => h
  | a, x :: H, h => by have := HOk.le h.2.2; have := h.1; have := h.2.1; omega
theorem HOk.ge {n : Nat} : ∀ {a : Nat} {H : List (Nat × Nat)}, HOk n a H → ∀ x ∈ H, a ≤ x.1 ∧ x.1 < x.2 ∧ x.2 ≤ n
  | a, [], h, x, hx => by cases hx
  | a, y :: H, h, x, hx => by
    rcases List.mem_cons.1 hx with rfl | hx
    · exact ⟨h.1, h.2.1, HOk.le h.2.2⟩
    · have := HOk.ge h.2.2 x hx
      have h1 := h.1
      have h2 := h.2.1
      omega
/-- The hidden span in which the rune behind a place is. -/
def hidAt (H : List (Nat × Nat)) (i : Nat) : Option (Nat × Nat) := H.find? fun x => decide (x.1 ≤ i ∧ i < x.2)
theorem hidAt_none {H : List (Nat × Nat)} {i : Nat} (h : ∀ x ∈ H, x.2 ≤ i ∨ i < x.1) : hidAt H i = none :=
  List.find?_eq_none.2 fun x hx => by have := h x hx; simp; omega
theorem hidAt_some {P T : List (Nat × Nat)} {x : Nat × Nat} {i : Nat} (h : ∀ y ∈ P, y.2 ≤ i) (hx : x.1 ≤ i ∧ i < x.2) : hidAt (P ++ x :: T) i = some x := by
  unfold hidAt
  rw [List.find?_append, List.find?_eq_none.2 (fun y hy => by have := h y hy; simp; omega), List.find?_cons, decide_eq_true hx]
  rfl
/-- The spots, span by span. -/
def spF (R : List Int) : Nat → List (Nat × Nat) → List Spot
  | a, [] => seg R a R.length ++ [⟨R.length, 2, 0⟩]
  | a, x :: H => seg R a x.1 ++ ⟨x.1, 1, 0⟩ :: spF R x.2 H
/-- The spots, place by place. -/
def sgo (R : List Int) (H : List (Nat × Nat)) : Nat → Nat → List Spot
  | 0, a => [⟨R.length, 2, 0⟩]
  | k + 1, a => if R.length ≤ a then [⟨R.length, 2, 0⟩] else
    match hidAt H a with
    | some x => ⟨a, 1, 0⟩ :: sgo R H k x.2
    | none => spotR R a :: sgo R H k (a + 1)
theorem spF_step (R : List Int) {a : Nat} {H : List (Nat × Nat)} (ha : a < R.length) (h : ∀ x ∈ H, a < x.1) : spF R a H = spotR R a :: spF R (a + 1) H := by
  cases H with
  | nil => unfold spF; rw [seg_cons R ha, List.cons_append]
  | cons x T => unfold spF; rw [seg_cons R (h x (List.mem_cons_self ..)), List.cons_append]
theorem HOk.up {n a : Nat} {H : List (Nat × Nat)} (h : HOk n a H) (ha : a < n) (hl : ∀ x ∈ H, a < x.1) : HOk n (a + 1) H := by
  cases H with
  | nil => exact ha
  | cons x T => exact ⟨hl x (List.mem_cons_self ..), h.2.1, h.2.2⟩
theorem spF_sgo (R : List Int) : ∀ (k a : Nat) (P H : List (Nat × Nat)), HOk R.length a H → (∀ y ∈ P, y.2 ≤ a) → R.length - a < k → spF R a H = sgo R (P ++ H) k a
  | 0, a, P, H, _, _, h => by omega
  | k + 1, a, P, H, hH, hP, hk => by
    have hle := hH.le
    unfold sgo
    by_cases hn : R.length ≤ a
    · rw [if_pos hn]
      obtain rfl : a = R.length := by omega
      cases H with
      | nil => unfold spF; rw [seg_nil]; rfl
      | cons x T => have := hH.ge x (List.mem_cons_self ..); omega
    · rw [if_neg hn]
      by_cases hx : ∃ x T, H = x :: T ∧ x.1 = a
      · obtain ⟨x, T, rfl, hxa⟩ := hx
        have h1 := hH.2.1
        rw [hidAt_some hP (by omega)]
        dsimp only
        have := spF_sgo R k x.2 (P ++ [x]) T hH.2.2 (fun y hy => by
          rcases List.mem_append.1 hy with hy | hy
          · have := hP y hy; omega
          · rw [List.mem_singleton.1 hy]; exact Nat.le_refl _) (by omega)
        rw [List.append_assoc] at this
        rw [show P ++ x :: T = P ++ ([x] ++ T) from rfl, ← this]
        unfold spF
        rw [hxa, seg_nil]
        cases T <;> rfl
      · have hl : ∀ x ∈ H, a < x.1 := fun x hx' => by
          cases H with
          | nil => cases hx'
          | cons y T =>
            have hy : a ≤ y.1 := hH.1
            have hne : y.1 ≠ a := fun e => hx ⟨y, T, rfl, e⟩
            have h1 := hH.2.1
            rcases List.mem_cons.1 hx' with rfl | hx'
            · omega
            · have := hH.2.2.ge x hx'; omega
        rw [hidAt_none (fun x hx' => by
          rcases List.mem_append.1 hx' with h | h
          · exact .inl (hP x h)
          · exact .inr (hl x h))]
        dsimp only
        rw [spF_step R (by omega) hl, spF_sgo R k (a + 1) P H (hH.up (by omega) hl) (fun y hy => by have := hP y hy; omega) (by omega)]
set_option linter.unusedVariables false
/-- A line: its parts, where it begins, where it ends. -/
structure SLn where
  ps : List Pt
  fr : Nat
  te : Nat
/-- A rune behind parts, as the program does it. -/
def plP (l : List Pt) (a : Nat) (r : Int) : List Pt :=
  match l.getLast? with
  | some x => if x.k = 1 then l.dropLast ++ [⟨1, x.p, x.rs ++ [r]⟩] else l ++ [⟨1, a, [r]⟩]
  | none => l ++ [⟨1, a, [r]⟩]
/-- A rune behind parts, as the document does it. -/
def plD (l : List Pt) (a : Nat) (r : Int) : List Pt :=
  match l.getLast? with
  | some x => if x.k = 1 ∧ x.p + x.rs.length = a then l.dropLast ++ [⟨1, x.p, x.rs ++ [r]⟩] else l ++ [⟨1, a, [r]⟩]
  | none => l ++ [⟨1, a, [r]⟩]
/-- A plain part at the end ends at a place. -/
def Jn (l : List Pt) (a : Nat) : Prop := ∀ x, l.getLast? = some x → x.k = 1 → x.p + x.rs.length = a
theorem Jn.nil (a : Nat) : Jn [] a := fun x h => by cases h
theorem Jn.other {l : List Pt} {y : Pt} (h : y.k ≠ 1) (a : Nat) : Jn (l ++ [y]) a := fun x hx hk => by
  rw [List.getLast?_concat] at hx
  injection hx with hx
  rw [← hx] at hk
  exact absurd hk h
theorem plP_plD {l : List Pt} {a : Nat} (h : Jn l a) (r : Int) : plP l a r = plD l a r := by
  unfold plP plD
  cases e : l.getLast? with
  | none => rfl
  | some x =>
    dsimp only
    by_cases g : x.k = 1
    · rw [if_pos g, if_pos ⟨g, h x e g⟩]
    · rw [if_neg g, if_neg (fun hh => g hh.1)]
theorem Jn.pl {l : List Pt} {a : Nat} (h : Jn l a) (r : Int) : Jn (plP l a r) (a + 1) := by
  unfold plP
  have one : ∀ l' : List Pt, Jn (l' ++ [⟨1, (a : Int), [r]⟩]) (a + 1) := fun l' x hx _ => by
    rw [List.getLast?_concat] at hx
    injection hx with hx
    rw [← hx]
    simp
  cases e : l.getLast? with
  | none => exact one l
  | some x =>
    dsimp only
    by_cases g : x.k = 1
    · rw [if_pos g]
      intro y hy _
      rw [List.getLast?_concat] at hy
      injection hy with hy
      have := h x e g
      rw [← hy]
      simp
      omega
    · rw [if_neg g]; exact one l
/-- The inlays (as parts) at a place. -/
def insAt (I : List Pt) (a : Nat) : List Pt := I.filter fun x => decide (x.p = (a : Int))
theorem Jn.ins {l I : List Pt} {a : Nat} (h : Jn l a) (hI : ∀ x ∈ I, x.k = 2) : Jn (l ++ insAt I a) a := by
  rcases List.eq_nil_or_concat (insAt I a) with e | ⟨L, y, e⟩
  · rw [e, List.append_nil]; exact h
  · have hy : y ∈ insAt I a := by rw [e]; simp
    rw [e, List.concat_eq_append, ← List.append_assoc]
    exact Jn.other (by rw [hI y (List.mem_filter.1 hy).1]; decide) a
/-- The lines, as the program goes through the spots: parts, the line's beginning, the inlays left. -/
def linesP : List Spot → List Pt → Nat → List Pt → List SLn
  | [], _, _, _ => []
  | s :: S, l, f, I =>
    let l1 := l ++ insAt I s.at_
    let I1 := I.filter fun x => decide ((s.at_ : Int) < x.p)
    if s.has = 0 then linesP S (plP l1 s.at_ s.own) f I1
    else if s.has = 1 then linesP S (l1 ++ [⟨3, s.at_, []⟩]) f I1
    else ⟨l1, f, s.at_⟩ :: linesP S [] (s.at_ + 1) I1
/-- The document's line, place by place. -/
def dAt (R : List Int) (H : List (Nat × Nat)) (I : List Pt) : Nat → Nat → Nat → List Pt → SLn
  | 0, a, f, l => ⟨l ++ insAt I a, f, a⟩
  | k + 1, a, f, l =>
    let l1 := l ++ insAt I a
    if R.length ≤ a then ⟨l1, f, a⟩ else
    match hidAt H a with
    | some x => dAt R H I k x.2 f (l1 ++ [⟨3, a, []⟩])
    | none => if R.getD a 0 = 10 then ⟨l1, f, a⟩ else dAt R H I k (a + 1) f (plD l1 a (R.getD a 0))
def dLine (R : List Int) (H : List (Nat × Nat)) (I : List Pt) (f : Nat) : SLn := dAt R H I (R.length + 1) f f []
/-- All lines: one behind the break of the one ahead, the last one up to the end. -/
def IsLines (R : List Int) (H : List (Nat × Nat)) (I : List Pt) : Nat → List SLn → Prop
  | _, [] => False
  | f, x :: L => x = dLine R H I f ∧ ((x.te = R.length ∧ L = []) ∨ (x.te < R.length ∧ IsLines R H I (x.te + 1) L))
theorem hidAt_in {H : List (Nat × Nat)} {i : Nat} {x : Nat × Nat} (h : hidAt H i = some x) : x ∈ H ∧ x.1 ≤ i ∧ i < x.2 := by
  have h1 := List.mem_of_find?_eq_some h
  have h2 := List.find?_some h
  exact ⟨h1, of_decide_eq_true h2⟩
theorem dAt_fuel {R : List Int} {H : List (Nat × Nat)} {I : List Pt} (hH : ∀ x ∈ H, x.2 ≤ R.length) : ∀ (k k' a f : Nat) (l : List Pt), R.length - a < k → R.length - a < k' → dAt R H I k a f l = dAt R H I k' a f l
  | 0, k', a, f, l, h, _ => by omega
  | k + 1, 0, a, f, l, _, h => by omega
  | k + 1, k' + 1, a, f, l, h1, h2 => by
    unfold dAt
    by_cases g : R.length ≤ a
    · rw [if_pos g, if_pos g]
    · rw [if_neg g, if_neg g]
      cases e : hidAt H a with
      | some x =>
        have hx := hidAt_in e
        have := hH x hx.1
        exact dAt_fuel hH k k' x.2 f _ (by omega) (by omega)
      | none =>
        dsimp only
        by_cases g2 : R.getD a 0 = 10
        · rw [if_pos g2, if_pos g2]
        · rw [if_neg g2, if_neg g2]
          exact dAt_fuel hH k k' (a + 1) f _ (by omega) (by omega)
theorem ins_left {I : List Pt} {b : Int} {a : Nat} (h : b < a) : insAt (I.filter fun x => decide (b < x.p)) a = insAt I a := by
  unfold insAt
  rw [List.filter_filter]
  congr 1
  funext x
  by_cases g : x.p = (a : Int)
  · simp [g, h]
  · simp [g]
theorem ins_next {I : List Pt} {b : Int} {a : Nat} (h : b < a) : ((I.filter fun x => decide (b < x.p)).filter fun x => decide ((a : Int) < x.p)) = I.filter fun x => decide ((a : Int) < x.p) := by
  rw [List.filter_filter]
  congr 1
  funext x
  by_cases g : (a : Int) < x.p
  · have : b < x.p := by omega
    simp [g, this]
  · simp [g]
theorem linesP_doc {R : List Int} {H : List (Nat × Nat)} {I : List Pt} (hH : ∀ x ∈ H, x.2 ≤ R.length) (hI : ∀ x ∈ I, x.k = 2) : ∀ (k a f : Nat) (l : List Pt) (b : Int), R.length - a < k → a ≤ R.length → b < a → Jn l a →
    ∃ x L, linesP (sgo R H k a) l f (I.filter fun x => decide (b < x.p)) = x :: L ∧ x = dAt R H I k a f l ∧ ((x.te = R.length ∧ L = []) ∨ (x.te < R.length ∧ IsLines R H I (x.te + 1) L))
  | 0, a, f, l, b, h, _, _, _ => by omega
  | k + 1, a, f, l, b, h, ha, hb, hj => by
    unfold sgo dAt
    by_cases g : R.length ≤ a
    · obtain rfl : a = R.length := by omega
      rw [if_pos g, if_pos g]
      unfold linesP
      dsimp only
      rw [if_neg (by decide), if_neg (by decide), ins_left hb]
      exact ⟨_, _, rfl, rfl, .inl ⟨rfl, rfl⟩⟩
    · rw [if_neg g, if_neg g]
      cases e : hidAt H a with
      | some x =>
        have hx := hidAt_in e
        have h2 := hH x hx.1
        dsimp only
        unfold linesP
        dsimp only
        rw [if_neg (by decide), if_pos rfl, ins_left hb, ins_next hb]
        exact linesP_doc hH hI k x.2 f _ a (by omega) h2 (by omega) (Jn.other (by show (3 : Int) ≠ 1; decide) _)
      | none =>
        dsimp only
        unfold spotR
        by_cases g2 : R.getD a 0 = 10
        · rw [if_pos g2, if_pos g2]
          unfold linesP
          dsimp only
          rw [if_neg (by decide), if_neg (by decide), ins_left hb, ins_next hb]
          refine ⟨_, _, rfl, rfl, .inr ⟨(by omega : a < R.length), ?_⟩⟩
          obtain ⟨y, L, e1, e2, e3⟩ := linesP_doc hH hI k (a + 1) (a + 1) [] a (by omega) (by omega) (by omega) (Jn.nil _)
          rw [e1]
          exact ⟨by rw [e2]; exact dAt_fuel hH _ _ _ _ _ (by omega) (by omega), e3⟩
        · rw [if_neg g2, if_neg g2]
          unfold linesP
          dsimp only
          rw [if_pos rfl, ins_left hb, ins_next hb, ← plP_plD (Jn.ins hj hI)]
          exact linesP_doc hH hI k (a + 1) f _ a (by omega) (by omega) (by omega) (Jn.pl (Jn.ins hj hI) _)
set_option linter.unusedVariables false
/-- No break in what is shown of parts. -/
def NoBr (l : List Pt) : Prop := ∀ y ∈ l, y.k ≠ 3 → (10 : Int) ∉ y.rs
theorem NoBr.app {l m : List Pt} (h : NoBr l) (g : NoBr m) : NoBr (l ++ m) := fun y hy => by
  rcases List.mem_append.1 hy with hy | hy
  · exact h y hy
  · exact g y hy
theorem NoBr.ins {I : List Pt} (h : NoBr I) (a : Nat) : NoBr (insAt I a) := fun y hy => h y (List.mem_filter.1 hy).1
/-- The plain runes of parts. -/
def kpl (l : List Pt) : List Int := l.flatMap fun y => if y.k = 1 then y.rs else []
theorem kpl_app (l m : List Pt) : kpl (l ++ m) = kpl l ++ kpl m := by simp [kpl]
theorem kpl_ins {I : List Pt} (hI : ∀ x ∈ I, x.k = 2) (a : Nat) : kpl (insAt I a) = [] := by
  unfold kpl
  rw [List.flatMap_eq_nil_iff]
  intro y hy
  rw [if_neg (by rw [hI y (List.mem_filter.1 hy).1]; decide)]
theorem plD_cases (l : List Pt) (a : Nat) (r : Int) : (plD l a r = l ++ [⟨1, a, [r]⟩]) ∨ ∃ l' x, l = l' ++ [x] ∧ x.k = 1 ∧ plD l a r = l' ++ [⟨1, x.p, x.rs ++ [r]⟩] := by
  unfold plD
  cases e : l.getLast? with
  | none => exact .inl rfl
  | some x =>
    dsimp only
    by_cases g : x.k = 1 ∧ x.p + x.rs.length = a
    · rw [if_pos g]
      have hne : l ≠ [] := fun h => by rw [h] at e; cases e
      have hx : l.getLast hne = x := by rw [List.getLast?_eq_some_getLast hne] at e; injection e
      exact .inr ⟨l.dropLast, x, by rw [← hx]; exact (List.dropLast_concat_getLast hne).symm, g.1, rfl⟩
    · rw [if_neg g]; exact .inl rfl
theorem kpl_plD (l : List Pt) (a : Nat) (r : Int) : kpl (plD l a r) = kpl l ++ [r] := by
  rcases plD_cases l a r with e | ⟨l', x, rfl, hx, e⟩
  · rw [e, kpl_app]; simp [kpl]
  · rw [e, kpl_app, kpl_app, List.append_assoc]; simp [kpl, hx]
theorem NoBr.plD {l : List Pt} (h : NoBr l) (a : Nat) {r : Int} (hr : r ≠ 10) : NoBr (plD l a r) := by
  rcases plD_cases l a r with e | ⟨l', x, rfl, hx, e⟩
  · rw [e]
    refine NoBr.app h fun y hy _ => ?_
    rw [List.mem_singleton.1 hy]
    simpa using fun hh => hr hh.symm
  · rw [e]
    refine NoBr.app (fun y hy => h y (List.mem_append_left _ hy)) fun y hy _ => ?_
    rw [List.mem_singleton.1 hy]
    have := h x (by simp) (by rw [hx]; decide)
    simp only [List.mem_append, List.mem_singleton, not_or]
    exact ⟨this, fun hh => hr hh.symm⟩
/-- What is not hidden from a place on, up to another one. -/
def vis (R : List Int) (H : List (Nat × Nat)) (a b : Nat) : List Int := (List.range' a (b - a)).flatMap fun i => if (hidAt H i).isNone then [R.getD i 0] else []
theorem vis_nil (R : List Int) (H : List (Nat × Nat)) (a : Nat) : vis R H a a = [] := by simp [vis]
theorem vis_cons (R : List Int) (H : List (Nat × Nat)) {a b : Nat} (h : a < b) : vis R H a b = (if (hidAt H a).isNone then [R.getD a 0] else []) ++ vis R H (a + 1) b := by
  unfold vis
  obtain ⟨k, hk⟩ : ∃ k, b - a = k + 1 := ⟨b - a - 1, by omega⟩
  rw [hk, List.range'_succ, List.flatMap_cons, show b - (a + 1) = k by omega]
theorem vis_app (R : List Int) (H : List (Nat × Nat)) : ∀ (k a b c : Nat), b - a = k → a ≤ b → b ≤ c → vis R H a c = vis R H a b ++ vis R H b c
  | 0, a, b, c, h, h1, h2 => by obtain rfl : a = b := by omega
                                rw [vis_nil, List.nil_append]
  | k + 1, a, b, c, h, h1, h2 => by rw [vis_cons R H (by omega : a < c), vis_cons R H (by omega : a < b), vis_app R H k (a + 1) b c (by omega) (by omega) h2, List.append_assoc]
theorem vis_hid (R : List Int) {H : List (Nat × Nat)} {x : Nat × Nat} (hx : x ∈ H) : ∀ (k a : Nat), x.2 - a = k → x.1 ≤ a → a ≤ x.2 → vis R H a x.2 = []
  | 0, a, h, h1, h2 => by obtain rfl : a = x.2 := by omega
                          exact vis_nil R H _
  | k + 1, a, h, h1, h2 => by
    rw [vis_cons R H (by omega), vis_hid R hx k (a + 1) (by omega) (by omega) (by omega)]
    have : (hidAt H a).isNone = false := by
      cases e : hidAt H a with
      | some y => rfl
      | none =>
        have := List.find?_eq_none.1 e x hx
        simp at this
        omega
    rw [this]
    rfl
/-- A line begins where it is told, ends at a shown break or at the end, shows no break, and keeps what is not hidden. -/
theorem dAt_row {R : List Int} {H : List (Nat × Nat)} {I : List Pt} (hH : ∀ x ∈ H, x.2 ≤ R.length) (hI : ∀ x ∈ I, x.k = 2) (hN : NoBr I) : ∀ (k a f : Nat) (l : List Pt), R.length - a < k → a ≤ R.length → NoBr l →
    (dAt R H I k a f l).fr = f ∧ a ≤ (dAt R H I k a f l).te ∧ (dAt R H I k a f l).te ≤ R.length ∧ ((dAt R H I k a f l).te < R.length → R.getD (dAt R H I k a f l).te 0 = 10 ∧ hidAt H (dAt R H I k a f l).te = none) ∧ NoBr (dAt R H I k a f l).ps ∧ kpl (dAt R H I k a f l).ps = kpl l ++ vis R H a (dAt R H I k a f l).te
  | 0, a, f, l, h, _, _ => by omega
  | k + 1, a, f, l, h, ha, hl => by
    have h1 : NoBr (l ++ insAt I a) := hl.app (hN.ins a)
    have h2 : kpl (l ++ insAt I a) = kpl l := by rw [kpl_app, kpl_ins hI, List.append_nil]
    unfold dAt
    by_cases g : R.length ≤ a
    · rw [if_pos g]
      exact ⟨rfl, Nat.le_refl _, ha, fun hh => absurd g (by show ¬ _; exact Nat.not_le.2 hh), h1, by show kpl (l ++ insAt I a) = _; rw [h2, vis_nil, List.append_nil]⟩
    · rw [if_neg g]
      cases e : hidAt H a with
      | some x =>
        have hx := hidAt_in e
        have h3 := hH x hx.1
        dsimp only
        obtain ⟨r1, r2, r3, r4, r5, r6⟩ := dAt_row hH hI hN k x.2 f (l ++ insAt I a ++ [⟨3, a, []⟩]) (by omega) h3 (h1.app fun y hy hk => absurd (by rw [List.mem_singleton.1 hy]) hk)
        refine ⟨r1, by omega, r3, r4, r5, ?_⟩
        rw [r6, kpl_app, h2, vis_app R H _ a x.2 _ rfl (by omega) r2, vis_hid R hx.1 _ a rfl hx.2.1 (by omega)]
        simp [kpl]
      | none =>
        dsimp only
        by_cases g2 : R.getD a 0 = 10
        · rw [if_pos g2]
          exact ⟨rfl, Nat.le_refl _, ha, fun _ => ⟨g2, e⟩, h1, by show kpl (l ++ insAt I a) = _; rw [h2, vis_nil, List.append_nil]⟩
        · rw [if_neg g2]
          obtain ⟨r1, r2, r3, r4, r5, r6⟩ := dAt_row hH hI hN k (a + 1) f (plD (l ++ insAt I a) a (R.getD a 0)) (by omega) (by omega) (h1.plD a g2)
          refine ⟨r1, by omega, r3, r4, r5, ?_⟩
          rw [r6, kpl_plD, h2, vis_cons R H (by omega : a < _), e]
          simp
/-- The plain runes of lines, with the breaks between. -/
def allK : List SLn → List Int
  | [] => []
  | [x] => kpl x.ps
  | x :: y :: L => kpl x.ps ++ 10 :: allK (y :: L)
theorem IsLines.keeps {R : List Int} {H : List (Nat × Nat)} {I : List Pt} (hH : ∀ x ∈ H, x.2 ≤ R.length) (hI : ∀ x ∈ I, x.k = 2) (hN : NoBr I) : ∀ (L : List SLn) (f : Nat), f ≤ R.length → IsLines R H I f L → allK L = vis R H f R.length
  | [], f, _, h => h.elim
  | x :: L, f, hf, h => by
    obtain ⟨e, h⟩ := h
    obtain ⟨r1, r2, r3, r4, r5, r6⟩ := dAt_row hH hI hN (R.length + 1) f f [] (by omega) hf (fun y hy => by cases hy)
    rw [show dAt R H I (R.length + 1) f f [] = x from e.symm] at r1 r2 r3 r4 r5 r6
    rcases h with ⟨h1, rfl⟩ | ⟨h1, h2⟩
    · show kpl x.ps = _
      rw [r6, h1]
      simp [kpl]
    · cases L with
      | nil => exact h2.elim
      | cons y L =>
        obtain ⟨r7, r8⟩ := r4 h1
        show kpl x.ps ++ 10 :: allK (y :: L) = _
        rw [IsLines.keeps hH hI hN (y :: L) (x.te + 1) (by omega) h2, r6, vis_app R H _ f x.te R.length rfl r2 (by omega), vis_cons R H h1, r8, r7]
        simp [kpl]
set_option linter.unusedVariables false
/-- The program's loop: inlays ahead of a place fall away, those at it are parts. -/
def popI (a : Nat) : List Pt → List Pt → List Pt × List Pt
  | l, [] => (l, [])
  | l, x :: I => if x.p ≤ (a : Int) then popI a (if x.p = (a : Int) then l ++ [x] else l) I else (l, x :: I)
theorem popI_eq (a : Nat) : ∀ (I l : List Pt), I.Pairwise (fun x y => x.p ≤ y.p) → popI a l I = (l ++ insAt I a, I.filter fun x => decide ((a : Int) < x.p))
  | [], l, _ => by simp [popI, insAt]
  | x :: I, l, h => by
    obtain ⟨h1, h2⟩ := List.pairwise_cons.1 h
    unfold popI
    by_cases g : x.p ≤ (a : Int)
    · rw [if_pos g, popI_eq a I _ h2]
      have g2 : ¬ (a : Int) < x.p := by omega
      by_cases e : x.p = (a : Int)
      · simp [insAt, e]
      · simp [insAt, e, g2]
    · rw [if_neg g]
      have n1 : insAt (x :: I) a = [] := by
        unfold insAt
        rw [List.filter_eq_nil_iff]
        intro y hy
        rcases List.mem_cons.1 hy with rfl | hy
        · simp; omega
        · have := h1 y hy; simp; omega
      have n2 : ((x :: I).filter fun x => decide ((a : Int) < x.p)) = x :: I := by
        rw [List.filter_eq_self]
        intro y hy
        rcases List.mem_cons.1 hy with rfl | hy
        · simp; omega
        · have := h1 y hy; simp; omega
      rw [n1, n2, List.append_nil]
/-- Hidden spans part at a place that is in none of them. -/
theorem HOk.part {n f : Nat} (hf : f ≤ n) : ∀ {a : Nat} {H : List (Nat × Nat)}, HOk n a H → (∀ x ∈ H, x.1 < f → x.2 ≤ f) → (a ≤ f ∨ ∀ x ∈ H, f ≤ x.1) →
    ∃ P, H = P ++ H.filter (fun x => decide (f ≤ x.1)) ∧ (∀ y ∈ P, y.2 ≤ f) ∧ HOk n f (H.filter fun x => decide (f ≤ x.1))
  | a, [], h, hx, _ => ⟨[], rfl, fun y hy => (by cases hy), hf⟩
  | a, x :: H, h, hx, ha => by
    by_cases g : f ≤ x.1
    · have hall : ∀ y ∈ x :: H, f ≤ y.1 := fun y hy => by
        rcases List.mem_cons.1 hy with rfl | hy
        · exact g
        · have h1 := h.2.1
          have := h.2.2.ge y hy
          omega
      have e : ((x :: H).filter fun x => decide (f ≤ x.1)) = x :: H := List.filter_eq_self.2 fun y hy => decide_eq_true (hall y hy)
      rw [e]
      exact ⟨[], rfl, fun y hy => (by cases hy), g, h.2.1, h.2.2⟩
    · have h2 := hx x (List.mem_cons_self ..) (by omega)
      obtain ⟨P, e1, e2, e3⟩ := HOk.part hf h.2.2 (fun y hy => hx y (List.mem_cons_of_mem _ hy)) (.inl h2)
      have e : ((x :: H).filter fun x => decide (f ≤ x.1)) = H.filter fun x => decide (f ≤ x.1) := by rw [List.filter_cons_of_neg (by simp; omega)]
      rw [e]
      refine ⟨x :: P, by rw [List.cons_append, ← e1], fun y hy => ?_, e3⟩
      rcases List.mem_cons.1 hy with rfl | hy
      · exact h2
      · exact e2 y hy
/-- Does a line begin at a place? -/
def beginsAt (R : List Int) (H : List (Nat × Nat)) (f : Nat) : Prop := f = 0 ∨ (0 < f ∧ f - 1 < R.length ∧ R.getD (f - 1) 0 = 10 ∧ hidAt H (f - 1) = none)
theorem begins_apart {R : List Int} {H : List (Nat × Nat)} {f : Nat} (h : beginsAt R H f) : ∀ x ∈ H, x.1 < f → x.2 ≤ f := fun x hx hlt => by
  rcases h with rfl | ⟨h1, h2, h3, h4⟩
  · omega
  · have := List.find?_eq_none.1 h4 x hx
    simp at this
    have := this (by omega)
    omega
theorem begins_le {R : List Int} {H : List (Nat × Nat)} {f : Nat} (h : beginsAt R H f) : f ≤ R.length := by
  rcases h with rfl | ⟨h1, h2, _⟩ <;> omega
/-- The program's lines from a beginning on are the document's. -/
theorem src_lines {R : List Int} {H : List (Nat × Nat)} {I : List Pt} (hO : HOk R.length 0 H) (hI : ∀ x ∈ I, x.k = 2) {f : Nat} (hf : beginsAt R H f) :
    IsLines R H I f (linesP (spF R f (H.filter fun x => decide (f ≤ x.1))) [] f (I.filter fun x => decide ((f : Int) ≤ x.p))) := by
  have hle := begins_le hf
  have hH : ∀ x ∈ H, x.2 ≤ R.length := fun x hx => (hO.ge x hx).2.2
  obtain ⟨P, e1, e2, e3⟩ := hO.part hle (begins_apart hf) (.inl (Nat.zero_le _))
  rw [spF_sgo R (R.length + 1) f P _ e3 e2 (by omega), ← e1]
  obtain ⟨x, L, g1, g2, g3⟩ := linesP_doc hH hI (R.length + 1) f f [] ((f : Int) - 1) (by omega) hle (by omega) (Jn.nil _)
  have eI : (I.filter fun x => decide ((f : Int) ≤ x.p)) = I.filter fun x => decide ((f : Int) - 1 < x.p) := by
    congr 1
    funext x
    by_cases h : (f : Int) ≤ x.p
    · rw [decide_eq_true h, decide_eq_true (by omega)]
    · rw [decide_eq_false h, decide_eq_false (by omega)]
  rw [eI, g1]
  exact ⟨g2, g3⟩
set_option linter.unusedVariables false
theorem IsLines.ne {R : List Int} {H : List (Nat × Nat)} {I : List Pt} {f : Nat} {L : List SLn} (h : IsLines R H I f L) : L ≠ [] := fun e => by rw [e] at h; exact h
theorem IsLines.nth {R : List Int} {H : List (Nat × Nat)} {I : List Pt} (hH : ∀ x ∈ H, x.2 ≤ R.length) (hI : ∀ x ∈ I, x.k = 2) (hN : NoBr I) : ∀ (L : List SLn) (f : Nat), f ≤ R.length → IsLines R H I f L → ∀ (i : Nat) (x : SLn), L[i]? = some x →
    x = dLine R H I x.fr ∧ x.fr ≤ x.te ∧ x.te ≤ R.length ∧ NoBr x.ps ∧ (i = 0 → x.fr = f) ∧ (i + 1 = L.length → x.te = R.length) ∧ (i + 1 < L.length → x.te < R.length ∧ R.getD x.te 0 = 10 ∧ ∃ y, L[i + 1]? = some y ∧ y.fr = x.te + 1)
  | [], f, _, h, _, _, _ => h.elim
  | z :: L, f, hf, h, i, x, hx => by
    obtain ⟨e, h⟩ := h
    obtain ⟨r1, r2, r3, r4, r5, _⟩ := dAt_row hH hI hN (R.length + 1) f f [] (by omega) hf (fun y hy => by cases hy)
    rw [show dAt R H I (R.length + 1) f f [] = z from e.symm] at r1 r2 r3 r4 r5
    cases i with
    | zero =>
      have hz : z = x := by simpa using hx
      subst hz
      refine ⟨by rw [r1]; exact e, by rw [r1]; exact r2, r3, r5, fun _ => r1, fun hl => ?_, fun hl => ?_⟩
      · rcases h with ⟨h1, _⟩ | ⟨_, h2⟩
        · exact h1
        · have : L = [] := List.eq_nil_of_length_eq_zero (by simpa using hl.symm)
          exact absurd this h2.ne
      · rcases h with ⟨_, rfl⟩ | ⟨h1, h2⟩
        · simp at hl
        · refine ⟨h1, (r4 h1).1, ?_⟩
          cases L with
          | nil => exact h2.elim
          | cons y L =>
            have := (IsLines.nth hH hI hN (y :: L) (z.te + 1) (by omega) h2 0 y rfl).2.2.2.2.1 rfl
            exact ⟨y, rfl, this⟩
    | succ i =>
      rcases h with ⟨_, rfl⟩ | ⟨h1, h2⟩
      · simp at hx
      · have hx2 : L[i]? = some x := by simpa using hx
        obtain ⟨s1, s2, s3, s4, _, s6, s7⟩ := IsLines.nth hH hI hN L (z.te + 1) (by omega) h2 i x hx2
        refine ⟨s1, s2, s3, s4, fun hh => by omega, fun hl => s6 (by simpa using hl), fun hl => ?_⟩
        have := s7 (by simpa using hl)
        simpa using this
end Go.Proofs.YtpnjokhhbjpciaaGreatDoor
