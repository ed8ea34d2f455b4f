/- A line's cells: plain facts. -/
import Derived.Test.YtpnjokhhbjpciaaGreatDoorStP
namespace Go.Proofs.YtpnjokhhbjpciaaGreatDoor
set_option linter.unusedVariables false
/-- A cell. -/
structure Cl where
  r : Int
  k : Int
  wd : Int
  p : Int
instance : Inhabited Cl := ⟨⟨0, 0, 0, 0⟩⟩
/-- A part: its kind, its place, its runes. -/
structure Pt where
  k : Int
  p : Int
  rs : List Int
/-- What a part shows. -/
def shown (x : Pt) : List Int := if x.k = 3 then [8230] else x.rs
/-- Runes at places, one behind the other: from the n'th on. -/
def placed (x : Pt) : Nat → List Int → List Cl
  | _, [] => []
  | n, r :: rs => ⟨r, x.k, 0, x.p + (if x.k = 1 then (n : Int) else 0)⟩ :: placed x (n + 1) rs
theorem placed_length (x : Pt) : ∀ (rs : List Int) (n : Nat), (placed x n rs).length = rs.length
  | [], _ => rfl
  | r :: rs, n => by simp [placed, placed_length x rs]
theorem placed_snoc (x : Pt) (r : Int) : ∀ (rs : List Int) (n : Nat), placed x n (rs ++ [r]) = placed x n rs ++ [⟨r, x.k, 0, x.p + (if x.k = 1 then ((n + rs.length : Nat) : Int) else 0)⟩]
  | [], n => by simp [placed]
  | y :: rs, n => by
    rw [List.cons_append, placed, placed, placed_snoc x r rs, List.cons_append]
    congr 4
    rw [List.length_cons]
    rw [show n + 1 + rs.length = n + (rs.length + 1) from by omega]
theorem placed_runes (x : Pt) : ∀ (rs : List Int) (n : Nat), (placed x n rs).map (·.r) = rs
  | [], _ => rfl
  | r :: rs, n => by simp [placed, placed_runes x rs]
def bareP (x : Pt) : List Cl := placed x 0 (shown x)
def bareL (l : List Pt) : List Cl := l.flatMap bareP
theorem bareL_snoc (l : List Pt) (x : Pt) : bareL (l ++ [x]) = bareL l ++ bareP x := by simp [bareL]
/-- A cell of a rune that takes so many. -/
def putC (c : Cl) (n : Int) : List Cl := if c.r = 9 then ⟨c.r, c.k, 1, c.p⟩ :: List.replicate (n - 1).toNat ⟨32, 4, 1, c.p⟩ else [⟨c.r, c.k, n, c.p⟩]
def putL : List Cl → List Int → List Cl
  | c :: cs, n :: ns => putC c n ++ putL cs ns
  | _, _ => []
theorem putL_snoc : ∀ (cs : List Cl) (ns : List Int) (c : Cl) (n : Int), cs.length = ns.length → putL (cs ++ [c]) (ns ++ [n]) = putL cs ns ++ putC c n
  | [], [], c, n, _ => by simp [putL]
  | x :: cs, m :: ns, c, n, h => by
    have := putL_snoc cs ns c n (by simpa using h)
    simp [putL, this]
def wsum (l : List Cl) : Int := (l.map (·.wd)).sum
theorem wsum_append (a b : List Cl) : wsum (a ++ b) = wsum a + wsum b := by simp [wsum, List.sum_append]
theorem wsum_rep (n : Nat) (p : Int) : wsum (List.replicate n ⟨32, 4, 1, p⟩) = n := by
  unfold wsum
  induction n with
  | zero => rfl
  | succ n ih => rw [List.replicate_succ, List.map_cons, List.sum_cons, ih]; simp; omega
theorem wsum_put (c : Cl) (n : Int) (h : c.r = 9 → 1 ≤ n) : wsum (putC c n) = n := by
  unfold putC
  split
  · rename_i e
    have := h e
    rw [show ∀ (x : Cl) (l : List Cl), x :: l = [x] ++ l from fun _ _ => rfl, wsum_append, wsum_rep]
    simp [wsum]; omega
  · simp [wsum]
/-- What the plain parts show, and where. -/
def pls (l : List Cl) : List (Int × Int) := (l.filter fun c => c.k == 1).map fun c => (c.r, c.p)
theorem pls_append (a b : List Cl) : pls (a ++ b) = pls a ++ pls b := by simp [pls]
theorem pls_put (c : Cl) (n : Int) : pls (putC c n) = pls [c] := by
  unfold putC pls
  split
  · by_cases h : c.k = 1
    · simp [h]
    · simp [h]
  · by_cases h : c.k = 1
    · simp [h]
    · simp [h]
theorem pls_putL : ∀ (cs : List Cl) (ns : List Int), cs.length = ns.length → pls (putL cs ns) = pls cs
  | [], [], _ => rfl
  | c :: cs, n :: ns, h => by
    rw [putL, pls_append, pls_put, pls_putL cs ns (by simpa using h), ← pls_append]
    rfl
end Go.Proofs.YtpnjokhhbjpciaaGreatDoor
