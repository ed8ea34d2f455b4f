/- Patches: plain facts on normal patches, on the pieces that they keep, and on what two of them do: nothing of the program. -/
import Derived.Test.YtjkmkobnfhepaaaGreatBase
namespace Go.Proofs.YtjkmkobnfhepaaaGreat
open Go.RowKit
/-- A change: what stood in the places from oa to ob stands in those from na to nb. -/
structure Ch where
  oa : Int
  ob : Int
  na : Int
  nb : Int
/-- A piece that is kept. -/
structure Pc where
  o : Int
  w : Int
  n : Int
/-- Where a place goes that is kept, behind a change that ends at p, and at q now. -/
def kp (p q : Int) : List Ch → Int → Int
  | [], at_ => at_ + (q - p)
  | c :: l, at_ => if at_ < c.oa then at_ + (q - p) else if at_ < c.ob then -1 else kp c.ob c.nb l at_
/-- The pieces that are kept. -/
def pcs (L p q : Int) : List Ch → List Pc
  | [] => [⟨p, q, L⟩]
  | c :: l => (if 0 < c.oa - p then [⟨p, q, c.oa - p⟩] else []) ++ pcs L c.ob c.nb l
/-- What both keep. -/
def inter : List Pc → List Pc → List Pc
  | [], _ => []
  | _ :: _, [] => []
  | p :: ps, q :: qs =>
    (if max p.w q.o < min (p.w + p.n) (q.o + q.n) then [⟨p.o + max p.w q.o - p.w, q.w + max p.w q.o - q.o, min (p.w + p.n) (q.o + q.n) - max p.w q.o⟩] else []) ++
      (if p.w + p.n < q.o + q.n then inter ps (q :: qs) else inter (p :: ps) qs)
  termination_by a b => a.length + b.length
/-- The changes between pieces. -/
def chg (p q : Int) : List Pc → List Ch
  | [] => []
  | x :: xs => (if x.o - p = 0 ∧ x.w - q = 0 then [] else [⟨p, x.o, q, x.w⟩]) ++ chg (x.o + x.n) (x.w + x.n) xs
/-- A patch and, behind it, another one. -/
def cmp (L : Int) (a b : List Ch) : List Ch := chg 0 0 (inter (pcs L 0 0 a) (pcs L 0 0 b))
end Go.Proofs.YtjkmkobnfhepaaaGreat
