/- What is said of a cursor: its cells; worlds that agree but on two blocks. -/
import Derived.Test.YtbbplppcabeojaaTreeQ
namespace Go.Proofs.Ytbbplppcabeojaa
open Go.RowKit
/-- Worlds that agree on all that was there, but on two blocks. -/
structure Off (b c : Nat) (w w' : World) : Prop where
  os : w'.os = w.os
  tape : w'.tape = w.tape
  output : w'.output = w.output
  size : w.heap.size ≤ w'.heap.size
  rest : ∀ k, k < w.heap.size → k ≠ b → k ≠ c → w'.heap[k]? = w.heap[k]?
theorem Off.refl (b c : Nat) (w : World) : Off b c w w := ⟨rfl, rfl, rfl, Nat.le_refl _, fun _ _ _ _ => rfl⟩
theorem Off.trans {b c : Nat} {u v w : World} (h : Off b c u v) (g : Off b c v w) : Off b c u w :=
  ⟨g.os.trans h.os, g.tape.trans h.tape, g.output.trans h.output, Nat.le_trans h.size g.size, fun k hk h1 h2 => (g.rest k (Nat.lt_of_lt_of_le hk h.size) h1 h2).trans (h.rest k hk h1 h2)⟩
theorem Off.of {b c : Nat} {w w' : World} (h : Below w.heap.size w w') : Off b c w w' := ⟨h.os, h.tape, h.output, h.size, fun k hk _ _ => h.block k hk⟩
theorem Off.left {b c : Nat} {w w' : World} (h : Off b b w w') : Off b c w w' := ⟨h.os, h.tape, h.output, h.size, fun k hk h1 _ => h.rest k hk h1 h1⟩
theorem Off.right {b c : Nat} {w w' : World} (h : Off c c w w') : Off b c w w' := ⟨h.os, h.tape, h.output, h.size, fun k hk _ h1 => h.rest k hk h1 h1⟩
theorem Off.below {b c B : Nat} {w w' : World} (h : Off b c w w') (h1 : B ≤ b) (h2 : B ≤ c) (h3 : B ≤ w.heap.size) : Below B w w' := ⟨h.os, h.tape, h.output, h.size, fun k hk => h.rest k (by omega) (by omega) (by omega)⟩
theorem Off.raw {b c b' : Nat} {t : TypeId} {cs : Array Value} {w w' : World} (h : Off b c w w') (hr : RawAt t w b' cs) (h1 : b' ≠ b) (h2 : b' ≠ c) : RawAt t w' b' cs := (h.rest b' (RawAt.lt hr) h1 h2).trans hr
theorem Off.set {b : Nat} {w w' : World} (h : Off b b w w') (k : Nat) (v : Value) : Off b b w (w'.setCell ⟨b, k, none⟩ v) :=
  h.trans ⟨rfl, rfl, rfl, by simp [World.setCell], fun k' _ h1 _ => Below.heap_setCell _ _ _ _ h1⟩
theorem fld_n6 (a b c d e g : Int) (w : World) : (Instr.field 52 (.agg #[.int .i64 a, .int .i64 b, .int .i64 c, .int .i64 d, .int .i64 e, .int .i64 g]) 0).run Try.prog w = .ok (.int .i64 a) w := by kernel_rfl
/-- A cursor's cells. -/
def ccs (a : Addr) (s : S6) : Array Value := #[.pointer (some a), .int .i64 s.n, .int .i64 s.d0, .int .i64 s.d1, .int .i64 s.d2, .int .i64 s.mx, .int .i64 s.pl]
theorem raw_ccs {t : TypeId} {w : World} {b : Nat} {a : Addr} {s : S6} (h : RawAt t w b (ccs a s)) : w.cell? ⟨b, 0, none⟩ = some (.pointer (some a)) ∧ w.cell? ⟨b, 1, none⟩ = some (.int .i64 s.n) ∧ w.cell? ⟨b, 2, none⟩ = some (.int .i64 s.d0) ∧ w.cell? ⟨b, 3, none⟩ = some (.int .i64 s.d1) ∧ w.cell? ⟨b, 4, none⟩ = some (.int .i64 s.d2) ∧ w.cell? ⟨b, 5, none⟩ = some (.int .i64 s.mx) ∧ w.cell? ⟨b, 6, none⟩ = some (.int .i64 s.pl) :=
  ⟨RawAt.cell h 0, RawAt.cell h 1, RawAt.cell h 2, RawAt.cell h 3, RawAt.cell h 4, RawAt.cell h 5, RawAt.cell h 6⟩
/-- A cursor lies in block b, at the item k of a tree that lies at a; the tree stays there whatever becomes of b and of another block c. -/
structure CAt (T : World → Addr → List I7 → Nat → Prop) (w : World) (b c : Nat) (a : Addr) (l : List I7) (h k : Nat) : Prop where
  raw : RawAt 97 w b (ccs a (sall (l.take k)))
  tree : ∀ W, Off b c w W → T W a l h
  le : k ≤ l.length
  ok : Okl l
  len : l.length ≤ 30000
section
variable {T : World → Addr → List I7 → Nat → Prop} {w w' : World} {b c : Nat} {a : Addr} {l : List I7} {h k : Nat}
theorem CAt.lt (C : CAt T w b c a l h k) : b < w.heap.size := RawAt.lt C.raw
theorem CAt.move {m : Nat} (C : CAt T w b c a l h k) (ho : Off b c w w') (hr : RawAt 97 w' b (ccs a (sall (l.take m)))) (hm : m ≤ l.length) : CAt T w' b c a l h m :=
  ⟨hr, fun W hW => C.tree W (ho.trans hW), hm, C.ok, C.len⟩
theorem CAt.keep (C : CAt T w b c a l h k) (hb : Below w.heap.size w w') : CAt T w' b c a l h k := C.move (Off.of hb) (RawAt.below C.raw hb C.lt) C.le
theorem CAt.other (C : CAt T w b c a l h k) (hne : b ≠ c) (hb : Off c c w w') : CAt T w' b c a l h k := C.move hb.right (hb.raw C.raw hne hne) C.le
theorem CAt.n (C : CAt T w b c a l h k) : (sall (l.take k)).n = (k : Int) := by
  rw [(sall_ok _ (l.take k) rfl (C.ok.take_ k)).1, List.length_take, Nat.min_eq_left C.le]
theorem CAt.sok (C : CAt T w b c a l h k) : SOk (sall (l.take k)) k := by
  have := sall_ok _ (l.take k) rfl (C.ok.take_ k)
  rwa [List.length_take, Nat.min_eq_left C.le] at this
end
end Go.Proofs.Ytbbplppcabeojaa
