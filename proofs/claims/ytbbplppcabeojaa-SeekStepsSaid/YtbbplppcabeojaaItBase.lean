/- Items in memory: their cells; the contracts of the functions that take one apart and of those that copy one. -/
import Derived.Test.YtbbplppcabeojaaItemPure
import Derived.Test.YtbbplppcabeojaaRaw
namespace Go.Proofs.Ytbbplppcabeojaa
open Go.RowKit
/-- The cells of an item, and of a sum of items. -/
def ics (i : I7) : Array Value := #[.int .i64 i.tag, .int .i64 i.id, .int .i64 i.d0, .int .i64 i.d1, .int .i64 i.d2, .int .i64 i.mx, .string i.tx]
def scs (s : S6) : Array Value := #[.int .i64 s.n, .int .i64 s.d0, .int .i64 s.d1, .int .i64 s.d2, .int .i64 s.mx, .int .i64 s.pl]
/-- Items, seven cells each, from an address on; nothing is asked where there are none. -/
def ItsAt (w : World) (A : Option Addr) (l : List I7) : Prop :=
  0 < l.length → ∃ b off, A = some ⟨b, off, none⟩ ∧ b < w.heap.size ∧ ∀ k, k < l.length → w.cell? ⟨b, off + k * 7, none⟩ = some (.int .i64 (ith l k).tag) ∧ w.cell? ⟨b, off + k * 7 + 1, none⟩ = some (.int .i64 (ith l k).id) ∧
    w.cell? ⟨b, off + k * 7 + 2, none⟩ = some (.int .i64 (ith l k).d0) ∧ w.cell? ⟨b, off + k * 7 + 3, none⟩ = some (.int .i64 (ith l k).d1) ∧ w.cell? ⟨b, off + k * 7 + 4, none⟩ = some (.int .i64 (ith l k).d2) ∧
    w.cell? ⟨b, off + k * 7 + 5, none⟩ = some (.int .i64 (ith l k).mx) ∧ w.cell? ⟨b, off + k * 7 + 6, none⟩ = some (.string (ith l k).tx)
theorem ItsAt.below {w w' : World} {A : Option Addr} {l : List I7} (h : ItsAt w A l) (hb : Below w.heap.size w w') : ItsAt w' A l := by
  intro hl
  obtain ⟨b, off, rfl, h1, h2⟩ := h hl
  refine ⟨b, off, rfl, Nat.lt_of_lt_of_le h1 hb.size, fun k hk => ?_⟩
  obtain ⟨a0, a1, a2, a3, a4, a5, a6⟩ := h2 k hk
  have H := (old_cells hb).1
  exact ⟨(H _ _ h1).trans a0, (H _ _ h1).trans a1, (H _ _ h1).trans a2, (H _ _ h1).trans a3, (H _ _ h1).trans a4, (H _ _ h1).trans a5, (H _ _ h1).trans a6⟩
set_option maxHeartbeats 1000000 in
theorem iof_any (i : I7) (w : World) : Calls Try.prog 69 #[.agg (ics i)] w fun e w' => e = .returned (.agg (scs (sof i))) ∧ Below w.heap.size w w' := by
  unfold ics scs sof
  go_enter Try.func69, Try.ntmps69
  go_wp2
  refine bodyPost_ret (v := .agg #[.int .i64 1, .int .i64 i.d0, .int .i64 i.d1, .int .i64 i.d2, .int .i64 i.mx, .int .i64 0]) (by simp [results, Try.results69, go_sem]) rfl ⟨rfl, ?_⟩
  (repeat' (first | (with_reducible exact Below.refl _ _) | (with_reducible refine Below.setCell ?_ ?_ _) | (with_reducible refine Below.drew ?_) | (with_reducible refine Below.alloc ?_ ?_ _))) <;> first | exact Nat.le_refl _ | (simp; done) | (simp; omega)
theorem raw_ics {t : TypeId} {w : World} {b : Nat} {i : I7} (h : RawAt t w b (ics i)) : w.cell? ⟨b, 0, none⟩ = some (.int .i64 i.tag) ∧ w.cell? ⟨b, 1, none⟩ = some (.int .i64 i.id) ∧ w.cell? ⟨b, 2, none⟩ = some (.int .i64 i.d0) ∧ w.cell? ⟨b, 3, none⟩ = some (.int .i64 i.d1) ∧ w.cell? ⟨b, 4, none⟩ = some (.int .i64 i.d2) ∧ w.cell? ⟨b, 5, none⟩ = some (.int .i64 i.mx) ∧ w.cell? ⟨b, 6, none⟩ = some (.string i.tx) :=
  ⟨RawAt.cell h 0, RawAt.cell h 1, RawAt.cell h 2, RawAt.cell h 3, RawAt.cell h 4, RawAt.cell h 5, RawAt.cell h 6⟩
theorem raw_scs {t : TypeId} {w : World} {b : Nat} {s : S6} (h : RawAt t w b (scs s)) : w.cell? ⟨b, 0, none⟩ = some (.int .i64 s.n) ∧ w.cell? ⟨b, 1, none⟩ = some (.int .i64 s.d0) ∧ w.cell? ⟨b, 2, none⟩ = some (.int .i64 s.d1) ∧ w.cell? ⟨b, 3, none⟩ = some (.int .i64 s.d2) ∧ w.cell? ⟨b, 4, none⟩ = some (.int .i64 s.mx) ∧ w.cell? ⟨b, 5, none⟩ = some (.int .i64 s.pl) :=
  ⟨RawAt.cell h 0, RawAt.cell h 1, RawAt.cell h 2, RawAt.cell h 3, RawAt.cell h 4, RawAt.cell h 5⟩
end Go.Proofs.Ytbbplppcabeojaa
