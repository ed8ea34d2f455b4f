/- What a law's arguments are told as to its walk: openers by the type's shape, of my own. -/
import Derived.Test.YtpnjokhhbjpciaaGreatDoorBase
import Derived.OpenShut
import Derived.ShutString
import Derived.ChangeOld
import Derived.Deep.SlicePairs
import Derived.Clock
namespace Go.Proofs.YtpnjokhhbjpciaaGreatDoor
open Go.ChangeShapes Go.WideShapes Go.ChangeAt Go.RowKit
section
variable {H : Type} {enc : TypeId × Value → H} {P : Program} {w : World} {base : Nat} {sp : Nat → Bool} {held : Bool}
theorem cell_block_lt {w : World} {b o : Nat} {s : Option Nat} {v : Value} (h : w.cell? ⟨b, o, s⟩ = some v) : b < w.heap.size := by
  rcases Nat.lt_or_ge b w.heap.size with hlt | hge
  · exact hlt
  · simp [World.cell?, Array.getElem?_eq_none hge] at h
theorem opens_ints {r : Reach} {b0 : Nat} {t e : TypeId} {k : IntKind} {v : Value} {d : DataW H} {ps : List MemPlace} (ht : P.underlying t = some (.slice e)) (he : P.underlying e = some (.int k)) (hc : P.cellsOf e = 1)
    (hv : Value.okWide P w r b0 t v) (h : DataW.Trod enc P w base (fun _ => true) held t v d ps) :
    ∃ (A : Option Addr) (n c : Nat) (l : List Int), v = .slice A n c ∧ l.length = n ∧ n ≤ maxLen ∧ Caps A n c ∧ IntsAt k w A l ∧ ∀ x ∈ l, (Lit.int k x).wf = true := by
  obtain ⟨A, n, c, rfl⟩ := okWide_slice ht hv
  obtain ⟨fuel, hf⟩ := h
  rcases open_ints ht he hc hf with ⟨hcs, _⟩ | ⟨x, l, c', zs, hcs, _, hl, hm, hz, _, hcell, hwz⟩
  · simp [Value.cells] at hcs
    obtain ⟨rfl, rfl, rfl⟩ := hcs
    exact ⟨none, 0, 0, [], rfl, rfl, Nat.zero_le _, ⟨Nat.le_refl _, fun _ => rfl⟩, fun h => absurd h (by simp), fun x hx => by cases hx⟩
  · simp [Value.cells] at hcs
    obtain ⟨rfl, rfl, rfl⟩ := hcs
    have hzl : zs.length = c := by simpa using hz
    have hlen : (zs.take n).length = n := by rw [List.length_take]; omega
    refine ⟨_, n, c, zs.take n, rfl, hlen, by omega, ⟨hl, fun h => by cases h⟩, fun hp => ?_, fun y hy => hwz y (List.mem_of_mem_take hy)⟩
    obtain ⟨b, off, rfl, hall⟩ := ints_at hcell (by omega)
    refine ⟨b, off, rfl, cell_block_lt (hall 0 (by omega)), fun j hj => ?_⟩
    rw [hall j (by omega)]
    have hj' : j < zs.length := by omega
    have e : nth (zs.take n) j = zs.getD j 0 := by
      unfold nth
      simp only [List.getD, List.getElem?_take]
      rw [if_pos (by omega)]
    rw [e]
/-- A slice of pairs of integers: what its elements hold. -/
theorem opens_pairs {r : Reach} {b0 : Nat} {t e : TypeId} {f0 f1 : Field} {v : Value} {d : DataW H} {ps : List MemPlace} (ht : P.underlying t = some (.slice e)) (he : P.underlying e = some (.struct #[f0, f1]))
    (ce : P.cellsOf e = 2) (o0 : f0.offset = 0) (o1 : f1.offset = 1) (c0 : P.cellsOf f0.type = 1) (c1 : P.cellsOf f1.type = 1) (u0 : P.underlying f0.type = some (.int .i32)) (u1 : P.underlying f1.type = some (.int .i32))
    (hv : Value.okWide P w r b0 t v) (h : DataW.Trod enc P w base (fun _ => true) held t v d ps) :
    ∃ (A : Option Addr) (n c : Nat) (rs : List (Int × Int)), v = .slice A n c ∧ rs.length = n ∧ n ≤ maxLen ∧ Caps A n c ∧ RngAt w A rs ∧ ∀ x ∈ rs, (Lit.int .i32 x.1).wf = true ∧ (Lit.int .i32 x.2).wf = true := by
  obtain ⟨A, n, c, rfl⟩ := okWide_slice ht hv
  obtain ⟨fuel, hf⟩ := h
  rcases Go.Deep.open_slice_pairs ht he ce o0 o1 c0 c1 hf with ⟨hcs, _⟩ | ⟨a, len, cap, m, n', V0, V1, D0, D1, P0, P1, hcs, _, hl, hm, hmm, _, hcell⟩
  · simp [Value.cells] at hcs
    obtain ⟨rfl, rfl, rfl⟩ := hcs
    exact ⟨none, 0, 0, [], rfl, rfl, Nat.zero_le _, ⟨Nat.le_refl _, fun _ => rfl⟩, fun h => absurd h (by simp), fun x hx => by cases hx⟩
  · simp [Value.cells] at hcs
    obtain ⟨rfl, rfl, rfl⟩ := hcs
    have hmc : m = c := by simpa using hmm
    have each : ∀ i, i < m → ∃ q : Int × Int, w.cell? (a.add (i * 2)) = some (.int .i32 q.1) ∧ w.cell? (a.add (i * 2 + 1)) = some (.int .i32 q.2) ∧ (Lit.int .i32 q.1).wf = true ∧ (Lit.int .i32 q.2).wf = true := by
      intro i hi
      obtain ⟨h0, h1, t0, t1⟩ := hcell i hi
      obtain ⟨z0, e0, _, w0⟩ := DataW.trod_int u0 t0
      obtain ⟨z1, e1, _, w1⟩ := DataW.trod_int u1 t1
      simp only [List.cons.injEq, and_true] at e0 e1
      rw [e0] at h0
      rw [e1] at h1
      exact ⟨(z0, z1), h0, h1, w0, w1⟩
    obtain ⟨q, hq⟩ := Go.Deep.choose_lt each
    refine ⟨_, n, c, (List.range n).map q, rfl, by simp, by omega, ⟨hl, fun h => by cases h⟩, fun hp => ?_, fun x hx => ?_⟩
    · have hn : 0 < n := by simpa using hp
      obtain ⟨b, off, spot⟩ := a
      have hspot : spot = none := by simpa [Addr.add] using World.cell?_spot (hq 0 (by omega)).1
      subst hspot
      refine ⟨b, off, rfl, cell_block_lt (by simpa [Addr.add] using (hq 0 (by omega)).1), fun k hk => ?_⟩
      have hkn : k < n := by simpa using hk
      have := hq k (by omega)
      rw [add_plain, add_plain] at this
      have e : ((List.range n).map q).getD k (0, 0) = q k := by simp [List.getD, hkn]
      unfold rlo rhi
      rw [e]
      exact ⟨this.1, by rw [Nat.add_assoc]; exact this.2.1⟩
    · obtain ⟨i, hi, rfl⟩ := List.mem_map.1 hx
      exact (hq i (by have := List.mem_range.1 hi; omega)).2.2
end
end Go.Proofs.YtpnjokhhbjpciaaGreatDoor
