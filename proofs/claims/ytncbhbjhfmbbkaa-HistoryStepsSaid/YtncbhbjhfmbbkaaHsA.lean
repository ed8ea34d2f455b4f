/- Histories: what one is in memory; the contracts of slices.Clone at edits, New, Sizes, and of what a nil one answers. -/
import Derived.Test.YtncbhbjhfmbbkaaOnT
import Derived.Test.YtncbhbjhfmbbkaaEdA
import Derived.Deep.RegionHeld3
import Derived.Lib.SliceRun
namespace Go.Proofs.Ytncbhbjhfmbbkaa
open Go.RowKit
set_option linter.unusedVariables false
/-- A row of edits in a block of its own. -/
def OwnE (W : World) (v : Value) (l : List E3) : Prop := W.ownsRow 0 81 3 v l.length (eflat l)
/-- A step: what undoes it, and what does it. -/
structure S2 where
  b : List E3
  f : List E3
/-- Steps as values. -/
def sflat (s : List (Value × Value)) : List Value := s.flatMap fun x => [x.1, x.2]
theorem sflat_append (a b : List (Value × Value)) : sflat (a ++ b) = sflat a ++ sflat b := by simp [sflat]
theorem sflat_length (o : List (Value × Value)) : (sflat o).length = o.length * 2 := by
  induction o with
  | nil => rfl
  | cons x o ih => rw [show sflat (x :: o) = [x.1, x.2] ++ sflat o from rfl, List.length_append, ih, List.length_cons]; simp; omega
/-- What the values of steps are rows of. -/
def StsAt (W : World) : List (Value × Value) → List S2 → Prop
  | [], [] => True
  | p :: s, y :: x => (OwnE W p.1 y.b ∧ OwnE W p.2 y.f) ∧ StsAt W s x
  | _, _ => False
theorem StsAt.onT {ts : List TypeId} {W W' : World} (ho : OnT ts W W') (he : 81 ∉ ts) : ∀ {s : List (Value × Value)} {x : List S2}, StsAt W s x → StsAt W' s x
  | [], [], _ => trivial
  | p :: s, y :: x, h => ⟨⟨own_onT h.1.1 ho he, own_onT h.1.2 ho he⟩, StsAt.onT ho he h.2⟩
  | [], _ :: _, h => h.elim
  | _ :: _, [], h => h.elim
theorem StsAt.len {W : World} : ∀ {s : List (Value × Value)} {x : List S2}, StsAt W s x → s.length = x.length
  | [], [], _ => rfl
  | p :: s, y :: x, h => by rw [List.length_cons, List.length_cons, StsAt.len h.2]
  | [], _ :: _, h => h.elim
  | _ :: _, [], h => h.elim
theorem StsAt.snoc {W : World} : ∀ {s : List (Value × Value)} {x : List S2} {p : Value × Value} {y : S2}, StsAt W s x → OwnE W p.1 y.b → OwnE W p.2 y.f → StsAt W (s ++ [p]) (x ++ [y])
  | [], [], _, _, _, h1, h2 => ⟨⟨h1, h2⟩, trivial⟩
  | _ :: _, _ :: _, _, _, h, h1, h2 => ⟨h.1, StsAt.snoc h.2 h1 h2⟩
  | [], _ :: _, _, _, h, _, _ => h.elim
  | _ :: _, [], _, _, h, _, _ => h.elim
/-- Steps that end in one. -/
theorem StsAt.last {W : World} : ∀ {s : List (Value × Value)} {x : List S2} {y : S2}, StsAt W s (x ++ [y]) → ∃ s' p, s = s' ++ [p] ∧ StsAt W s' x ∧ OwnE W p.1 y.b ∧ OwnE W p.2 y.f
  | [], [], _, h => h.elim
  | [], _ :: _, _, h => h.elim
  | p :: s, [], y, h => by
    obtain ⟨h1, h2⟩ := h
    cases s with
    | nil => exact ⟨[], p, rfl, trivial, h1.1, h1.2⟩
    | cons _ _ => exact h2.elim
  | p :: s, z :: x, y, h => by
    obtain ⟨h1, h2⟩ := h
    obtain ⟨s', q, rfl, h3, h4, h5⟩ := StsAt.last (s := s) (x := x) h2
    exact ⟨p :: s', q, rfl, ⟨h1, h3⟩, h4, h5⟩
theorem StsAt.drop1 {W : World} : ∀ {s : List (Value × Value)} {x : List S2}, StsAt W s x → StsAt W (s.drop 1) (x.drop 1)
  | [], [], _ => trivial
  | _ :: _, _ :: _, h => h.2
  | [], _ :: _, h => h.elim
  | _ :: _, [], h => h.elim
/-- A history lies in block hb, its rows in blocks from B on: the steps that can be undone, and those that were, the top one last. -/
structure HAt (B : Nat) (W : World) (hb : Nat) (d u : List S2) : Prop where
  ex : ∃ v0 v1 s0 s1, RawAt 131 W hb #[v0, v1] ∧ W.ownsRow B 69 2 v0 s0.length (sflat s0) ∧ W.ownsRow B 69 2 v1 s1.length (sflat s1) ∧ (∀ g, v0.ownBlock = some g → v1.ownBlock ≠ some g) ∧ StsAt W s0 d ∧ StsAt W s1 u
  le : B ≤ hb
theorem HAt.onT {ts : List TypeId} {B hb : Nat} {W W' : World} {d u : List S2} (h : HAt B W hb d u) (ho : OnT ts W W') (h1 : 81 ∉ ts) (h2 : 69 ∉ ts) (h3 : 131 ∉ ts) : HAt B W' hb d u := by
  obtain ⟨⟨v0, v1, s0, s1, a1, a2, a3, a4, a5, a6⟩, h⟩ := h
  exact ⟨⟨v0, v1, s0, s1, ho _ _ _ h3 a1, own_onT a2 ho h2, own_onT a3 ho h2, a4, a5.onT ho h1, a6.onT ho h1⟩, h⟩
theorem HAt.below {B hb : Nat} {W W' : World} {d u : List S2} (h : HAt B W hb d u) (hw : Below W.heap.size W W') : HAt B W' hb d u := h.onT (ts := []) (OnT.of hw) (by simp) (by simp) (by simp)
theorem edit_infoH : (Try.prog.info? 81).map (fun i => (i.zero, i.size, i.bytes)) = some (some (.agg #[.int .i64 0, .int .i64 0, .string ⟨#[]⟩]), 3, 32) := by kernel_rfl
theorem step_infoH : (Try.prog.info? 69).map (fun i => (i.zero, i.size, i.bytes)) = some (some (.agg #[.slice none 0 0, .slice none 0 0]), 2, 48) := by kernel_rfl
theorem eflat_one (l : List E3) : ∀ u ∈ eflat l, u.oneCell' = true := by
  intro u hu
  unfold eflat at hu
  obtain ⟨e, _, he⟩ := List.mem_flatMap.1 hu
  simp at he
  rcases he with rfl | rfl | rfl <;> rfl
theorem EdsAt.news {w : World} {a : Addr} {l : List E3} (h : EdsAt w (some a) l) : ∀ (j : Nat) (u : Value), (eflat l)[j]? = some u → w.cell? (a.add j) = some u := by
  intro j u hu
  have hj : j < l.length * 3 := by
    have := (List.getElem?_eq_some_iff.1 hu).1
    rwa [eflat_length] at this
  obtain ⟨b, off, e, _, hc⟩ := h (by omega)
  obtain rfl : a = ⟨b, off, none⟩ := by injection e
  obtain ⟨c0, c1, c2⟩ := hc (j / 3) (by omega)
  obtain ⟨d0, d1, d2⟩ := eflat_at l (j / 3) (by omega)
  rw [Go.WideShapes.add_plain]
  have h3 : j % 3 = 0 ∨ j % 3 = 1 ∨ j % 3 = 2 := by omega
  rcases h3 with h3 | h3 | h3
  · rw [show j / 3 * 3 = j from by omega] at c0 d0
    rw [hu] at d0
    rw [c0, d0]
  · rw [show j / 3 * 3 + 1 = j from by omega] at d1
    rw [show off + j / 3 * 3 + 1 = off + j from by omega] at c1
    rw [hu] at d1
    rw [c1, d1]
  · rw [show j / 3 * 3 + 2 = j from by omega] at d2
    rw [show off + j / 3 * 3 + 2 = off + j from by omega] at c2
    rw [hu] at d2
    rw [c2, d2]
set_option maxHeartbeats 4000000 in
set_option maxRecDepth 100000 in
theorem cloneE_any (A : Option Addr) (n c : Nat) (l : List E3) (w : World) (hA : EdsAt w A l) (hl : l.length = n) (hn : n ≤ 1000000) :
    Calls Try.prog 66 #[.slice A n c] w fun e w' => ∃ v, e = .returned v ∧ OwnE w' v l ∧ Below w.heap.size w w' := by
  obtain ⟨i0, hi0, hz0, hz1, hz2⟩ := info_parts edit_infoH
  have HL := Lib.hid hl; clear hl
  rcases A with _ | a
  · have hn0 : n = 0 := by
      rcases Nat.eq_zero_or_pos n with h | h
      · exact h
      · obtain ⟨_, _, h, _⟩ := hA (by rw [HL.out]; exact h)
        cases h
    subst hn0
    have hz : l = [] := List.eq_nil_of_length_eq_zero HL.out
    have he := fun W : World => Lib.run_eql_slice_nil (P := Try.prog) W 64 81 none 0 c 0 0 Try.underlying64
    subst hz
    clear hA
    go_enter Try.func66, Try.ntmps66
    go_wp2
    go_ret
    exact ⟨_, rfl, World.ownsRow_nil _ _ _ _, Below.refl _ _⟩
  · have he := fun W : World => Lib.run_eql_slice_nil (P := Try.prog) W 64 81 (some a) n c 0 0 Try.underlying64
    have HA := Lib.hid hA; clear hA
    go_enter Try.func66, Try.ntmps66
    go_wp2_with (at_builtin; refine wpList_append_own _ rfl (.tmp 5) (.tmp 6) _ rfl w.heap.size 81 i0 _ 3 32 Try.underlying64 hi0 hz0 hz1 hz2 rfl (by omega) (.slice (some ⟨w.heap.size, 0, none⟩) 0 0) 0 [] rfl (World.ownsRow_made w #[] 0 (Nat.le_refl _) (Nat.zero_le _) rfl) a n c (eflat l) rfl (by rw [eflat_length, HL.out]) (HA.out.below ((Below.refl _ _).alloc (Nat.le_refl _) _)).news (eflat_one l) (by simp only [maxLen]; omega) (by omega) (by simp) ?_; intro v1 w1 hown1 hg1 hnil1; clear hnil1)
    have hbw : Below w.heap.size w w1 := ((Below.refl _ _).alloc (Nat.le_refl _) (.cells #[] 81)).grown hg1 (by simp) (fun k hk => by simp [Value.ownBlock] at hk; omega)
    rw [Nat.zero_add, List.nil_append] at hown1
    have HO := Lib.hid hown1
    clear hown1 hg1
    go_wp2
    go_ret
    exact ⟨v1, rfl, own_base (by rw [HL.out]; exact HO.out) (Nat.zero_le _), hbw⟩
set_option maxHeartbeats 4000000 in
set_option maxRecDepth 100000 in
theorem hNew_any (w : World) : Calls Try.prog 30 #[] w fun e w' => e = .returned (.pointer (some ⟨w.heap.size, 0, none⟩)) ∧ HAt w.heap.size w' w.heap.size [] [] ∧ Below w.heap.size w w' := by
  have x1 : Below w.heap.size w (w.alloc (.cells #[.slice none 0 0, .slice none 0 0] 131)) := (Below.refl _ _).alloc (Nat.le_refl _) _
  have R1 := Lib.hid (show RawAt 131 (w.alloc (.cells #[.slice none 0 0, .slice none 0 0] 131)) w.heap.size #[.slice none 0 0, .slice none 0 0] from heap_alloc_new w _)
  go_enter Try.func30, Try.ntmps30
  go_wp2
  go_ret
  exact ⟨rfl, ⟨⟨_, _, [], [], R1.out, World.ownsRow_nil _ _ _ _, World.ownsRow_nil _ _ _ _, fun g hg => by simp [Value.ownBlock] at hg, trivial, trivial⟩, Nat.le_refl _⟩, x1⟩
set_option maxHeartbeats 4000000 in
set_option maxRecDepth 100000 in
theorem hSizes_nil (w : World) : Calls Try.prog 39 #[.pointer none] w fun e w' => e = .returned (.tuple #[.int .i64 0, .int .i64 0]) ∧ Below w.heap.size w w' := by
  go_enter Try.func39, Try.ntmps39
  go_wp2
  go_ret2
  exact ⟨rfl, Below.refl _ _⟩
set_option maxHeartbeats 4000000 in
set_option maxRecDepth 100000 in
theorem hSizes_any {B hb : Nat} {w : World} {d u : List S2} (h : HAt B w hb d u) : Calls Try.prog 39 #[.pointer (some ⟨hb, 0, none⟩)] w fun e w' => e = .returned (.tuple #[.int .i64 d.length, .int .i64 u.length]) ∧ Below w.heap.size w w' := by
  obtain ⟨⟨v0, v1, s0, s1, a1, a2, a3, a4, a5, a6⟩, _⟩ := h
  obtain ⟨A0, c0, rfl⟩ := own_form a2
  obtain ⟨A1, c1, rfl⟩ := own_form a3
  rw [a5.len, a6.len] at a1
  have e0 := RawAt.cell a1 0
  have e1 := RawAt.cell a1 1
  simp at e0 e1
  clear a1 a2 a3 a4 a5 a6
  generalize d.length = dn at *
  generalize u.length = un at *
  go_enter Try.func39, Try.ntmps39
  go_wp2_with fail
  go_region
  go_wp2
  go_ret2
  exact ⟨rfl, (Below.refl _ _).drew⟩
set_option maxHeartbeats 4000000 in
set_option maxRecDepth 100000 in
theorem hPush_nil (x y : Value) (w : World) : Calls Try.prog 32 #[.pointer none, .agg #[x, y]] w fun e w' => e = .returned (.int .i64 7) ∧ Below w.heap.size w w' := by
  go_enter Try.func32, Try.ntmps32
  go_wp2
  go_ret
  exact ⟨rfl, (Below.refl _ _).alloc (Nat.le_refl _) _⟩
end Go.Proofs.Ytncbhbjhfmbbkaa
