/- Histories: the contract of slices.Delete at steps, where one goes. -/
import Derived.Test.YtncbhbjhfmbbkaaHsA
import Derived.Deep.RegionLaw
import Derived.ArgAppend
import Derived.Lib.SliceRun
namespace Go.Proofs.Ytncbhbjhfmbbkaa
open Go.RowKit
set_option linter.unusedVariables false
/-- Worlds that agree on all that was there, but on one block. -/
structure OnB (g : Nat) (w w' : World) : Prop where
  below : Below g w w'
  rest : ∀ k, k < w.heap.size → k ≠ g → w'.heap[k]? = w.heap[k]?
theorem OnB.refl (g : Nat) (w : World) : OnB g w w := ⟨Below.refl _ _, fun _ _ _ => rfl⟩
theorem OnB.trans {g : Nat} {a b c : World} (h : OnB g a b) (k : OnB g b c) : OnB g a c := ⟨h.below.trans k.below, fun i hi hn => (k.rest i (Nat.lt_of_lt_of_le hi h.below.size) hn).trans (h.rest i hi hn)⟩
theorem OnB.set {g : Nat} {a b : World} (h : OnB g a b) (k : Nat) (v : Value) : OnB g a (b.setCell ⟨g, k, none⟩ v) :=
  ⟨h.below.setCell (p := ⟨g, k, none⟩) (Nat.le_refl _) v, fun i hi hn => (Below.heap_setCell b ⟨g, k, none⟩ v i hn).trans (h.rest i hi hn)⟩
theorem OnB.sets {g : Nat} {a : World} : ∀ (l : List Value) (o : Nat) {b : World}, OnB g a b → OnB g a (b.setCells g o l)
  | [], _, _, h => h
  | v :: l, o, b, h => OnB.sets l (o + 1) (h.set o v)
theorem OnB.drew {g : Nat} {a b : World} (h : OnB g a b) : OnB g a b.drew := ⟨h.below.drew, h.rest⟩
theorem OnB.raw {g b : Nat} {t : TypeId} {cs : Array Value} {w w' : World} (h : OnB g w w') (hr : RawAt t w b cs) (hn : b ≠ g) : RawAt t w' b cs := (h.rest b hr.lt hn).trans hr
/-- Cells laid over a list. -/
def setl : List Value → Nat → List Value → List Value
  | xs, _, [] => xs
  | xs, o, v :: r => setl (xs.set o v) (o + 1) r
theorem setl_len : ∀ (l : List Value) (xs : List Value) (o : Nat), (setl xs o l).length = xs.length
  | [], _, _ => rfl
  | v :: r, xs, o => by unfold setl; rw [setl_len r, List.length_set]
theorem setl_take : ∀ (l : List Value) (xs : List Value) (o : Nat), o + l.length ≤ xs.length → (setl xs o l).take (o + l.length) = xs.take o ++ l
  | [], xs, o, _ => by unfold setl; simp
  | v :: r, xs, o, h => by
    rw [List.length_cons] at h
    have ih := setl_take r (xs.set o v) (o + 1) (by rw [List.length_set]; omega)
    unfold setl
    rw [List.length_cons, show o + (r.length + 1) = o + 1 + r.length from by omega, ih]
    have e : (xs.set o v).take (o + 1) = xs.take o ++ [v] := by
      rw [List.take_set, List.take_succ_eq_append_getElem (by omega), List.set_append_right _ _ (by rw [List.length_take]; omega)]
      rw [List.length_take, show o - min o xs.length = 0 from by omega]
      rfl
    rw [e, List.append_assoc]
    rfl
theorem own_setH {w : World} {base : Nat} {e : TypeId} {size g cap n : Nat} {xs : List Value} (h : w.ownsRow base e size (.slice (some ⟨g, 0, none⟩) n cap) n xs) (i : Nat) (u : Value) : (w.setCell ⟨g, i, none⟩ u).ownsRow base e size (.slice (some ⟨g, 0, none⟩) n cap) n (xs.set i u) := by
  refine ⟨by rw [List.length_set]; exact h.1, .inr ?_⟩
  rcases h.2 with ⟨h2, _⟩ | ⟨g', cap', cur, hv, hB, c, h3, h4, h5, h6⟩
  · cases h2
  · injection hv with hv1 hv2 hv3
    injection hv1 with hv1
    injection hv1 with hv1
    subst hv1
    subst hv3
    refine ⟨g, cap, cur.setIfInBounds i u, rfl, hB, RawAt.set_ (t := e) c i u, h3, h4, by rw [Array.size_setIfInBounds]; exact h5, ?_⟩
    rw [Array.toList_setIfInBounds, List.take_set, h6]
theorem own_setsH {base : Nat} {e : TypeId} {size g cap n : Nat} : ∀ (l : List Value) (o : Nat) {w : World} {xs : List Value}, w.ownsRow base e size (.slice (some ⟨g, 0, none⟩) n cap) n xs → (w.setCells g o l).ownsRow base e size (.slice (some ⟨g, 0, none⟩) n cap) n (setl xs o l)
  | [], _, _, _, h => h
  | v :: l, o, _, _, h => own_setsH l (o + 1) (own_setH h o v)
theorem own_cutH {w : World} {base : Nat} {e : TypeId} {size g cap n m : Nat} {xs : List Value} (h : w.ownsRow base e size (.slice (some ⟨g, 0, none⟩) n cap) n xs) (hm : m ≤ n) : w.ownsRow base e size (.slice (some ⟨g, 0, none⟩) m cap) m (xs.take (m * size)) := by
  have hms : m * size ≤ n * size := Nat.mul_le_mul_right _ hm
  refine ⟨by rw [List.length_take, h.1]; omega, .inr ?_⟩
  rcases h.2 with ⟨h2, _⟩ | ⟨g', cap', cur, hv, hB, c, h3, h4, h5, h6⟩
  · cases h2
  · injection hv with hv1 hv2 hv3
    injection hv1 with hv1
    injection hv1 with hv1
    subst hv1
    subst hv3
    refine ⟨g, cap, cur, rfl, hB, c, by omega, h4, h5, ?_⟩
    rw [← h6, List.take_take, Nat.min_eq_left hms]
/-- Where a row of two cells each is cut. -/
def cutB (A : Option Addr) (c k : Nat) : Option Addr := if c = k then A else A.map (·.add (k * 2))
theorem cut_restH {P : Program} {t e : TypeId} (ht : P.underlying t = some (.slice e)) {i : TypeInfo} (hi : P.info? e = some i) (h2 : P.cellsOf e = 2) (A : Option Addr) (n c k : Nat) (hk : k + 1 ≤ n) (w : World) :
    (Instr.slice t (.slice A n c) (some (.int .i64 ((k : Int) + 1))) none none).run P w = .ok (.slice (cutB A c (k + 1)) (n - (k + 1)) (c - (k + 1))) w := by
  have he : P.elem t = e := by simp [Program.elem, ht]
  subst he
  rw [run_slice_l _ _ _ _ _ ht _ _ (by omega) (by omega), run_sizeOf _ hi, h2]
  have e : ((k : Int) + 1).toNat = k + 1 := by omega
  simp [Result.andThen, sliced, cutB, e]
theorem cut_hdH {P : Program} {t e : TypeId} (ht : P.underlying t = some (.slice e)) {i : TypeInfo} (hi : P.info? e = some i) (A : Option Addr) (n c k : Nat) (hk : k ≤ c) (w : World) :
    (Instr.slice t (.slice A n c) none (some (.int .i64 k)) none).run P w = .ok (.slice A k c) w := by
  have he : P.elem t = e := by simp [Program.elem, ht]
  subst he
  rw [run_slice_h _ _ _ _ _ ht _ _ (by omega) (by omega), run_sizeOf _ hi]
  have h0 : (A.map fun x => x.add 0) = A := by cases A <;> simp [Addr.add]
  simp [Result.andThen, sliced, h0]
theorem cut_lastH {P : Program} {t e : TypeId} (ht : P.underlying t = some (.slice e)) {i : TypeInfo} (hi : P.info? e = some i) (h2 : P.cellsOf e = 2) (g m c : Nat) (hk : m + 1 ≤ c) (a b : Int) (ha : a = m) (hb : b = (m : Int) + 1) (w : World) :
    (Instr.slice t (.slice (some ⟨g, 0, none⟩) m c) (some (.int .i64 a)) (some (.int .i64 b)) none).run P w = .ok (.slice (some ⟨g, m * 2, none⟩) 1 (c - m)) w := by
  have he : P.elem t = e := by simp [Program.elem, ht]
  subst he
  subst ha
  subst hb
  have hne : ¬ c = m := by omega
  rw [run_slice_lh _ _ _ _ _ ht _ _ _ _ (by omega) (by omega) (by omega), run_sizeOf _ hi, h2]
  have e : ((m : Int) + 1).toNat = m + 1 := by omega
  simp [Result.andThen, sliced, e, hne, Addr.add]
  omega
theorem step_zero (w : World) : (zeroValue 69).run Try.prog w = .ok (.agg #[.slice none 0 0, .slice none 0 0]) w := by kernel_rfl
theorem run_clearH (w : World) (ty : TypeId) (b o c : Nat) (hc0 : (w.cell? ⟨b, o, none⟩).isSome = true) (hc1 : (w.cell? ⟨b, o + 1, none⟩).isSome = true) (hf0 : w.frozen? ⟨b, o, none⟩ = false) (hf1 : w.frozen? ⟨b, o + 1, none⟩ = false) :
    (Builtin.clear_ #[128] ty #[.slice (some ⟨b, o, none⟩) 1 c]).run Try.prog w = .ok (.tuple #[]) (w.setCells b o [.slice none 0 0, .slice none 0 0]) := by
  have hzc : (Builtin.zeroCells (Value.agg #[.slice none 0 0, .slice none 0 0]).cells 1).toList = [.slice none 0 0, .slice none 0 0] := by first | decide | (simp [Builtin.zeroCells, Value.cells]; done) | (simp [Builtin.zeroCells, Value.cells]; rfl) | kernel_rfl
  have two : ∀ j, j < 2 → j = 0 ∨ j = 1 := fun j hj => by omega
  have hst := run_storeCells_cells (P := Try.prog) b o [.slice none 0 0, .slice none 0 0] 0 w (by intro j hj; rcases two j hj with rfl | rfl; exact hc0; exact hc1) (by intro j hj; rcases two j hj with rfl | rfl; exact hf0; exact hf1) (by intro v hv; rcases List.mem_cons.1 hv with rfl | hv; rfl; obtain rfl := List.mem_singleton.1 hv; rfl)
  simp only [Nat.add_zero] at hst
  simp [Builtin.clear_, run_underlying Try.underlying128, hzc, hst]
set_option maxHeartbeats 4000000 in
set_option maxRecDepth 100000 in
theorem hDelete_any {B g cap m i : Nat} {w : World} {xs : List Value} (hown : w.ownsRow B 69 2 (.slice (some ⟨g, 0, none⟩) (i + m + 1) cap) (i + m + 1) xs) (hx1 : ∀ u ∈ xs, u.oneCell' = true) (hn : i + m + 1 ≤ 1000) :
    Calls Try.prog 67 #[.slice (some ⟨g, 0, none⟩) (i + m + 1) cap, .int .i64 (i : Int), .int .i64 ((i : Int) + 1)] w fun e w' => e = .returned (.slice (some ⟨g, 0, none⟩) (i + m) cap) ∧ w'.ownsRow B 69 2 (.slice (some ⟨g, 0, none⟩) (i + m) cap) (i + m) (xs.take (i * 2) ++ xs.drop ((i + 1) * 2)) ∧ OnB g w w' := by
  have hxl := hown.1
  have hdr := own_below hown (show Below w.heap.size w w.drew from (Below.refl _ _).drew)
  obtain ⟨i0, hi0, hz0, hz1, hz2⟩ := info_parts step_infoH
  obtain ⟨hraw, hfree, hcells, hcap⟩ : (∃ cur, RawAt 69 w g cur ∧ cur.size = cap * 2) ∧ (∀ k, w.frozen? ⟨g, k, none⟩ = false) ∧ (∀ k u, xs[k]? = some u → w.cell? ⟨g, k, none⟩ = some u) ∧ i + m + 1 ≤ cap := by
    rcases hown.2 with ⟨h2, _⟩ | ⟨g', cap', cur, hv, hB, c, h3, h4, h5, h6⟩
    · cases h2
    · injection hv with hv1 hv2 hv3
      injection hv1 with hv1
      injection hv1 with hv1
      subst hv1
      subst hv3
      refine ⟨⟨cur, c, h5⟩, fun k => RawAt.free (t := 69) c k, fun k u hu => ?_, h3⟩
      rw [RawAt.cell (t := 69) c, ← Array.getElem?_toList]
      rw [← h6, List.getElem?_take] at hu
      split at hu
      · exact hu
      · cases hu
  obtain ⟨cur, hcur, hcs⟩ := hraw
  have hsome : ∀ k, k < cap * 2 → (w.cell? ⟨g, k, none⟩).isSome = true := fun k hk => by
    rw [RawAt.cell hcur, Array.getElem?_eq_getElem (by omega)]; rfl
  obtain ⟨news, hnews⟩ : ∃ news, news = xs.drop ((i + 1) * 2) := ⟨_, rfl⟩
  have hlen : news.length = m * 2 := by rw [hnews, List.length_drop, hxl]; omega
  obtain ⟨A, hA, hsrc⟩ : ∃ A : Addr, cutB (some ⟨g, 0, none⟩) cap (i + 1) = some A ∧ Hid (∀ t u, news[t]? = some u → w.drew.cell? (A.add t) = some u) := by
    by_cases h : cap = i + 1
    · refine ⟨⟨g, 0, none⟩, by simp [cutB, h], fun t u hu => ?_⟩
      have h0 : news = [] := List.eq_nil_of_length_eq_zero (by rw [hlen]; omega)
      rw [h0] at hu
      cases hu
    · refine ⟨⟨g, (i + 1) * 2, none⟩, by simp [cutB, h, Addr.add], fun t u hu => ?_⟩
      rw [Go.WideShapes.add_plain]
      rw [hnews, List.getElem?_drop] at hu
      exact hcells _ _ hu
  have s1 := Lib.hid hlen
  have s2 : Hid (∀ u ∈ news, u.oneCell' = true) := fun u hu => hx1 u (by rw [hnews] at hu; exact List.mem_of_mem_drop hu)
  have s3 : Hid (∀ t, t < news.length → (w.drew.cell? ⟨g, 0 + i * 2 + t, none⟩).isSome = true ∧ w.drew.frozen? ⟨g, 0 + i * 2 + t, none⟩ = false) := fun t ht => by
    rw [hlen] at ht
    exact ⟨hsome _ (by omega), hfree _⟩
  obtain ⟨W1, hW1⟩ : ∃ W1, W1 = w.drew.setCells g (0 + i * 2) news := ⟨_, rfl⟩
  have hO1 : W1.ownsRow B 69 2 (.slice (some ⟨g, 0, none⟩) (i + m + 1) cap) (i + m + 1) (setl xs (i * 2) news) := by
    rw [hW1, Nat.zero_add]; exact own_setsH _ _ hdr
  have hB1 : OnB g w W1 := by rw [hW1]; exact OnB.sets _ _ (OnB.refl g w).drew
  have hcut : (setl xs (i * 2) news).take ((i + m) * 2) = xs.take (i * 2) ++ xs.drop ((i + 1) * 2) := by
    have := setl_take news xs (i * 2) (by rw [hlen, hxl]; omega)
    rw [hlen, show i * 2 + m * 2 = (i + m) * 2 from by omega] at this
    rw [this, hnews]
  have hO2 : W1.ownsRow B 69 2 (.slice (some ⟨g, 0, none⟩) (i + m) cap) (i + m) (xs.take (i * 2) ++ xs.drop ((i + 1) * 2)) := by
    have := own_cutH hO1 (show i + m ≤ i + m + 1 by omega)
    rwa [hcut] at this
  have hO3 : (W1.setCells g ((i + m) * 2) [.slice none 0 0, .slice none 0 0]).ownsRow B 69 2 (.slice (some ⟨g, 0, none⟩) (i + m) cap) (i + m) (xs.take (i * 2) ++ xs.drop ((i + 1) * 2)) := by
    have h1 := own_setsH [.slice none 0 0, .slice none 0 0] ((i + m) * 2) hO2
    have h2 : setl (xs.take (i * 2) ++ xs.drop ((i + 1) * 2)) ((i + m) * 2) [.slice none 0 0, .slice none 0 0] = xs.take (i * 2) ++ xs.drop ((i + 1) * 2) := by
      have hl := hO2.1
      unfold setl setl setl
      rw [List.set_eq_of_length_le (l := xs.take (i * 2) ++ xs.drop ((i + 1) * 2)) (by rw [hl]; omega), List.set_eq_of_length_le (l := xs.take (i * 2) ++ xs.drop ((i + 1) * 2)) (by rw [hl]; omega)]
    rwa [h2] at h1
  have hcl : ∀ ty, (Builtin.clear_ #[128] ty #[.slice (some ⟨g, (i + m) * 2, none⟩) 1 (cap - (i + m))]).run Try.prog W1 = .ok (.tuple #[]) (W1.setCells g ((i + m) * 2) [.slice none 0 0, .slice none 0 0]) := fun ty => by
    have hraw1 : ∃ cur1, RawAt 69 W1 g cur1 ∧ cur1.size = cap * 2 := by
      rcases hO1.2 with ⟨h2, _⟩ | ⟨g', cap', cur', hv, hB', c, h3, h4, h5, h6⟩
      · cases h2
      · injection hv with hv1 hv2 hv3
        injection hv1 with hv1
        injection hv1 with hv1
        subst hv1
        subst hv3
        exact ⟨cur', c, h5⟩
    obtain ⟨cur1, hc1, hz1⟩ := hraw1
    exact run_clearH W1 ty g _ _ (by rw [RawAt.cell hc1, Array.getElem?_eq_getElem (by omega)]; rfl) (by rw [RawAt.cell hc1, Array.getElem?_eq_getElem (by omega)]; rfl) (RawAt.free hc1 _) (RawAt.free hc1 _)
  have hs1 := fun W => cut_hdH (P := Try.prog) Try.underlying128 hi0 (some ⟨g, 0, none⟩) (i + m + 1) cap i (by omega) W
  have hs2 := fun W => cut_restH (P := Try.prog) Try.underlying128 hi0 (by kernel_rfl) (some ⟨g, 0, none⟩) (i + m + 1) cap i (by omega) W
  have hs3 := fun W => cut_lastH (P := Try.prog) Try.underlying128 hi0 (by kernel_rfl) g (i + m) cap (by omega) ((i : Int) + (m : Int)) ((i : Int) + (m : Int) + 1) (by omega) (by omega) W
  rw [hA, show i + m + 1 - (i + 1) = m from by omega] at hs2
  have HO := Lib.hid hO3
  have HB := Lib.hid (OnB.sets [.slice none 0 0, .slice none 0 0] ((i + m) * 2) hB1)
  have hW : Hid (W1 = w.drew.setCells g (0 + i * 2) news) := hW1
  have j1 : (0 : Int) ≤ (i : Int) := by omega
  have j2 : (i : Int) ≤ (i : Int) + 1 := by omega
  have j3 : (i : Int) + 1 ≤ (i : Int) + (m : Int) + 1 := by omega
  have j4 : (i : Int) + (m : Int) + 1 ≤ (cap : Int) := by omega
  have j5 : ((i : Int) == (i : Int) + 1) = false := by simp; omega
  have hroom : i + m ≤ cap := by omega
  clear hW1 hO1 hO2 hO3 hB1 hcut hnews hcells hfree hcur hcs hsome hown hdr hxl hlen hx1
  go_enter Try.func67, Try.ntmps67
  go_wp2_with fail
  go_region_law (refine step_append_room rfl (.tmp 22) (.tmp 25) 128 rfl 69 i0 2 Try.underlying128 hi0 hz1 g 0 i cap (by simp [Act.eval, Act.put]) A m (cap - (i + 1)) news (by simp [Act.eval, Act.put]) s1.out hsrc.out s2.out hroom s3.out ?_; rw [← hW.out])
  go_wp2
  go_ret
  exact ⟨rfl, HO.out, HB.out⟩
end Go.Proofs.Ytncbhbjhfmbbkaa
