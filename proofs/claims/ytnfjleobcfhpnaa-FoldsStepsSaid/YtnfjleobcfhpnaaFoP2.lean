/- Folds: what each operation keeps. -/
import Derived.Test.YtnfjleobcfhpnaaFoDB
import Derived.Test.YtnfjleobcfhpnaaFoDC
import Derived.Test.YtnfjleobcfhpnaaFoU
namespace Go.Proofs.Ytnfjleobcfhpnaa
open Go.RowKit Go.Sort
set_option linter.unusedVariables false
def fok1 (n : Int) (a : Fo) : Prop := 0 ≤ a.f ∧ a.f < a.t ∧ a.t ≤ n
theorem fw_iff (n : Int) : ∀ (l seen : List Fo), fw n seen l = 0 ↔ (∀ a ∈ l, fok1 n a) ∧ l.Nodup ∧ ∀ a ∈ l, a ∉ seen
  | [], seen => by simp [fw]
  | a :: l, seen => by
    unfold fw
    have hk : (fsp a n ∧ a.f ≠ a.t) ↔ fok1 n a := by unfold fsp fok1; omega
    by_cases g : fok1 n a
    · rw [if_neg (fun hh => hh (hk.2 g))]
      by_cases g2 : a ∈ seen
      · rw [if_pos g2]
        constructor
        · intro h; exact absurd h (by decide)
        · rintro ⟨_, _, h⟩; exact absurd g2 (h a (List.mem_cons_self ..))
      · rw [if_neg g2, fw_iff n l]
        constructor
        · rintro ⟨h1, h2, h3⟩
          refine ⟨fun b hb => ?_, List.nodup_cons.2 ⟨fun h => h3 a h (by simp), h2⟩, fun b hb => ?_⟩
          · rcases List.mem_cons.1 hb with rfl | hb
            · exact g
            · exact h1 b hb
          · rcases List.mem_cons.1 hb with rfl | hb
            · exact g2
            · exact fun h => h3 b hb (List.mem_append_left _ h)
        · rintro ⟨h1, h2, h3⟩
          have h2 := List.nodup_cons.1 h2
          refine ⟨fun b hb => h1 b (List.mem_cons_of_mem _ hb), h2.2, fun b hb h => ?_⟩
          rcases List.mem_append.1 h with h | h
          · exact h3 b (List.mem_cons_of_mem _ hb) h
          · rw [List.mem_singleton.1 h] at hb; exact h2.1 hb
    · rw [if_pos (fun hh => g (hk.1 hh))]
      constructor
      · intro h; exact absurd h (by decide)
      · rintro ⟨h, _, _⟩; exact absurd (h a (List.mem_cons_self ..)) g
theorem fwrong_iff (n : Int) (l : List Fo) : fwrong n l = 0 ↔ 0 ≤ n ∧ n ≤ 1099511627776 ∧ l.length ≤ 60 ∧ (∀ a ∈ l, fok1 n a) ∧ l.Nodup := by
  unfold fwrong
  by_cases g1 : n < 0 ∨ 1099511627776 < n
  · rw [if_pos g1]
    constructor
    · intro h; exact absurd h (by decide)
    · rintro ⟨h1, h2, _⟩; omega
  · rw [if_neg g1]
    by_cases g2 : 60 < l.length
    · rw [if_pos g2]
      constructor
      · intro h; exact absurd h (by decide)
      · rintro ⟨_, _, h, _⟩; omega
    · rw [if_neg g2, fw_iff]
      constructor
      · rintro ⟨h1, h2, _⟩; exact ⟨by omega, by omega, by omega, h1, h2⟩
      · rintro ⟨_, _, _, h1, h2⟩; exact ⟨h1, h2, fun a _ h => by cases h⟩
/-- What a set's folds are: right, and in order. -/
structure FInv (n : Int) (o : List Fo) : Prop where
  ok : fwrong n o = 0
  srt : ord flt o = o
theorem FInv.len {n : Int} {o : List Fo} (h : FInv n o) : o.length ≤ 60 ∧ 0 ≤ n ∧ n ≤ 1099511627776 := fwrong_len h.ok
theorem FInv.mem {n : Int} {o : List Fo} (h : FInv n o) : ∀ x ∈ o, x.f < x.t ∧ 0 ≤ x.f ∧ x.t ≤ n := fwrong_mem h.ok
theorem FInv.good {n : Int} {o : List Fo} (h : FInv n o) : FGood o := by have := fgood_ord h.ok; rwa [h.srt] at this
theorem ord_of_sorted {o : List Fo} (h : o.Pairwise (fun a b => flt b a = false)) : ord flt o = o :=
  (ord_uniq flt flt_swo (List.Perm.refl o) h (fun x _ y _ h1 h2 => flt_eq h1 h2)).symm
theorem FInv.of_ord {n : Int} {l : List Fo} (h : fwrong n l = 0) : FInv n (ord flt l) := by
  have hp := ord_perm flt flt_swo l
  obtain ⟨h1, h2, h3, h4, h5⟩ := (fwrong_iff n l).1 h
  exact ⟨(fwrong_iff n _).2 ⟨h1, h2, by rw [hp.length_eq]; exact h3, fun a ha => h4 a (hp.mem_iff.1 ha), hp.nodup_iff.2 h5⟩, ord_of_sorted (ord_sorted flt flt_swo l)⟩
theorem FInv.keep {n : Int} {o : List Fo} (h : FInv n o) (x : Fo) : FInv n (fkeep x o) := by
  obtain ⟨h1, h2, h3, h4, h5⟩ := (fwrong_iff n o).1 h.ok
  have hs : (fkeep x o).Sublist o := List.filter_sublist
  have hsr := ord_sorted flt flt_swo o
  rw [h.srt] at hsr
  exact ⟨(fwrong_iff n _).2 ⟨h1, h2, Nat.le_trans hs.length_le h3, fun a ha => h4 a (hs.subset ha), h5.sublist hs⟩, ord_of_sorted (hsr.sublist hs)⟩
theorem FInv.wf {n : Int} {o : List Fo} (h : FInv n o) : ∀ a ∈ o, (Lit.int .i64 a.f).wf = true ∧ (Lit.int .i64 a.t).wf = true := fun a ha => by
  have h1 := h.mem a ha
  have h2 := h.len
  have key : ∀ x : Int, -9223372036854775808 ≤ x → x ≤ 9223372036854775807 → (Lit.int .i64 x).wf = true := fun x g1 g2 => by
    have m1 : IntKind.i64.min = -9223372036854775808 := by decide
    have m2 : IntKind.i64.max = 9223372036854775807 := by decide
    show (decide (IntKind.i64.min ≤ x) && decide (x ≤ IntKind.i64.max)) = true
    rw [m1, m2, decide_eq_true g1, decide_eq_true g2]
    rfl
  exact ⟨key _ (by omega) (by omega), key _ (by omega) (by omega)⟩
theorem FShIs.ex (n : Int) (p : List Ch) (o : List Fo) : ∃ r, FShIs n p o r := by
  by_cases h1 : nrm M40 0 0 true p
  · by_cases h2 : n < folast p
    · exact ⟨1, fun h => absurd h1 h, fun _ _ => rfl, fun _ h => absurd h2 h⟩
    · exact ⟨_, fun h => absurd h1 h, fun _ h => absurd h h2, fun _ _ => rfl⟩
  · exact ⟨4, fun _ => rfl, fun h => absurd h h1, fun h => absurd h h1⟩
theorem FShIs.inv {n : Int} {p : List Ch} {o : List Fo} (h : FShIs n p o 0) : FInv (n + dlt p) (ord flt (fshift p o)) := by
  by_cases h1 : nrm M40 0 0 true p
  · by_cases h2 : n < folast p
    · exact absurd (h.2.1 h1 h2) (by decide)
    · exact FInv.of_ord (h.2.2 h1 h2).symm
  · exact absurd (h.1 h1) (by decide)
/-- A store into another block leaves a set, and rows, as they were. -/
theorem FSet.apart {W : World} {sb : Nat} {n : Int} {o : List Fo} (h : FSet W sb n o) {b : Nat} {cs : Array Value} (r : RawAt 29 W b cs) (k : Nat) (u : Value) : FSet (W.setCell ⟨b, k, none⟩ u) sb n o := by
  obtain ⟨v, h1, h2⟩ := h
  have hty : ∀ {t : TypeId} {b' : Nat} {cs' : Array Value}, RawAt t W b' cs' → t ≠ 29 → b' ≠ b := fun {t b' cs'} h ht e => by
    subst e
    unfold RawAt at h r
    rw [h] at r
    injection r with r
    injection r with _ r2 _
    exact ht r2
  refine ⟨v, RawAt.set_other h1 (hty h1 (by decide)) k u, own_neF h2 (fun g hg => ?_) k u⟩
  rcases h2.2 with ⟨rfl, _⟩ | ⟨g', cap, cur, rfl, _⟩
  · cases hg
  · obtain ⟨cur2, h3, _⟩ := own_rawD h2
    have : g' = g := by simpa [Value.ownBlock] using hg
    subst this
    exact hty h3 (by decide)
end Go.Proofs.Ytnfjleobcfhpnaa
