/- Weaves: the contracts of Pieces, and of the law's refs, same, long. Weaves: the law's is, where it is so. Weaves: New of a set; the law's small case; the law's long. -/
import Derived.Test.YtjkmkobnfhepaaaGreatWvI
import Derived.Test.YtjkmkobnfhepaaaGreatWvE
import Derived.Test.YtjkmkobnfhepaaaGreatTpF
import Derived.Test.YtjkmkobnfhepaaaGreatInN
namespace Go.Proofs.YtjkmkobnfhepaaaGreat
open Go.RowKit
set_option linter.unusedVariables false
theorem witsW {w : World} {A : Option Addr} {l : List I7} (h : ItsAt w A l) {k : Nat} (hk : k < l.length) : ∃ b off, A = some ⟨b, off, none⟩ ∧ b < w.heap.size ∧ w.cell? ⟨b, off + k * 7, none⟩ = some (.int .i64 l[k].tag) ∧ w.cell? ⟨b, off + k * 7 + 1, none⟩ = some (.int .i64 l[k].id) ∧ w.cell? ⟨b, off + k * 7 + 2, none⟩ = some (.int .i64 l[k].d0) ∧ w.cell? ⟨b, off + k * 7 + 3, none⟩ = some (.int .i64 l[k].d1) ∧ w.cell? ⟨b, off + k * 7 + 4, none⟩ = some (.int .i64 l[k].d2) ∧ w.cell? ⟨b, off + k * 7 + 5, none⟩ = some (.int .i64 l[k].mx) ∧ w.cell? ⟨b, off + k * 7 + 6, none⟩ = some (.string l[k].tx) := by
  obtain ⟨b, off, e, h1, hc⟩ := h (by omega)
  have hx := hc k hk
  rw [ith_get l hk] at hx
  exact ⟨b, off, e, h1, hx⟩
set_option linter.unusedVariables false
/-- What the document says of a right set's weave, by its pieces. -/
theorem wv_doc {o : List In} {n : Nat} (h : Wv 0 o n) : wdS o n (n + 1) 0 = wsp 0 o n ∧ wgrp [] (wdS o n (n + 1) 0) = wpcs (wvP 0 o n) ∧ ((wdS o n (n + 1) 0).length : Int) = wdsum 1 (wvP 0 o n) ∧ wdsum 0 (wvP 0 o n) = n ∧ wdsum 1 (wvP 0 o n) = n + wosum n 1 o := by
  have e := wdS_sp o n 0 n (by omega) h.pls (fun a ha => ⟨h.lo a ha, h.hi a ha⟩)
  obtain ⟨h1, h2, h3⟩ := wsp_len o 0 n h
  refine ⟨e, ?_, by rw [e, h1, h2], by rw [h3]; omega, by rw [h2]; omega⟩
  rw [e, wgrp_sp o 0 n [] h (fun x hx => by cases hx) (fun a _ x hx => by cases hx)]
  rfl
set_option linter.unusedVariables false
/-- Inlays in a set, such as the laws go through. -/
structure wOSet (n : Int) (o : List In) : Prop where
  pls : wPlS o
  each : ∀ a ∈ o, iwr n a = 0 ∧ a.tx.size ≤ 1000
  apart : IApart o
  len : o.length ≤ 60
  n0 : 0 ≤ n
  n1 : n ≤ 1099511627776
theorem wiwr_ok {n : Int} {a : In} (h : iwr n a = 0) : 1 ≤ a.id ∧ 0 ≤ a.pl ∧ a.pl ≤ n ∧ 0 < wcnt a ∧ (a.bi = 0 ∨ a.bi = 1) := by
  unfold iwr at h
  split at h
  · cases h
  · split at h
    · cases h
    · split at h
      · cases h
      · rename_i h1 h2 h3
        have : wcnt a = (dec a.tx).length := rfl
        refine ⟨by omega, by omega, by omega, ?_, by omega⟩
        rw [this]
        exact Nat.pos_of_ne_zero (fun e => h3 (.inl e))
theorem wOSet.wv {n : Int} {o : List In} (h : wOSet n o) : Wv 0 o n :=
  ⟨h.pls, fun a ha => (wiwr_ok (h.each a ha).1).2.1, fun a ha => (wiwr_ok (h.each a ha).1).2.2.1, h.n0, fun a ha => (wiwr_ok (h.each a ha).1).2.2.2.1, fun a ha => (wiwr_ok (h.each a ha).1).1, h.apart⟩
theorem wvNew_set {sb : Nat} {n : Int} {o : List In} {w : World} (h : ISet w sb n o) (ho : wOSet n o) :
    Calls Tryz.prog 21 #[.pointer (some ⟨sb, 0, none⟩)] w fun e w' => ∃ a h, e = .returned (.pointer (some a)) ∧ WvAt w' (some a) (wvP 0 o n) h ∧ Below w.heap.size w w' :=
  wvNew_of _ o n w ho.n0 ho.n1 (Nat.le_trans ho.len (by omega)) (fun a ha => ⟨(wiwr_ok (ho.each a ha).1).2.1, by have := (wiwr_ok (ho.each a ha).1).2.2.1; have := ho.n1; omega, Nat.le_trans (ho.each a ha).2 (by omega)⟩)
    (fun W hW => iAll_any (h.below hW) (Nat.le_trans ho.len (by omega))) (fun W hW => iLen_any (h.below hW))
/-- The set that New makes, such as the laws go through. -/
theorem woset_new {n : Int} {l : List In} (h : iwrong n l = 0) (hs : ∀ x ∈ l, x.tx.size ≤ 200) : wOSet n (ord ilt (l.map icl)) := by
  obtain ⟨a0, a1, a2, a3, a4⟩ := iwrong_is h
  obtain ⟨b1, b2, b3⟩ := ord_icl h
  have hz := ord_size h
  refine ⟨?_, fun a ha => ⟨(b3 a ha).1, Nat.le_trans (hz a ha).1 (by omega)⟩, b1, by rw [b2]; exact a2, a0, a1⟩
  refine List.Pairwise.imp ?_ (ord_sorted ilt ilt_swo (l.map icl))
  intro a b hab
  have : ¬ ilt b a = true := by rw [hab]; simp
  unfold ilt at this
  simp only [decide_eq_true_eq] at this
  omega
end Go.Proofs.YtjkmkobnfhepaaaGreat
