/- Weaves: Update, of sets that are the same outside of some places. -/
import Derived.Test.YtbeclkhahdcmbaaGreatWvU
import Derived.Test.YtbeclkhahdcmbaaGreatWvL
namespace Go.Proofs.YtbeclkhahdcmbaaGreat
open Go.RowKit Go.Sort
set_option linter.unusedVariables false
theorem wsh_zero (l : List In) : wsh 0 l = l := by
  unfold wsh
  have : ∀ a ∈ l, (⟨a.id, a.pl + 0, a.bi, a.ky, a.tx⟩ : In) = id a := fun a _ => by rw [Int.add_zero]; rfl
  rw [List.map_congr_left this, List.map_id]
/-- Sets in order of which one is the other outside of some places. -/
structure WvTurn (o o' : List In) (f t t' : Int) : Prop where
  lo : (o.filter fun a => decide (a.pl < f)) = o'.filter fun a => decide (a.pl < f)
  hi : wsh (t' - t) (o.filter fun a => decide (t < a.pl)) = o'.filter fun a => decide (t' < a.pl)
theorem wfnd_right_ge {X C : List In} {n t : Int} (hX : ∀ a ∈ X, 0 ≤ a.pl ∧ a.pl ≤ t) (hs : wPlS X) : (wvQ 0 X).length ≤ wfnd 0 (wvP 0 (X ++ C) n) t 1 := by
  have e := wfnd_Q t 1 (wvP (wlast 0 X) C n) X 0 (fun a ha => (hX a ha).1) hs (fun a ha => by rw [if_neg (by omega)]; exact (hX a ha).2)
  rw [show t - 0 = t from by omega] at e
  rw [wvP_append, e]
  omega
theorem wlast_ge : ∀ (A : List In) (f : Int), (∀ a ∈ A, f ≤ a.pl) → wPlS A → f ≤ wlast f A := fun A f h hs => (wdsum_Q A f h hs).2
set_option maxHeartbeats 4000000 in
theorem wvUpd_set {p ps : Option Addr} {o o' : List In} {n n' f t t' : Int} {h : Nat} {w : World} (ht : WvAt w p (wvP 0 o n) h) (ho : wOSet n o) (ho' : wOSet n' o') (hturn : WvTurn o o' f t t')
    (hLen : ∀ W, Below w.heap.size w W → Calls Tryz.prog 29 #[.pointer ps] W fun e w' => e = .returned (.int .i64 n') ∧ Below W.heap.size W w')
    (hIn : ∀ W, Below w.heap.size w W → Calls Tryz.prog 39 #[.pointer ps, .int .i64 f, .int .i64 t'] W fun e w' => ∃ v, e = .returned v ∧ w'.ownsRow W.heap.size 48 5 v (iwithin f t' o').length (kfl encI (iwithin f t' o')) ∧ Below W.heap.size W w')
    (h0 : 0 ≤ f) (hft : f ≤ t) (htn : t ≤ n) (hft' : f ≤ t') (htn' : t' ≤ n') (hd : n - t = n' - t') :
    Calls Tryz.prog 11 #[.pointer p, .agg #[.int .i64 f, .int .i64 t], .agg #[.int .i64 f, .int .i64 t'], .pointer ps] w fun e w' => ∃ a h', e = .returned (.tuple #[.pointer (some a), .int .i64 0]) ∧ WvAt w' (some a) (wvP 0 o' n') h' ∧ Below w.heap.size w w' := by
  obtain ⟨A, hA⟩ : ∃ A, A = o.filter fun a => decide (a.pl < f) := ⟨_, rfl⟩
  obtain ⟨B, hB⟩ : ∃ B, B = iwithin f t o := ⟨_, rfl⟩
  obtain ⟨C, hC⟩ : ∃ C, C = o.filter fun a => decide (t < a.pl) := ⟨_, rfl⟩
  obtain ⟨B', hB'⟩ : ∃ B', B' = iwithin f t' o' := ⟨_, rfl⟩
  have e1 : o = A ++ B ++ C := by rw [hA, hB, hC]; exact wpls_part ho.pls f t hft
  have e2 : o' = A ++ B' ++ wsh (t' - t) C := by rw [hA, hB', hC, hturn.lo, hturn.hi]; exact wpls_part ho'.pls f t' hft'
  have mA : ∀ a ∈ A, 0 ≤ a.pl ∧ a.pl < f := fun a ha => by
    rw [hA] at ha
    obtain ⟨h1, h2⟩ := List.mem_filter.1 ha
    exact ⟨(wiwr_ok (ho.each a h1).1).2.1, of_decide_eq_true h2⟩
  have mB : ∀ a ∈ B, f ≤ a.pl ∧ a.pl ≤ t := fun a ha => by
    rw [hB] at ha
    exact of_decide_eq_true (List.mem_filter.1 ha).2
  have mC : ∀ a ∈ C, t < a.pl ∧ a.pl ≤ n := fun a ha => by
    rw [hC] at ha
    obtain ⟨h1, h2⟩ := List.mem_filter.1 ha
    exact ⟨of_decide_eq_true h2, (wiwr_ok (ho.each a h1).1).2.2.1⟩
  have sAB : wPlS (A ++ B) := by
    have := ho.pls
    rw [e1] at this
    exact (List.pairwise_append.1 this).1
  have sA : wPlS A := (List.pairwise_append.1 sAB).1
  have mB' : ∀ a ∈ B', a ∈ o' := fun a ha => by rw [hB'] at ha; exact (List.mem_filter.1 ha).1
  have hX : ∀ a ∈ A ++ B, 0 ≤ a.pl ∧ a.pl ≤ t := fun a ha => by
    rcases List.mem_append.1 ha with ha | ha
    · have := mA a ha; omega
    · have := mB a ha; omega
  have hmain := wv_update (B' := B') (d := t' - t) mA sA mB sAB mC h0 hft htn
  obtain ⟨g1, g2, g3⟩ := wfnd_left (A := A) (Y := B ++ C) (n := n) (p := f) mA sA (fun a ha => by
    rcases List.mem_append.1 ha with ha | ha
    · exact (mB a ha).1
    · have := (mC a ha).1; omega) h0 (by omega)
  rw [← List.append_assoc] at g1 g2 g3
  obtain ⟨r1, r2⟩ := wfnd_right (X := A ++ B) (C := C) (n := n) (t := t) hX sAB mC (by omega) htn
  have hge := wfnd_right_ge (X := A ++ B) (C := C) (n := n) hX sAB
  have hlq : (wvQ 0 A).length ≤ (wvQ 0 (A ++ B)).length := by rw [wvQ_append, List.length_append]; omega
  have hlL := wlast_ge A 0 (fun a ha => (mA a ha).1) sA
  have hlU := wlast_le A 0 f h0 (fun a ha => by have := mA a ha; omega)
  have hwf : t ≤ wfst C n ∧ wfst C n ≤ n := by
    cases C with
    | nil => exact ⟨htn, Int.le_refl _⟩
    | cons c C => have := mC c (by simp); exact ⟨by show t ≤ c.pl; omega, this.2⟩
  obtain ⟨s1, s2, s3⟩ := wsp_len o 0 n ho.wv
  have hn1 := ho.n1
  have hn1' := ho'.n1
  have hol := ho.len
  have hol' := ho'.len
  have hBl : B'.length ≤ 60 := by rw [hB']; exact Nat.le_trans (iwithin_len _ _ _) hol'
  have hpl := wvP_len 0 o n
  have hle1 := wfnd_le 0 (wvP 0 o n) f 0
  rw [e1] at ht hpl hle1
  rw [show n + (t' - t) = n' from by omega, ← e2] at hmain
  have e3 : t + (t' - t) = t' := by omega
  rw [e3] at hmain
  have := wvUpd_yes (B := B') ht f t t' n' hLen (by rw [hB']; exact hIn) h0 hft (by rw [← e1, s3]; omega) hft' htn' (by rw [← e1, s3]; omega) hn1' (by rw [← e1, s3]; omega) (by omega)
    (fun a ha => by
      have hm := mB' a ha
      have q := wiwr_ok (ho'.each a hm).1
      exact ⟨by omega, Nat.le_trans (ho'.each a hm).2 (by omega)⟩) (by rw [← e1] at hpl ⊢; omega)
    (by rw [g1] at hle1 ⊢; omega)
    (by
      rw [g1, g2, r1]
      refine wvP_ok (fun a ha => ?_) hlL (by omega) (by omega)
      have hm := mB' a ha
      have q := wiwr_ok (ho'.each a hm).1
      exact ⟨by omega, by omega, Nat.le_trans (dec_len a.tx) (Nat.le_trans (ho'.each a hm).2 (by omega))⟩)
    (by rw [g1, g2]; omega) (by rw [r1]; omega)
  refine this.mono ?_
  rintro e w' ⟨a, h', he, hw, hb⟩
  refine ⟨a, h', he, ?_, hb⟩
  rw [hmain] at hw
  exact hw
/-- Sets in order whose inlays are the same are one. -/
theorem filt_ord {l d : List In} (hp : d.Perm l) (hs : d.Pairwise fun a b => ilt b a = false) (ha : IApart l) (q : In → Bool) (hq : (l.filter q).Pairwise fun a b => ilt b a = false) : d.filter q = l.filter q := by
  have h1 := ord_self (l := l.filter q) (d := d.filter q) (hp.filter q) (List.Pairwise.filter q hs) (apart_filter ha q)
  have h2 := ord_self (l := l.filter q) (d := l.filter q) (List.Perm.refl _) hq (apart_filter ha q)
  rw [← h1, h2]
end Go.Proofs.YtbeclkhahdcmbaaGreat
