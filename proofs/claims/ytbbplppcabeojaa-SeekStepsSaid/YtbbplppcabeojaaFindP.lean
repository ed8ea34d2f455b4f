/- A place in a tree: plain facts, for tree.find. -/
import Derived.Test.YtbbplppcabeojaaFar
import Derived.Test.YtbbplppcabeojaaSumOf
import Derived.Test.YtbbplppcabeojaaItAdd
import Derived.Test.YtbbplppcabeojaaCutP
import Derived.Test.YtbbplppcabeojaaTreeSpec
namespace Go.Proofs.Ytbbplppcabeojaa
open Go.RowKit
/-- Is the end of the first k items so far? -/
def Sto (l : List I7) (dim : Nat) (v b : Int) (k : Nat) : Prop := Stops (sdim (l.take k) dim) v b
theorem sall_mono (l : List I7) (ho : Okl l) {a b : Nat} (h : a ≤ b) (dim : Nat) : sdim (l.take a) dim ≤ sdim (l.take b) dim := by
  have e : l.take b = l.take a ++ (l.drop a).take (b - a) := by
    have := List.take_add (l := l) (i := a) (j := b - a)
    rw [show a + (b - a) = b by omega] at this
    exact this
  have ho1 : Okl (l.take a) := ho.take_ a
  have ho2 : Okl ((l.drop a).take (b - a)) := fun i hi => ho i (List.mem_of_mem_drop (List.mem_of_mem_take hi))
  have hs := sall_append _ (l.take a) ((l.drop a).take (b - a)) rfl ho1 ho2
  rw [← e] at hs
  have h1 := sall_ok _ (l.take a) rfl ho1
  have h2 := sall_ok _ ((l.drop a).take (b - a)) rfl ho2
  have hlen : (l.take b).length = (l.take a).length + ((l.drop a).take (b - a)).length := by rw [e, List.length_append]
  generalize (l.drop a).take (b - a) = r at *
  obtain ⟨a1, a2, a3, a4, a5, a6, a7, a8, a9, a10, a11, a12, a13⟩ := h1
  obtain ⟨b1, b2, b3, b4, b5, b6, b7, b8, b9, b10, b11, b12, b13⟩ := h2
  unfold sdim
  rw [hs]
  by_cases z1 : (sall (l.take a)).n = 0
  · rw [sadd_z z1]
    have hz : (l.take a).length = 0 := by omega
    rw [hz] at a4 a6 a8
    repeat' split
    all_goals omega
  · by_cases z2 : (sall r).n = 0
    · rw [sadd_w z1 z2]
      repeat' split
      all_goals omega
    · rw [sadd_s z1 z2]
      repeat' split
      all_goals (try simp only)
      all_goals omega
theorem Sto.mono {l : List I7} {dim : Nat} {v b : Int} {i k : Nat} (ho : Okl l) (h : i ≤ k) (hn : ¬ Sto l dim v b k) : ¬ Sto l dim v b i := by
  have := sall_mono l ho h dim
  unfold Sto Stops at *
  omega
/-- Where the search is: at a node with those items, behind q of all. -/
structure Way (l m : List I7) (dim : Nat) (v b : Int) (q : Nat) : Prop where
  at_ : (l.drop q).take m.length = m
  le : q + m.length ≤ l.length
  no : q = 0 ∨ ¬ Sto l dim v b q
  yes : q + m.length = l.length ∨ Sto l dim v b (q + m.length)
theorem Way.take {l m : List I7} {dim : Nat} {v b : Int} {q : Nat} (h : Way l m dim v b q) (j : Nat) (hj : j ≤ m.length) : l.take (q + j) = l.take q ++ m.take j := by
  rw [List.take_add]
  congr 1
  rw [← h.at_, List.take_take, Nat.min_eq_left hj]
theorem Way.find {l m : List I7} {dim : Nat} {v b : Int} {q k : Nat} (h : Way l m dim v b q) (ho : Okl l) (hk : q ≤ k) (hk2 : k < q + m.length) (hn : k = 0 ∨ ¬ Sto l dim v b k) (hy : Sto l dim v b (k + 1)) : FindIs l dim v b k := by
  refine ⟨by have := h.le; omega, fun j hj hs => ?_, fun _ => hy⟩
  rcases hn with rfl | hn
  · omega
  · exact Sto.mono ho (show j + 1 ≤ k by omega) hn hs
theorem Way.end_ {l m : List I7} {dim : Nat} {v b : Int} {q : Nat} (h : Way l m dim v b q) (ho : Okl l) (hn : ¬ Sto l dim v b (q + m.length)) : FindIs l dim v b (q + m.length) := by
  refine ⟨h.le, fun j hj hs => Sto.mono ho (show j + 1 ≤ q + m.length by omega) hn hs, fun hlt => ?_⟩
  rcases h.yes with h1 | h1
  · omega
  · exact absurd h1 hn
/-- A node's kid. -/
theorem Way.kid {l : List I7} {ks : List Kd} {dim : Nat} {v b : Int} {q j : Nat} (h : Way l (fl ks) dim v b q) (hj : j < ks.length) (hn : q + sz ks j = 0 ∨ ¬ Sto l dim v b (q + sz ks j)) (hy : Sto l dim v b (q + sz ks (j + 1))) : Way l (kth ks j).l dim v b (q + sz ks j) := by
  have es := sz_succ ks hj
  have el := sz_le ks (j + 1)
  have hle := h.le
  refine ⟨?_, by omega, hn, .inr (by rw [Nat.add_assoc, ← es]; exact hy)⟩
  have e1 : fl ks = fl (ks.take j) ++ ((kth ks j).l ++ fl (ks.drop (j + 1))) := by
    rw [← List.append_assoc, ← fl_take ks hj, ← fl_append, List.take_append_drop]
  have hl : (fl (ks.take j)).length = sz ks j := rfl
  have e2 : ((l.drop q).take (fl ks).length).drop (sz ks j) = (kth ks j).l ++ fl (ks.drop (j + 1)) := by
    rw [h.at_, e1, ← hl, List.drop_left]
  have e3 := congrArg (fun x => x.take (kth ks j).l.length) e2
  simp only [List.take_left] at e3
  rw [List.drop_take, List.take_take, List.drop_drop, Nat.min_eq_left (by omega)] at e3
  exact e3
theorem sall_at {l : List I7} {ks : List Kd} {dim : Nat} {v b : Int} {q j : Nat} (h : Way l (fl ks) dim v b q) (ho : Okl l) (hj : j < ks.length) (hk : Okl (kth ks j).l) : sall (l.take (q + sz ks (j + 1))) = sadd (sall (l.take (q + sz ks j))) (sall (kth ks j).l) := by
  have el := sz_le ks (j + 1)
  have el0 := sz_le ks j
  have hl : ∀ i, (fl ks).take (sz ks i) = fl (ks.take i) := fun i => by
    have e1 : fl ks = fl (ks.take i) ++ fl (ks.drop i) := by rw [← fl_append, List.take_append_drop]
    rw [e1]
    exact List.take_left
  rw [h.take _ el, h.take _ el0, hl, hl, fl_take ks hj, ← List.append_assoc]
  refine sall_append _ _ _ rfl (fun i hi => ?_) hk
  have : i ∈ l.take (q + sz ks j) := by rw [h.take _ el0, hl]; exact hi
  exact ho i (List.mem_of_mem_take this)
theorem sall_at1 {l m : List I7} {dim : Nat} {v b : Int} {q j : Nat} (h : Way l m dim v b q) (hj : j < m.length) : sall (l.take (q + (j + 1))) = sadd (sall (l.take (q + j))) (sof (ith m j)) := by
  rw [h.take _ hj, h.take _ (Nat.le_of_lt hj), take_ith m hj, ← List.append_assoc, sall_snoc]
end Go.Proofs.Ytbbplppcabeojaa
