/- A sum's size, and whether it is so far: the contracts of tree.size and of the closure in Find. A place in a tree: plain facts, for tree.find. -/
import Derived.Test.YtnfjleobcfhpnaaTreeQ
import Derived.Test.YtnfjleobcfhpnaaTop
import Derived.Test.YtnfjleobcfhpnaaSumOf
import Derived.Test.YtnfjleobcfhpnaaItAdd
import Derived.Test.YtnfjleobcfhpnaaCutP
namespace Go.Proofs.Ytnfjleobcfhpnaa
open Go.RowKit
/-- A size of a sum. -/
def ssz (s : S6) (dim : Nat) : Int := if dim = 3 then s.n else if dim = 0 then s.d0 else if dim = 1 then s.d1 else s.d2
theorem ssz_sdim (l : List I7) (ho : Okl l) (dim : Nat) : ssz (sall l) dim = sdim l dim := by
  unfold ssz sdim
  rw [(sall_ok _ l rfl ho).1]
set_option maxHeartbeats 2000000 in
set_option maxRecDepth 100000 in
theorem tsize_any (s : S6) (dim : Nat) (w : World) (hd : dim ≤ 3) :
    Calls Try.prog 128 #[.agg (scs s), .int .i64 dim] w fun e w' => e = .returned (.int .i64 (ssz s dim)) ∧ Below w.heap.size w w' := by
  have hb1 : Below w.heap.size w (w.alloc (.cells (scs s) 128)) := (Below.refl _ _).alloc (Nat.le_refl _) _
  obtain rfl | rfl | rfl | rfl : dim = 3 ∨ dim = 0 ∨ dim = 1 ∨ dim = 2 := by omega
  · have HS := Lib.hid (show ssz s 3 = s.n from rfl)
    unfold scs at *
    go_enter Try.func128, Try.ntmps128
    go_wp2
    go_ret
    exact ⟨ret_int (by rw [HS.out]), hb1⟩
  all_goals
    have hx0 := fun W => idx3_0 s.d0 s.d1 s.d2 W
    have hx1 := fun W => idx3_1 s.d0 s.d1 s.d2 W
    have hx2 := fun W => idx3_2 s.d0 s.d1 s.d2 W
    have HS := Lib.hid (show ssz s 0 = s.d0 ∧ ssz s 1 = s.d1 ∧ ssz s 2 = s.d2 from ⟨rfl, rfl, rfl⟩)
    unfold scs at *
    go_enter Try.func128, Try.ntmps128
    go_wp2
    go_ret
    exact ⟨ret_int (by first | exact HS.out.1.symm | exact HS.out.2.1.symm | exact HS.out.2.2.symm), hb1⟩
/-- The closure's three variables. -/
def Env (w : World) (dim : Nat) (v bi : Int) (bd bv bb : Nat) : Prop := ∀ W, Below w.heap.size w W → W.cell? ⟨bd, 0, none⟩ = some (.int .i64 dim) ∧ W.cell? ⟨bv, 0, none⟩ = some (.int .i64 v) ∧ W.cell? ⟨bb, 0, none⟩ = some (.int .i64 bi)
theorem Env.below {w w' : World} {dim : Nat} {v bi : Int} {bd bv bb : Nat} (h : Env w dim v bi bd bv bb) (hb : Below w.heap.size w w') : Env w' dim v bi bd bv bb := fun W hW => h W (hb.trans (hW.mono hb.size))
set_option maxHeartbeats 4000000 in
set_option maxRecDepth 100000 in
theorem far_any (s : S6) (dim : Nat) (v bi : Int) (bd bv bb : Nat) (w : World) (hd : dim ≤ 3) (hE : Env w dim v bi bd bv bb) (fb : Bool) (hfb : fb = true ↔ Stops (ssz s dim) v bi) :
    Calls Try.prog 129 #[.agg (scs s), .pointer (some ⟨bd, 0, none⟩), .pointer (some ⟨bv, 0, none⟩), .pointer (some ⟨bb, 0, none⟩)] w fun e w' => e = .returned (.bool fb) ∧ Below w.heap.size w w' := by
  have C1 := Lib.hid fun (W : World) => tsize_any s dim W hd
  have hb1 : Below w.heap.size w (w.alloc (.cells (scs s) 128)) := (Below.refl _ _).alloc (Nat.le_refl _) _
  obtain ⟨h0, h1, h2⟩ := hE _ hb1
  have HE := Lib.hid hE
  clear hE
  unfold scs at *
  go_enter Try.func129, Try.ntmps129
  go_wp2_with fail
  refine (C1.out _).mono ?_
  rintro e w2 ⟨rfl, hb2⟩
  have a2 := hb1.trans (hb2.mono hb1.size)
  obtain ⟨k0, k1, k2⟩ := HE.out _ a2
  clear h0 h1 h2
  generalize ssz s dim = z at *
  have HF := Lib.hid hfb; clear hfb
  rcases Int.lt_trichotomy v z with hz | rfl | hz
  · have HX := Lib.hid (ab_yes HF.out (.inl hz))
    go_wp2_with fail
    go_ret
    exact ⟨ret_bool HX.out, a2⟩
  · by_cases hb0 : bi = 0
    · subst hb0
      have HX := Lib.hid (ab_yes HF.out (.inr ⟨rfl, rfl⟩))
      go_wp2_with fail
      go_ret
      exact ⟨ret_bool HX.out, a2⟩
    · have HX := Lib.hid (ab_no HF.out (fun h => by rcases h with h | h <;> omega))
      have hb1 : (bi == 0) = false := by simp [hb0]
      go_wp2_with fail
      go_ret
      exact ⟨ret_bool HX.out, a2⟩
  · have HX := Lib.hid (ab_no HF.out (fun h => by rcases h with h | h <;> omega))
    have hz1 : ¬ (v < z) := by omega
    have hz2 : (z == v) = false := by simp; omega
    go_wp2_with fail
    go_ret
    exact ⟨ret_bool ((decide_eq_false (by omega)).trans HX.out), a2⟩
/-- Is the end of the first k items so far? -/
def Sto (l : List I7) (dim : Nat) (v b : Int) (k : Nat) : Prop := Stops (sdim (l.take k) dim) v b
theorem sall_mono (l : List I7) (ho : Okl l) {a b : Nat} (h : a ≤ b) (dim : Nat) : sdim (l.take a) dim ≤ sdim (l.take b) dim := by
  have e : l.take b = l.take a ++ (l.drop a).take (b - a) := by
    have := List.take_add (l := l) (i := a) (j := b - a)
    rw [show a + (b - a) = b by omega] at this
    exact this
  have ho1 : Okl (l.take a) := ho.take_ a
  have ho2 : Okl ((l.drop a).take (b - a)) := fun i hi => ho i (List.mem_of_mem_drop (List.mem_of_mem_take hi))
  have hs := sall_append _ (l.take a) ((l.drop a).take (b - a)) rfl ho1 ho2
  rw [← e] at hs
  have h1 := sall_ok _ (l.take a) rfl ho1
  have h2 := sall_ok _ ((l.drop a).take (b - a)) rfl ho2
  have hlen : (l.take b).length = (l.take a).length + ((l.drop a).take (b - a)).length := by rw [e, List.length_append]
  generalize (l.drop a).take (b - a) = r at *
  obtain ⟨a1, a2, a3, a4, a5, a6, a7, a8, a9, a10, a11, a12, a13⟩ := h1
  obtain ⟨b1, b2, b3, b4, b5, b6, b7, b8, b9, b10, b11, b12, b13⟩ := h2
  unfold sdim
  rw [hs]
  by_cases z1 : (sall (l.take a)).n = 0
  · rw [sadd_z z1]
    have hz : (l.take a).length = 0 := by omega
    rw [hz] at a4 a6 a8
    repeat' split
    all_goals omega
  · by_cases z2 : (sall r).n = 0
    · rw [sadd_w z1 z2]
      repeat' split
      all_goals omega
    · rw [sadd_s z1 z2]
      repeat' split
      all_goals (try simp only)
      all_goals omega
theorem Sto.mono {l : List I7} {dim : Nat} {v b : Int} {i k : Nat} (ho : Okl l) (h : i ≤ k) (hn : ¬ Sto l dim v b k) : ¬ Sto l dim v b i := by
  have := sall_mono l ho h dim
  unfold Sto Stops at *
  omega
/-- Where the search is: at a node with those items, behind q of all. -/
structure Way (l m : List I7) (dim : Nat) (v b : Int) (q : Nat) : Prop where
  at_ : (l.drop q).take m.length = m
  le : q + m.length ≤ l.length
  no : q = 0 ∨ ¬ Sto l dim v b q
  yes : q + m.length = l.length ∨ Sto l dim v b (q + m.length)
theorem Way.take {l m : List I7} {dim : Nat} {v b : Int} {q : Nat} (h : Way l m dim v b q) (j : Nat) (hj : j ≤ m.length) : l.take (q + j) = l.take q ++ m.take j := by
  rw [List.take_add]
  congr 1
  rw [← h.at_, List.take_take, Nat.min_eq_left hj]
theorem Way.find {l m : List I7} {dim : Nat} {v b : Int} {q k : Nat} (h : Way l m dim v b q) (ho : Okl l) (hk : q ≤ k) (hk2 : k < q + m.length) (hn : k = 0 ∨ ¬ Sto l dim v b k) (hy : Sto l dim v b (k + 1)) : FindIs l dim v b k := by
  refine ⟨by have := h.le; omega, fun j hj hs => ?_, fun _ => hy⟩
  rcases hn with rfl | hn
  · omega
  · exact Sto.mono ho (show j + 1 ≤ k by omega) hn hs
theorem Way.end_ {l m : List I7} {dim : Nat} {v b : Int} {q : Nat} (h : Way l m dim v b q) (ho : Okl l) (hn : ¬ Sto l dim v b (q + m.length)) : FindIs l dim v b (q + m.length) := by
  refine ⟨h.le, fun j hj hs => Sto.mono ho (show j + 1 ≤ q + m.length by omega) hn hs, fun hlt => ?_⟩
  rcases h.yes with h1 | h1
  · omega
  · exact absurd h1 hn
/-- A node's kid. -/
theorem Way.kid {l : List I7} {ks : List Kd} {dim : Nat} {v b : Int} {q j : Nat} (h : Way l (fl ks) dim v b q) (hj : j < ks.length) (hn : q + sz ks j = 0 ∨ ¬ Sto l dim v b (q + sz ks j)) (hy : Sto l dim v b (q + sz ks (j + 1))) : Way l (kth ks j).l dim v b (q + sz ks j) := by
  have es := sz_succ ks hj
  have el := sz_le ks (j + 1)
  have hle := h.le
  refine ⟨?_, by omega, hn, .inr (by rw [Nat.add_assoc, ← es]; exact hy)⟩
  have e1 : fl ks = fl (ks.take j) ++ ((kth ks j).l ++ fl (ks.drop (j + 1))) := by
    rw [← List.append_assoc, ← fl_take ks hj, ← fl_append, List.take_append_drop]
  have hl : (fl (ks.take j)).length = sz ks j := rfl
  have e2 : ((l.drop q).take (fl ks).length).drop (sz ks j) = (kth ks j).l ++ fl (ks.drop (j + 1)) := by
    rw [h.at_, e1, ← hl, List.drop_left]
  have e3 := congrArg (fun x => x.take (kth ks j).l.length) e2
  simp only [List.take_left] at e3
  rw [List.drop_take, List.take_take, List.drop_drop, Nat.min_eq_left (by omega)] at e3
  exact e3
theorem sall_at {l : List I7} {ks : List Kd} {dim : Nat} {v b : Int} {q j : Nat} (h : Way l (fl ks) dim v b q) (ho : Okl l) (hj : j < ks.length) (hk : Okl (kth ks j).l) : sall (l.take (q + sz ks (j + 1))) = sadd (sall (l.take (q + sz ks j))) (sall (kth ks j).l) := by
  have el := sz_le ks (j + 1)
  have el0 := sz_le ks j
  have hl : ∀ i, (fl ks).take (sz ks i) = fl (ks.take i) := fun i => by
    have e1 : fl ks = fl (ks.take i) ++ fl (ks.drop i) := by rw [← fl_append, List.take_append_drop]
    rw [e1]
    exact List.take_left
  rw [h.take _ el, h.take _ el0, hl, hl, fl_take ks hj, ← List.append_assoc]
  refine sall_append _ _ _ rfl (fun i hi => ?_) hk
  have : i ∈ l.take (q + sz ks j) := by rw [h.take _ el0, hl]; exact hi
  exact ho i (List.mem_of_mem_take this)
theorem sall_at1 {l m : List I7} {dim : Nat} {v b : Int} {q j : Nat} (h : Way l m dim v b q) (hj : j < m.length) : sall (l.take (q + (j + 1))) = sadd (sall (l.take (q + j))) (sof (ith m j)) := by
  rw [h.take _ hj, h.take _ (Nat.le_of_lt hj), take_ith m hj, ← List.append_assoc, sall_snoc]
end Go.Proofs.Ytnfjleobcfhpnaa
