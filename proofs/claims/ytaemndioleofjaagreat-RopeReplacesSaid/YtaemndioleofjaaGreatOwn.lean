/- Appending integers onto a row of the call's own, the source nil, empty or not; what a row of one's own is behind a call. -/
import Derived.Test.YtaemndioleofjaaGreatBase
namespace Go.Proofs.YtaemndioleofjaaGreat
open Go.RowKit
theorem i32_info : (Tryz.prog.info? 21).map (fun i => (i.zero, i.size, i.bytes)) = some (some (.int .i32 0), 1, 4) := by kernel_rfl
theorem IntsAt.news {kd : IntKind} {w : World} {a : Addr} {l : List Int} (h : IntsAt kd w (some a) l) : ∀ (j : Nat) (u : Value), (l.map (Value.int kd))[j]? = some u → w.cell? (a.add j) = some u := by
  intro j u hu
  have hj : j < l.length := by
    have := (List.getElem?_eq_some_iff.1 hu).1
    rwa [List.length_map] at this
  obtain ⟨b, off, e, _, hc⟩ := h (by omega)
  obtain rfl : a = ⟨b, off, none⟩ := by injection e
  rw [Go.WideShapes.add_plain, hc j hj, ← hu]
  simp [nth, List.getD, hj]
theorem wpList_append_ints {w : World} {ops : Array Oper} {rest : List Oper} {o : Oper} {a : Act} {Q : Exit → Act → World → Prop} (hgd : o.guard = none) (s x : Operand)
    (ho : o.op = .call { callee := .builtin .append, args := #[s, x], argTypes := #[28, 28] })
    (base : Nat) (v : Value) (n : Nat) (xs : List Value) (hs : a.eval s = v) (hown : w.ownsRow base 21 1 v n xs)
    (A : Option Addr) (m c : Nat) (l : List Int) (hx : a.eval x = .slice A m c) (hA : IntsAt .i32 w A l) (hcap : Caps A m c) (hl : l.length = m) (hsz : n + m ≤ 1000000000) (hbase : base ≤ w.heap.size)
    (h : ∀ v' w', w'.ownsRow base 21 1 v' (n + m) (xs ++ l.map (.int .i32)) → w.grownBy w' v.ownBlock → wpList Tryz.prog ops Q rest (a.put o.dst v') w') : wpList Tryz.prog ops Q (o :: rest) a w := by
  obtain ⟨i0, hi0, hz0, hz1, hz2⟩ := info_parts i32_info
  rcases A with _ | ad
  · obtain rfl := hcap.2 rfl
    have hm : m = 0 := by have := hcap.1; omega
    subst hm
    have hl0 : l = [] := List.eq_nil_of_length_eq_zero hl
    subst hl0
    exact wpList_append_own_none hgd s x _ ho base 21 i0 1 Tryz.underlying28 hi0 v n xs hs hown hx (h v w (by simpa using hown) (World.grownBy.refl w _))
  · exact wpList_append_own w hgd s x _ ho base 21 i0 (.int .i32 0) 1 4 Tryz.underlying28 hi0 hz0 hz1 hz2 rfl (by omega) v n xs hs hown ad m c (l.map (.int .i32)) hx (by rw [List.length_map]; omega) hA.news
      (fun u hu => by obtain ⟨z, _, rfl⟩ := List.mem_map.1 hu; rfl) (by simp only [maxLen]; omega) (by omega) hbase (fun v' w' h1 h2 _ => h v' w' h1 h2)
end Go.Proofs.YtaemndioleofjaaGreat
