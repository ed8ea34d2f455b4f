/- A part of a tree: the contract of tree.cut, whatever the node. -/
import Derived.Test.YtbbplppcabeojaaCutB
namespace Go.Proofs.Ytbbplppcabeojaa
open Go.RowKit
set_option maxHeartbeats 4000000 in
set_option maxRecDepth 100000 in
theorem cut_br (h : Nat) (k : Kd) (x y : Nat) (w : World) (hk : NodeAt (h + 2) w k) (hx : x < y) (hne : ¬ (x = 0 ∧ y = k.l.length))
    (IH : ∀ (b : Nat) (A : Option Addr) (c : Nat) (ks : List Kd) (W : World), BranchAt W k b A c (h + 2) ks → Row (h + 1) W ks → Wd ks → Calls Try.prog 94 #[.pointer (some ⟨b, 0, none⟩), .int .i64 x, .int .i64 y] W fun e w' => ∃ v i, e = .returned v ∧ Top w' v ((k.l.drop x).take (y - x)) i ∧ Below W.heap.size W w') :
    Calls Try.prog 53 #[k.v, .int .i64 x, .int .i64 y] w fun e w' => ∃ v i, e = .returned v ∧ Top w' v ((k.l.drop x).take (y - x)) i ∧ Below w.heap.size w w' := by
  obtain ⟨b, A, c, ks, q, r⟩ := hk
  have t1 := me_b
  have t2 := ta_bl
  have t3 := tp_b
  have tf := fld_n
  obtain ⟨N, hN⟩ : ∃ N, N = k.l.length := ⟨_, rfl⟩
  have C1 := Lib.hid (bsum_n b k.c c (h + 2) N A _ (by rw [hN]; exact sall_n _ q.ok) w q.raw)
  have CL := Lib.hid fun (W : World) (hW : Below w.heap.size w W) => IH b A c ks W (q.below hW) (fun x hx => (r x hx).1.below hW) (fun x hx => (r x hx).2)
  have hxy : ((x : Int) == (y : Int)) = false := by simp; omega
  have hyN : x = 0 → ((y : Int) == (N : Int)) = false := fun h => by simp; omega
  rw [q.v]
  clear q r hN hne IH
  generalize (k.l.drop x).take (y - x) = l at *
  by_cases hx0 : x = 0
  · subst hx0
    have hyN := hyN rfl
    have i0 : ((0 : Int) == (y : Int)) = false := hxy
    unfold brv at *
    have CL0 : Hid (∀ W : World, Below w.heap.size w W → Calls Try.prog 94 #[.pointer (some ⟨b, 0, none⟩), .int .i64 0, .int .i64 y] W fun e w' => ∃ v i, e = .returned v ∧ Top w' v l i ∧ Below W.heap.size W w') := CL
    clear CL
    go_enter Try.func53, Try.ntmps53
    go_wp2_with fail
    refine C1.out.mono ?_
    rintro e w1 ⟨rfl, hb1⟩
    go_wp2_with fail
    refine (CL0.out _ hb1).mono ?_
    rintro e w2 ⟨v2, i2, rfl, hT2, hb2⟩
    have HT := Lib.hid hT2; clear hT2
    go_wp2
    go_ret
    exact ⟨_, _, rfl, HT.out, hb1.trans (hb2.mono hb1.size)⟩
  · have i0 : ((x : Int) == 0) = false := by simp; omega
    clear hyN
    unfold brv at *
    go_enter Try.func53, Try.ntmps53
    go_wp2_with fail
    refine (CL.out _ (Below.refl _ _)).mono ?_
    rintro e w2 ⟨v2, i2, rfl, hT2, hb2⟩
    have HT := Lib.hid hT2; clear hT2
    go_wp2
    go_ret
    exact ⟨_, _, rfl, HT.out, hb2⟩
theorem cut_any : ∀ (h : Nat) (k : Kd) (w : World) (x y : Nat), NodeAt h w k → (2 ≤ h → 2 ≤ k.c) → x ≤ y → y ≤ k.l.length → k.l.length ≤ 100000 →
    Calls Try.prog 53 #[k.v, .int .i64 x, .int .i64 y] w fun e w' => ∃ v i, e = .returned v ∧ Top w' v ((k.l.drop x).take (y - x)) i ∧ Below w.heap.size w w' := by
  intro h
  induction h with
  | zero => intro k w x y hk; exact hk.elim
  | succ h ih =>
    intro k w x y hk hc hx hy hz
    rcases Nat.lt_or_eq_of_le hx with hlt | rfl
    · by_cases hne : x = 0 ∧ y = k.l.length
      · obtain ⟨rfl, rfl⟩ := hne
        have e1 : (k.l.drop 0).take (k.l.length - 0) = k.l := by simp
        rw [e1]
        have key : Calls Try.prog 53 #[k.v, .int .i64 0, .int .i64 k.l.length] w fun e w' => e = .returned k.v ∧ Below w.heap.size w w' := by
          match h, hk with
          | 0, hk => exact cut_all_leaf k w _ rfl hlt hk
          | h + 1, hk => exact cut_all_br h k w _ rfl hlt hk
        refine key.mono ?_
        rintro e w' ⟨rfl, hb⟩
        exact ⟨_, h + 1, rfl, .inr ⟨k.c, hk.below hb, hc⟩, hb⟩
      · match h, hk, ih with
        | 0, hk, _ =>
          refine (cut_leaf k x y w hk hlt hy hne).mono ?_
          rintro e w' ⟨v, rfl, hN, hb⟩
          exact ⟨v, 1, rfl, .inr ⟨_, hN, fun h => absurd h (by omega)⟩, hb⟩
        | 1, hk, ih =>
          exact cut_br 0 k x y w hk hlt hne (fun b A c ks W q hr hw => cutBranch_leaf k b A c ks x y W q hr hw hz hlt hy (fun j W x y h1 h2 h3 h4 h5 => ih j W x y h1 (fun h => absurd h (by omega)) h3 h4 h5))
        | h + 2, hk, ih =>
          exact cut_br (h + 1) k x y w hk hlt hne (fun b A c ks W q hr hw => cutBranch_br h k b A c ks x y W q hr hw hz hlt hy (fun j W x y h1 h2 h3 h4 h5 => ih j W x y h1 (fun _ => by omega) h3 h4 h5))
    · refine (cut_none k.v x w).mono ?_
      rintro e w' ⟨rfl, rfl⟩
      exact ⟨_, 0, rfl, .inl ⟨rfl, rfl, by rw [Nat.sub_self]; rfl⟩, Below.refl _ _⟩
end Go.Proofs.Ytbbplppcabeojaa
