/- A part of a tree: the contract of tree.cut, over that of tree.cutBranch. -/
import Derived.Test.YtbbplppcabeojaaTop
namespace Go.Proofs.Ytbbplppcabeojaa
open Go.RowKit
theorem sall_n (l : List I7) (ho : Okl l) : (sall l).n = (l.length : Int) := (sall_ok _ l rfl ho).1
theorem lsum_n (b n c N : Nat) (A : Option Addr) (s : S6) (hN : s.n = (N : Int)) (w : World) (hr : RawAt 130 w b (lcs A n c s)) :
    Calls Try.prog 157 #[.pointer (some ⟨b, 0, none⟩)] w fun e w' => e = .returned (.agg #[.int .i64 N, .int .i64 s.d0, .int .i64 s.d1, .int .i64 s.d2, .int .i64 s.mx, .int .i64 s.pl]) ∧ Below w.heap.size w w' := by
  have := lsum_any b n c A s w hr
  unfold scs at this
  rwa [hN] at this
theorem bsum_n (b n c h N : Nat) (A : Option Addr) (s : S6) (hN : s.n = (N : Int)) (w : World) (hr : RawAt 157 w b (bcs A n c s h)) :
    Calls Try.prog 158 #[.pointer (some ⟨b, 0, none⟩)] w fun e w' => e = .returned (.agg #[.int .i64 N, .int .i64 s.d0, .int .i64 s.d1, .int .i64 s.d2, .int .i64 s.mx, .int .i64 s.pl]) ∧ Below w.heap.size w w' := by
  have := bsum_any b n c h A s w hr
  unfold scs at this
  rwa [hN] at this
theorem fld_n (a b c d e g : Int) (w : World) : (Instr.field 52 (.agg #[.int .i64 a, .int .i64 b, .int .i64 c, .int .i64 d, .int .i64 e, .int .i64 g]) 0).run Try.prog w = .ok (.int .i64 a) w := by kernel_rfl
set_option maxHeartbeats 4000000 in
set_option maxRecDepth 100000 in
theorem cut_none (v : Value) (x : Nat) (w : World) : Calls Try.prog 53 #[v, .int .i64 x, .int .i64 x] w fun e w' => e = .returned .nilIface ∧ w' = w := by
  go_enter Try.func53, Try.ntmps53
  go_wp2
  go_ret
  exact ⟨rfl, rfl⟩
set_option maxHeartbeats 4000000 in
set_option maxRecDepth 100000 in
/-- The whole of a node. -/
theorem cut_all_leaf (k : Kd) (w : World) (N : Nat) (hN : N = k.l.length) (hp : 0 < N) (hk : NodeAt 1 w k) :
    Calls Try.prog 53 #[k.v, .int .i64 0, .int .i64 N] w fun e w' => e = .returned k.v ∧ Below w.heap.size w w' := by
  obtain ⟨b, A, c, q⟩ := hk
  have t1 := me_l
  have tf := fld_n
  have C1 := Lib.hid (lsum_n b k.c c N A _ (by rw [hN]; exact sall_n _ q.ok) w q.raw)
  have i1 : ((0 : Int) == (N : Int)) = false := by simp; omega
  rw [q.v]
  clear q hN
  unfold lfv
  go_enter Try.func53, Try.ntmps53
  go_wp2_with fail
  refine C1.out.mono ?_
  rintro e w1 ⟨rfl, hb1⟩
  go_wp2
  go_ret
  exact ⟨rfl, hb1⟩
set_option maxHeartbeats 4000000 in
set_option maxRecDepth 100000 in
/-- The whole of a node. -/
theorem cut_all_br (h : Nat) (k : Kd) (w : World) (N : Nat) (hN : N = k.l.length) (hp : 0 < N) (hk : NodeAt (h + 2) w k) :
    Calls Try.prog 53 #[k.v, .int .i64 0, .int .i64 N] w fun e w' => e = .returned k.v ∧ Below w.heap.size w w' := by
  obtain ⟨b, A, c, ks, q, hq⟩ := hk
  have t1 := me_b
  have tf := fld_n
  have C1 := Lib.hid (bsum_n b k.c c (h + 2) N A _ (by rw [hN]; exact sall_n _ q.ok) w q.raw)
  have i1 : ((0 : Int) == (N : Int)) = false := by simp; omega
  rw [q.v]
  clear q hq hN
  unfold brv
  go_enter Try.func53, Try.ntmps53
  go_wp2_with fail
  refine C1.out.mono ?_
  rintro e w1 ⟨rfl, hb1⟩
  go_wp2
  go_ret
  exact ⟨rfl, hb1⟩
set_option maxHeartbeats 4000000 in
set_option maxRecDepth 100000 in
theorem cut_leaf (k : Kd) (x y : Nat) (w : World) (hk : NodeAt 1 w k) (hx : x < y) (hy : y ≤ k.l.length) (hne : ¬ (x = 0 ∧ y = k.l.length)) :
    Calls Try.prog 53 #[k.v, .int .i64 x, .int .i64 y] w fun e w' => ∃ v, e = .returned v ∧ NodeAt 1 w' ⟨v, (k.l.drop x).take (y - x), y - x⟩ ∧ Below w.heap.size w w' := by
  have hz := hk.cnt
  obtain ⟨b, A, c, q⟩ := hk
  have t1 := me_l
  have t2 := ta_ll
  have tf := fld_n
  obtain ⟨N, hN⟩ : ∃ N, N = k.l.length := ⟨_, rfl⟩
  have C1 := Lib.hid (lsum_n b k.c c N A _ (by rw [hN]; exact sall_n _ q.ok) w q.raw)
  have hlen := q.len
  have hcap := q.caps
  have E := Lib.hid fun (W : World) (hW : Below w.heap.size w W) => (raw_lcs (q.raw.below hW q.raw.lt)).1
  have e0 := E.out w (Below.refl _ _)
  have hxc : ¬ c = x := by have := hcap.1; omega
  have hI := q.its.cut (show k.l.length = k.c from hlen) hcap.1 x (y - x) (by omega)
  have hC := hcap.cut x (y - x) (by omega)
  simp only [cutI, if_neg hxc] at hI hC
  have CL := Lib.hid fun (W : World) (hW : Below w.heap.size w W) => newLeaf_any (A.map (·.add (x * 7))) (y - x) (c - x) _ W (hI.below hW) (by rw [List.length_take, List.length_drop]; omega) (by omega) (by omega) hC (fun i hi => q.ok i (List.mem_of_mem_drop (List.mem_of_mem_take hi)))
  obtain ⟨i1, hi1, _, _, _⟩ := info_parts item_info
  have s1 : ∀ W : World, (Instr.slice 22 (.slice A k.c c) (some (.int .i64 x)) (some (.int .i64 y)) none).run Try.prog W = .ok (.slice (A.map (·.add (x * 7))) (y - x) (c - x)) W := fun W => by
    have := cut_both7 (P := Try.prog) Try.underlying22 hi1 (by kernel_rfl) A k.c c x y (by omega) (by have := hcap.1; omega) W
    rwa [cutI, if_neg hxc] at this
  have s2 : ∀ W : World, (Instr.slice 22 (.slice A k.c c) (some (.int .i64 0)) (some (.int .i64 y)) none).run Try.prog W = .ok (.slice (A.map (·.add (x * 7))) (y - x) (c - x)) W ∨ x ≠ 0 := fun W => by
    by_cases h0 : x = 0
    · subst h0; exact .inl (s1 W)
    · exact .inr h0
  have hxy : ((x : Int) == (y : Int)) = false := by simp; omega
  have hyN : x = 0 → ((y : Int) == (N : Int)) = false := fun h => by simp; omega
  have hNy : x = 0 → ((N : Int) == (y : Int)) = false := fun h => by simp; omega
  have hyc : y ≤ c := by have := hcap.1; omega
  have hxy2 : x ≤ y := by omega
  rw [q.v]
  clear q hN hne hlen hI hC hcap hy hx
  generalize (k.l.drop x).take (y - x) = l at *
  by_cases hx0 : x = 0
  · subst hx0
    have hyN := hyN rfl
    have hNy := hNy rfl
    have s3 := fun W => (s2 W).resolve_right (fun h => h rfl)
    have i0 : ((0 : Int) == (y : Int)) = false := hxy
    clear s2 s1
    generalize hAA : A.map (·.add (0 * 7)) = AA at *
    generalize hcc : c - 0 = cc at *
    generalize hyy : y - 0 = yy at *
    clear hAA hcc hyy
    unfold lfv at *
    go_enter Try.func53, Try.ntmps53
    go_wp2_with fail
    refine C1.out.mono ?_
    rintro e w1 ⟨rfl, hb1⟩
    have e1 := E.out w1 hb1
    go_wp2_with fail
    refine (CL.out _ hb1).mono ?_
    rintro e w2 ⟨b2, rfl, hN2, hb2⟩
    have HN := Lib.hid (hN2 w2 (Agr.self _ _)); clear hN2
    go_wp2
    go_ret
    exact ⟨_, rfl, HN.out, hb1.trans (hb2.mono hb1.size)⟩
  · have i0 : ((x : Int) == 0) = false := by simp; omega
    clear s2 hyN hNy
    generalize hAA : A.map (·.add (x * 7)) = AA at *
    generalize hcc : c - x = cc at *
    generalize hyy : y - x = yy at *
    clear hAA hcc hyy
    unfold lfv at *
    go_enter Try.func53, Try.ntmps53
    go_wp2_with fail
    refine (CL.out _ (Below.refl _ _)).mono ?_
    rintro e w2 ⟨b2, rfl, hN2, hb2⟩
    have HN := Lib.hid (hN2 w2 (Agr.self _ _)); clear hN2
    go_wp2
    go_ret
    exact ⟨_, rfl, HN.out, hb2⟩
end Go.Proofs.Ytbbplppcabeojaa
