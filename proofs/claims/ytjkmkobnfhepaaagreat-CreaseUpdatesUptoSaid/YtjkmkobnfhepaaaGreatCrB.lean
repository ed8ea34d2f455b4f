/- Creases: the contracts of shown, put, pieces. -/
import Derived.Test.YtjkmkobnfhepaaaGreatCrP
import Derived.Test.YtjkmkobnfhepaaaGreatWvI
namespace Go.Proofs.YtjkmkobnfhepaaaGreat
open Go.RowKit
set_option linter.unusedVariables false
set_option maxHeartbeats 4000000 in
theorem cShown_any (k s r : Int) (hk : k = 0 ∨ k = 1) (hr : r = if k = 0 then s else 1) (w : World) : Calls Tryz.prog 103 #[.int .i64 k, .int .i64 s, .int .i64 0] w fun e w' => e = .returned (.int .i64 r) ∧ w' = w := by
  rcases hk with rfl | rfl
  · rw [if_pos rfl] at hr
    subst hr
    go_enter Tryz.func103, Tryz.ntmps103
    go_wp2
    go_ret
    exact ⟨rfl, rfl⟩
  · rw [if_neg (by omega)] at hr
    subst hr
    go_enter Tryz.func103, Tryz.ntmps103
    go_wp2
    go_ret
    exact ⟨rfl, rfl⟩
set_option maxHeartbeats 4000000 in
set_option maxRecDepth 100000 in
theorem cPut_any (base : Nat) (v : Value) (N : Nat) (L : List I7) (k n : Int) (hk : k = 0 ∨ k = 1) (hn : n ≤ 1099511627776) (hn0 : -1099511627776 ≤ n) (w : World) (hown : w.ownsRow base 120 7 v N (kfl encIt L)) (hN : N ≤ 100000) (hbase : base ≤ w.heap.size) :
    Calls Tryz.prog 69 #[v, .int .i64 k, .int .i64 n] w fun e w' => ∃ v', e = .returned v' ∧ w'.ownsRow base 120 7 v' (N + (cgap k n).length) (kfl encIt (L ++ cgap k n)) ∧ Below base w w' ∧ OnT [120] w w' := by
  have ST := it_slt
  obtain ⟨A, c, rfl⟩ := own_formI hown
  have HO := Lib.hid hown
  clear hown
  by_cases g : 0 < n
  · have k1 : decide ((0 : Int) < n) = true := decide_eq_true g
    have k2 : decide ((1099511627776 : Int) < n) = false := decide_eq_false (by omega)
    have k3 : decide (n ≤ (1099511627776 : Int)) = true := decide_eq_true (by omega)
    have k4 : min n (1099511627776 : Int) = n := by omega
    have hg : cgap k n = [cpc k n] := by unfold cgap; rw [if_pos g]
    have HG := Lib.hid hg
    rw [hg]
    clear hg
    obtain ⟨r, hr⟩ : ∃ r : Int, r = if k = 0 then n else 1 := ⟨_, rfl⟩
    have CS := Lib.hid fun W => cShown_any k n r hk hr W
    have HB := Lib.hid (Below.refl base w)
    have HCP : Hid (cpc k n = ⟨k, 0, n, r, 0, 0, ⟨#[]⟩⟩) := Lib.hid (by unfold cpc; rw [hr])
    rw [HCP.out]
    clear hr hk
    go_enter Tryz.func69, Tryz.ntmps69
    go_wp2_with fail
    go_loopg [0, 2] 2 (fun g z nn wr => (z = .slice A N c ∧ nn = .int .i64 n ∧ wr = w ∧ 1 ≤ g) ∨ (nn = .int .i64 0 ∧ Hid (wr.ownsRow base 120 7 z (N + 1) (kfl encIt (L ++ [⟨k, 0, n, r, 0, 0, ⟨#[]⟩⟩]))) ∧ Hid (Below base w wr) ∧ Hid (OnT [120] w wr)))
    case atStart => exact .inl ⟨rfl, rfl, rfl, by omega⟩
    case round =>
      rcases hrel with ⟨rfl, rfl, rfl, hg1⟩ | ⟨rfl, ho, hb, hT⟩
      · go_wp2_with fail
        refine (CS.out _).mono ?_
        rintro e w1 ⟨rfl, rfl⟩
        have x5 : Below w1.heap.size w1 (w1.alloc (.cells #[.int .i64 k, .int .i64 0, .int .i64 n, .int .i64 r, .int .i64 0, .int .i64 0, .string ⟨#[]⟩] 120)) := (Below.refl _ _).alloc (Nat.le_refl _) _
        have S5 := Lib.hid (rows_of_block (enc := encIt) (k := 7) encIt_len (heap_alloc_new w1 _ : RawAt 120 (w1.alloc (.cells #[.int .i64 k, .int .i64 0, .int .i64 n, .int .i64 r, .int .i64 0, .int .i64 0, .string ⟨#[]⟩] 120)) w1.heap.size #[.int .i64 k, .int .i64 0, .int .i64 n, .int .i64 r, .int .i64 0, .int .i64 0, .string ⟨#[]⟩]) (l := [(⟨k, 0, n, r, 0, 0, ⟨#[]⟩⟩ : I7)]) rfl)
        have O5 := Lib.hid (own_below HO.out x5)
        have B5 := Lib.hid (HB.out.trans (x5.mono hbase))
        have lt5 := O5.out.lt
        clear x5
        go_wp2_with (at_builtin; refine wpList_appK (enc := encIt) ST encIt_len (by omega) rfl (.tmp 15) (.tmp 25) rfl (base := base) (v := .slice A N c) rfl O5.out _ 1 1 [(⟨k, 0, n, r, 0, 0, ⟨#[]⟩⟩ : I7)] rfl S5.out ⟨Nat.le_refl _, fun h => by cases h⟩ rfl (kfl_one' encIt_one _) (by simp only [maxLen]; omega) (by omega) (by have := B5.out.size; omega) ?_; intro v5 w5 hown5 hg5 hor5; have HB5 := Lib.hid (B5.out.grown hg5 (Nat.le_trans hbase B5.out.size) (fun j hj => by have := (lt5 j hj).1; omega)); have HO5 := Lib.hid hown5; have HT5 : Hid (OnT [120] w1 w5) := Lib.hid ((OnT.of ((Below.refl _ _).alloc (Nat.le_refl _) _)).trans (OnT.grown O5.out hg5 (List.mem_singleton.2 rfl))); clear hown5 hg5 hor5 O5 B5 S5 lt5)
        rw [← kfl_append] at HO5
        go_wp2
        go_roundg (gk - 1)
        case measure => omega
        case rel => exact .inr ⟨by go_num, HO5, HB5, HT5⟩
      · obtain ⟨A6, c6, rfl⟩ := own_formI ho.out
        go_wp2
        go_ret
        exact ⟨_, rfl, ho.out, hb.out, hT.out⟩
  · have k1 : decide ((0 : Int) < n) = false := decide_eq_false g
    have hg : cgap k n = [] := by unfold cgap; rw [if_neg g]
    rw [hg, List.append_nil]
    clear hg
    go_enter Tryz.func69, Tryz.ntmps69
    go_wp2_with fail
    go_loopg [0, 2] 1 (fun g z nn wr => z = .slice A N c ∧ nn = .int .i64 n ∧ wr = w)
    case atStart => exact ⟨rfl, rfl, rfl⟩
    case round =>
      obtain ⟨rfl, rfl, rfl⟩ := hrel
      go_wp2
      go_ret
      exact ⟨_, rfl, HO.out, Below.refl _ _, OnT.refl _ _⟩
theorem clast_take (l : List (Int × Int)) (f : Int) {j : Nat} (h : j < l.length) : crQ f (l.take (j + 1)) = crQ f (l.take j) ++ (cgap 0 (l[j].1 - clast f (l.take j)) ++ cgap 1 (l[j].2 - l[j].1)) ∧ clast f (l.take (j + 1)) = l[j].2 := by
  rw [List.take_succ_eq_append_getElem h]
  exact crQ_snoc _ _ _
theorem crQ_len : ∀ (l : List (Int × Int)) (f : Int), (crQ f l).length ≤ 2 * l.length
  | [], _ => by simp [crQ]
  | x :: l, f => by
    have := crQ_len l x.2
    have := cgap_len 0 (x.1 - f)
    have := cgap_len 1 (x.2 - x.1)
    simp only [crQ, List.length_append, List.length_cons]
    omega
theorem clast_bd (l : List (Int × Int)) (f : Int) (B : Int) (hf : -B ≤ f ∧ f ≤ B) (h : ∀ x ∈ l, -B ≤ x.2 ∧ x.2 ≤ B) : -B ≤ clast f l ∧ clast f l ≤ B := by
  induction l generalizing f with
  | nil => exact hf
  | cons x l ih => exact ih x.2 (h x (by simp)) (fun y hy => h y (List.mem_cons_of_mem _ hy))
set_option maxHeartbeats 4000000 in
set_option maxRecDepth 100000 in
theorem cPieces_any (A : Option Addr) (m c : Nat) (l : List (Int × Int)) (f t : Int) (w : World) (hA : RowsAt wencS 2 w A l) (hl : l.length = m) (hm : m ≤ 1000) (hf : -100000000 ≤ f ∧ f ≤ 100000000) (ht : -100000000 ≤ t ∧ t ≤ 100000000) (hb : ∀ x ∈ l, (-100000000 ≤ x.1 ∧ x.1 ≤ 100000000) ∧ -100000000 ≤ x.2 ∧ x.2 ≤ 100000000) :
    Calls Tryz.prog 33 #[.slice A m c, .int .i64 f, .int .i64 t] w fun e w' => ∃ v, e = .returned v ∧ w'.ownsRow w.heap.size 120 7 v (crP f l t).length (kfl encIt (crP f l t)) ∧ Below w.heap.size w w' := by
  have HA := Lib.hid hA
  have HL := Lib.hid hl
  have HBD := Lib.hid hb
  have HLB := Lib.hid fun j => clast_bd (l.take j) f 100000000 (by omega) (fun x hx => (hb x (List.mem_of_mem_take hx)).2)
  have HQL := Lib.hid fun j => crQ_len (l.take j) f
  clear hA hl hb
  go_enter Tryz.func33, Tryz.ntmps33
  go_wp2_with fail
  go_loopg [1, 7, 12] m (fun g fr v i wr => ∃ (j : Nat) (u : Value) (q : Int), i = .int .i64 j ∧ u = v ∧ fr = .int .i64 q ∧ j ≤ m ∧ m - j ≤ g ∧ Hid (q = clast f (l.take j)) ∧ Hid (wr.ownsRow w.heap.size 120 7 u (crQ f (l.take j)).length (kfl encIt (crQ f (l.take j)))) ∧ Hid (Below w.heap.size w wr))
  case atStart => exact ⟨0, _, f, rfl, rfl, rfl, by omega, by omega, Lib.hid rfl, Lib.hid (World.ownsRow_nil _ _ _ _), Lib.hid (Below.refl _ _)⟩
  case round =>
    obtain ⟨j, u, q, rfl, rfl, rfl, j1, j2, hq, hown, hb⟩ := hrel
    have hql := HQL.out j
    have hlj : (l.take j).length ≤ 1000 := by rw [List.length_take]; have := HL.out; omega
    have hqb := HLB.out j
    rw [← hq.out] at hqb
    by_cases hlt : j < m
    · have hjl : j < l.length := by rw [HL.out]; exact hlt
      obtain ⟨bA, off, rfl, hbA, d0, d1⟩ := wrowsS (HA.out.below hb.out) hjl
      obtain ⟨t1, t2⟩ := clast_take l f hjl
      rw [← hq.out] at t1
      have HT1 := Lib.hid t1
      have HT2 := Lib.hid t2
      have hxb := HBD.out _ (List.getElem_mem hjl)
      clear t1 t2
      generalize l[j] = x at *
      obtain ⟨x1, x2⟩ := x
      simp only at *
      have e1 : IntKind.i64.wrap (x1 - q) = x1 - q := IntWalk.i64_in _ (by omega)
      have e2 : IntKind.i64.wrap (x2 - x1) = x2 - x1 := IntWalk.i64_in _ (by omega)
      have i1 : (0 : Int) ≤ j := by omega
      have i2 : (j : Int) < m := by omega
      have x3 : Below wr.heap.size wr (wr.alloc (.cells #[.int .i64 x1, .int .i64 x2] 27)) := (Below.refl _ _).alloc (Nat.le_refl _) _
      have R3 := Lib.hid (heap_alloc_new wr (.cells #[.int .i64 x1, .int .i64 x2] 27) : RawAt 27 (wr.alloc (.cells #[.int .i64 x1, .int .i64 x2] 27)) wr.heap.size #[.int .i64 x1, .int .i64 x2])
      have HB3 := Lib.hid (hb.out.trans (x3.mono hb.out.size))
      have HO3 := Lib.hid (own_below hown.out x3)
      have C1 := Lib.hid (cPut_any w.heap.size u _ (crQ f (l.take j)) 0 (x1 - q) (.inl rfl) (by omega) (by omega) _ HO3.out (by omega) HB3.out.size)
      clear x3 hown hb
      obtain ⟨bx, hbx⟩ : ∃ bx, bx = wr.heap.size := ⟨_, rfl⟩
      rw [← hbx] at R3
      have HBX := Lib.hid hbx
      clear hbx
      have g1 := cgap_len 0 (x1 - q)
      go_wp2_with fail
      rw [← HBX.out]
      generalize hW3 : wr.alloc (.cells #[.int .i64 x1, .int .i64 x2] 27) = W3 at *
      have HW3 := Lib.hid hW3
      clear hW3
      with_reducible refine (C1.out).mono ?_
      rintro e w4 ⟨v4, rfl, o4, b4, t4⟩
      have R4 := Lib.hid (t4 _ _ _ (by decide) R3.out)
      have HB4 := Lib.hid (HB3.out.trans b4)
      have g2 := cgap_len 1 (x2 - x1)
      have C2 := Lib.hid (cPut_any w.heap.size v4 _ _ 1 (x2 - x1) (.inr rfl) (by omega) (by omega) w4 o4 (by omega) HB4.out.size)
      have p0 : w4.cell? ⟨bx, 0, none⟩ = some (.int .i64 x1) := RawAt.cell R4.out 0
      have p1 : w4.cell? ⟨bx, 1, none⟩ = some (.int .i64 x2) := RawAt.cell R4.out 1
      clear o4 b4 t4 R3 C1 HB3 HO3
      go_wp2_with fail
      with_reducible refine (C2.out).mono ?_
      rintro e w5 ⟨v5, rfl, o5, b5, t5⟩
      have R5 := Lib.hid (t5 _ _ _ (by decide) R4.out)
      have HB5 := Lib.hid (HB4.out.trans b5)
      have q1 : w5.cell? ⟨bx, 1, none⟩ = some (.int .i64 x2) := RawAt.cell R5.out 1
      have e9 : (crQ f (l.take j)).length + (cgap 0 (x1 - q)).length + (cgap 1 (x2 - x1)).length = (crQ f (l.take (j + 1))).length := by rw [HT1.out]; simp only [List.length_append]; omega
      rw [e9, List.append_assoc, ← HT1.out] at o5
      have HO5 := Lib.hid o5
      have HQ5 : Hid (x2 = clast f (l.take (j + 1))) := Lib.hid HT2.out.symm
      clear o5 b5 t5 R4 C2 HB4 p0 p1 e9 HT1 HT2
      go_wp2
      go_roundg (gk - 1)
      case measure => omega
      case rel => exact ⟨j + 1, v5, x2, by go_num, rfl, rfl, by omega, by omega, HQ5, HO5, HB5⟩
    · obtain rfl : j = m := by omega
      have htk : l.take j = l := List.take_of_length_le (by rw [HL.out]; exact Nat.le_refl _)
      have hq2 := hq.out
      have ho2 := hown.out
      rw [htk] at hq2 ho2 hql
      have e1 : IntKind.i64.wrap (t - q) = t - q := IntWalk.i64_in _ (by omega)
      have C1 := Lib.hid (cPut_any w.heap.size u _ (crQ f l) 0 (t - q) (.inl rfl) (by omega) (by omega) _ ho2 (by have := HL.out; omega) hb.out.size)
      have HQ := Lib.hid hq2
      clear htk ho2 hown hq hq2
      go_wp2_with fail
      with_reducible refine (C1.out).mono ?_
      rintro e w4 ⟨v4, rfl, o4, b4, _⟩
      have HB4 := Lib.hid (hb.out.trans b4)
      have e9 : crQ f l ++ cgap 0 (t - q) = crP f l t := by rw [HQ.out]; rfl
      rw [← List.length_append, e9] at o4
      have HO4 := Lib.hid o4
      clear o4 b4 e9 C1
      go_wp2
      go_ret
      exact ⟨_, rfl, HO4.out, HB4.out⟩
end Go.Proofs.YtjkmkobnfhepaaaGreat
