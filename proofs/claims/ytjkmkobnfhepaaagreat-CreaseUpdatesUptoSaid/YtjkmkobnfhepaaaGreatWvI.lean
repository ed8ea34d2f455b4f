/- Weaves: the contract of the document's Spots. Weaves: the contract of the document's Pieces. Weaves: the contracts of the document's Out and In. Weaves: the contract of the document's In. -/
import Derived.Test.YtjkmkobnfhepaaaGreatWvB
import Derived.Test.YtjkmkobnfhepaaaGreatRDec
import Derived.Deep.QuietTactic
namespace Go.Proofs.YtjkmkobnfhepaaaGreat
open Go.RowKit
set_option linter.unusedVariables false
/-- Spots, pieces: two numbers each. -/
def wencS (s : Int × Int) : List Value := [.int .i64 s.1, .int .i64 s.2]
theorem wencS_len (s : Int × Int) : (wencS s).length = 2 := rfl
theorem wencS_one (s : Int × Int) : ∀ v ∈ wencS s, v.oneCell' = true := by
  intro v hv
  simp only [wencS, List.mem_cons, List.not_mem_nil, or_false] at hv
  rcases hv with rfl | rfl <;> rfl
theorem wspot_info : (Tryz.prog.info? 143).map (fun i => (i.zero, i.size, i.bytes)) = some (some (.agg #[.int .i64 0, .int .i64 0]), 2, 16) := by kernel_rfl
theorem wspot_slt : SlT Tryz.prog 88 143 2 16 := slt_of Tryz.underlying88 wspot_info rfl (by kernel_rfl)
/-- The inlays at a place, each rune a spot. -/
def wdIl (l : List In) (p : Int) : List (Int × Int) := (l.filter fun a => decide (a.pl = p)).flatMap fun a => List.replicate (wcnt a) (p, a.id)
theorem wdIl_snoc (l : List In) (a : In) (p : Int) : wdIl (l ++ [a]) p = if a.pl = p then wdIl l p ++ List.replicate (wcnt a) (p, a.id) else wdIl l p := by
  unfold wdIl
  rw [List.filter_append, List.flatMap_append]
  by_cases h : a.pl = p
  · rw [if_pos h, List.filter_cons, if_pos (by simpa using h)]
    simp
  · rw [if_neg h, List.filter_cons, if_neg (by simpa using h)]
    simp
theorem wdIl_len (l : List In) (p : Int) (hc : ∀ a ∈ l, wcnt a ≤ 1000) : (wdIl l p).length ≤ 1000 * l.length := by
  induction l with
  | nil => exact Nat.le_refl _
  | cons a l ih =>
    have h1 := hc a (by simp)
    have h2 := ih (fun x hx => hc x (List.mem_cons_of_mem _ hx))
    unfold wdIl at *
    rw [List.filter_cons]
    split
    · rw [List.flatMap_cons, List.length_append, List.length_replicate, List.length_cons]
      omega
    · rw [List.length_cons]; omega
theorem wdS_len (l : List In) (n : Int) (hc : ∀ a ∈ l, wcnt a ≤ 1000) : ∀ (k : Nat) (p : Int), (wdS l n k p).length ≤ k * (1000 * l.length + 1)
  | 0, _ => Nat.zero_le _
  | k + 1, p => by
    have h1 := wdS_len l n hc k (p + 1)
    have h2 := wdIl_len l p hc
    show (wdIl l p ++ (if p < n then [(p, 0)] else []) ++ wdS l n k (p + 1)).length ≤ _
    rw [List.length_append, List.length_append, Nat.add_mul, Nat.one_mul]
    have h3 : (if p < n then [(p, (0 : Int))] else []).length ≤ 1 := by split <;> simp
    omega
theorem wrep_snoc (k : Nat) (x : Int × Int) : List.replicate (k + 1) x = List.replicate k x ++ [x] := List.replicate_succ'
set_option maxHeartbeats 16000000 in
set_option maxRecDepth 100000 in
theorem rSpots_any (n : Nat) (er : Int) (A : Option Addr) (m c : Nat) (o : List In) (w : World) (hA : RowsAt encI 5 w A o) (hl : o.length = m) (hm : m ≤ 100) (hn : n ≤ 1000) (htx : ∀ a ∈ o, a.tx.size ≤ 1000) :
    Calls Tryz.prog 44 #[.agg #[.int .i64 n, .slice A m c, .int .i64 er]] w fun e w' => ∃ v, e = .returned v ∧ w'.ownsRow w.heap.size 143 2 v (wdS o n (n + 1) 0).length (kfl wencS (wdS o n (n + 1) 0)) ∧ Below w.heap.size w w' := by
  have ST := wspot_slt
  have HA := Lib.hid hA
  have HL := Lib.hid hl
  have HTX := Lib.hid htx
  have hcn : ∀ a ∈ o, wcnt a ≤ 1000 := fun a ha => Nat.le_trans (dec_len a.tx) (htx a ha)
  have HDS := Lib.hid fun (k : Nat) (hk : k ≤ n + 1) => (show (wdS o n k 0).length ≤ 200000000 from Nat.le_trans (wdS_len o n hcn k 0) (Nat.le_trans (Nat.mul_le_mul (show k ≤ 1001 by omega) (show 1000 * o.length + 1 ≤ 100001 by omega)) (by omega)))
  have HDI := Lib.hid fun (i : Nat) (p : Int) => (show (wdIl (o.take i) p).length ≤ 100000 from Nat.le_trans (wdIl_len (o.take i) p (fun a ha => hcn a (List.mem_of_mem_take ha))) (by rw [List.length_take]; omega))
  have x1 : Below w.heap.size w (w.alloc (.cells #[.int .i64 n, .slice A m c, .int .i64 er] 35)) := (Below.refl _ _).alloc (Nat.le_refl _) _
  have r1 : RawAt 35 (w.alloc (.cells #[.int .i64 n, .slice A m c, .int .i64 er] 35)) w.heap.size #[.int .i64 n, .slice A m c, .int .i64 er] := heap_alloc_new w _
  have hz1 : (w.alloc (.cells #[.int .i64 n, .slice A m c, .int .i64 er] 35)).heap.size = w.heap.size + 1 := by simp
  obtain ⟨W1, hW1⟩ : ∃ W1, W1 = w.alloc (.cells #[.int .i64 n, .slice A m c, .int .i64 er] 35) := ⟨_, rfl⟩
  rw [← hW1] at x1 r1 hz1
  have HW1 := Lib.hid hW1
  have X1 := Lib.hid x1
  have R1 := Lib.hid r1
  have HZ1 := Lib.hid hz1
  have HA1 := Lib.hid (HA.out.below x1)
  clear hA hl htx hcn hW1 x1 r1 hz1 HA
  generalize hbz : w.heap.size = bz at *
  go_enter Tryz.func44, Tryz.ntmps44
  go_wp2_with fail
  rw [← HW1.out]
  go_loopg [3, 4] (n + 2) (fun g v i wr => ∃ j N : Nat, i = .int .i64 j ∧ j ≤ n + 1 ∧ n + 2 - j ≤ g ∧ Hid (Below W1.heap.size W1 wr) ∧ Hid (wr.ownsRow W1.heap.size 143 2 v N (kfl wencS (wdS o n j 0))))
  case atStart => exact ⟨0, 0, rfl, by omega, by omega, Lib.hid (Below.refl _ _), Lib.hid (World.ownsRow_nil _ _ _ _)⟩
  case round =>
    clear HW1
    obtain ⟨j, N, rfl, j1, j2, hb, hown⟩ := hrel
    obtain ⟨gO, hgO⟩ : ∃ g, g = gk := ⟨_, rfl⟩
    subst hgO
    have c0 : wr.cell? ⟨bz, 0, none⟩ = some (.int .i64 n) := RawAt.cell (R1.out.below hb.out R1.out.lt) 0
    have c1 : wr.cell? ⟨bz, 1, none⟩ = some (.slice A m c) := RawAt.cell (R1.out.below hb.out R1.out.lt) 1
    have hDl := HDS.out j j1
    by_cases hlt : j ≤ n
    · have k0 : decide ((j : Int) ≤ n) = true := decide_eq_true (by omega)
      have HB0 : Hid (Below W1.heap.size W1 wr) := hb
      have HO0 : Hid (wr.ownsRow W1.heap.size 143 2 u3 N (kfl wencS (wdS o n j 0 ++ wdIl (o.take 0) j))) := Lib.hid (by rw [List.take_zero, show wdIl ([] : List In) (j : Int) = [] from rfl, List.append_nil]; exact hown.out)
      clear hb hown
      go_wp2_with fail
      go_loopg [3, 16] m (fun g v i wr => ∃ q N : Nat, i = .int .i64 q ∧ q ≤ m ∧ m - q ≤ g ∧ Hid (Below W1.heap.size W1 wr) ∧ Hid (wr.ownsRow W1.heap.size 143 2 v N (kfl wencS (wdS o n j 0 ++ wdIl (o.take q) j))))
      case atStart => exact ⟨0, N, rfl, by omega, by omega, HB0, HO0⟩
      case round =>
        clear HO0 HB0 c0 c1
        obtain ⟨q, N, rfl, q1, q2, hb, hown⟩ := hrel
        obtain ⟨gP, hgP⟩ : ∃ g, g = gk := ⟨_, rfl⟩
        subst hgP
        by_cases hq : q < m
        · have hql : q < o.length := by rw [HL.out]; exact hq
          obtain ⟨bA, off, rfl, hbA, d0, d1, d2, d3, d4⟩ := wrowsW (HA1.out.below (hb.out.mono (Nat.le_refl _))) hql
          have hts := HTX.out _ (List.getElem_mem hql)
          have htk : wdIl (o.take (q + 1)) j = if o[q].pl = j then wdIl (o.take q) j ++ List.replicate (wcnt o[q]) ((j : Int), o[q].id) else wdIl (o.take q) j := by rw [List.take_succ_eq_append_getElem hql, wdIl_snoc]
          have HTK := Lib.hid htk
          have hIl := HDI.out q j
          have hIl2 := HDI.out (q + 1) j
          rw [htk] at hIl2
          clear htk
          generalize o[q] = a at *
          generalize wdIl (o.take q) j = E at *
          have i1 : (0 : Int) ≤ q := by omega
          have i2 : (q : Int) < m := by omega
          have x3 : Below wr.heap.size wr (wr.alloc (.cells #[.int .i64 a.id, .int .i64 a.pl, .int .i64 a.bi, .int .i64 a.ky, .string a.tx] 56)) := (Below.refl _ _).alloc (Nat.le_refl _) _
          have R3 : RawAt 56 (wr.alloc (.cells #[.int .i64 a.id, .int .i64 a.pl, .int .i64 a.bi, .int .i64 a.ky, .string a.tx] 56)) wr.heap.size #[.int .i64 a.id, .int .i64 a.pl, .int .i64 a.bi, .int .i64 a.ky, .string a.tx] := heap_alloc_new wr _
          have HB3 := Lib.hid (hb.out.trans (x3.mono hb.out.size))
          have HO3 := Lib.hid (own_below hown.out x3)
          have e1 : (wr.alloc (.cells #[.int .i64 a.id, .int .i64 a.pl, .int .i64 a.bi, .int .i64 a.ky, .string a.tx] 56)).cell? ⟨wr.heap.size, 1, none⟩ = some (.int .i64 a.pl) := RawAt.cell R3 1
          have e4 : (wr.alloc (.cells #[.int .i64 a.id, .int .i64 a.pl, .int .i64 a.bi, .int .i64 a.ky, .string a.tx] 56)).cell? ⟨wr.heap.size, 4, none⟩ = some (.string a.tx) := RawAt.cell R3 4
          have HR3 := Lib.hid R3
          clear x3 R3 hb hown
          by_cases hp : a.pl = j
          · have kp : (a.pl == (j : Int)) = true := by simpa using hp
            rw [if_pos hp] at hIl2
            have HTK2 := Lib.hid (HTK.out.trans (if_pos hp))
            have CD := Lib.hid fun (W : World) => rdecode_any a.tx W (by omega)
            have hwc : wcnt a = (dec a.tx).length := rfl
            rw [hwc] at hIl2 HTK2
            have HP := Lib.hid hp
            clear hp HTK hwc
            generalize (dec a.tx).length = cn at *
            simp only [List.length_append, List.length_replicate] at hIl2
            go_wp2_with fail
            with_reducible refine (CD.out _).mono ?_
            rintro e w5 ⟨A5, c5, rfl, b5, _, _⟩
            have HB5 := Lib.hid (HB3.out.trans (b5.mono HB3.out.size))
            have HO5 : Hid (w5.ownsRow W1.heap.size 143 2 u3 N (kfl wencS (wdS o n j 0 ++ E ++ List.replicate 0 ((j : Int), a.id)))) := Lib.hid (by rw [List.replicate_zero, List.append_nil]; exact own_below HO3.out b5)
            have HR5 := Lib.hid (HR3.out.below b5 HR3.out.lt)
            generalize wr.heap.size = bx at *
            clear b5 e1 e4 HB3 HO3 HR3 CD
            go_wp2_with fail
            go_loopg [3, 28] cn (fun g v i wr => ∃ k N : Nat, i = .int .i64 k ∧ k ≤ cn ∧ cn - k ≤ g ∧ Hid (Below W1.heap.size W1 wr) ∧ Hid (wr.ownsRow W1.heap.size 143 2 v N (kfl wencS (wdS o n j 0 ++ E ++ List.replicate k ((j : Int), a.id)))) ∧ Hid (RawAt 56 wr bx #[.int .i64 a.id, .int .i64 a.pl, .int .i64 a.bi, .int .i64 a.ky, .string a.tx]))
            case atStart => exact ⟨0, N, rfl, by omega, by omega, HB5, HO5, HR5⟩
            case round =>
              clear HB5 HO5 HR5
              obtain ⟨k, N, rfl, k1, k2, hb, hown, hx⟩ := hrel
              by_cases hk : k < cn
              · have i3 : (0 : Int) ≤ k := by omega
                have i4 : (k : Int) < cn := by omega
                have e0 : wr.cell? ⟨bx, 0, none⟩ = some (.int .i64 a.id) := RawAt.cell hx.out 0
                obtain ⟨A6, c6, rfl⟩ := own_formI hown.out
                have HNN : Hid (wdS o n j 0 ++ E ++ List.replicate (k + 1) ((j : Int), a.id) = (wdS o n j 0 ++ E ++ List.replicate k ((j : Int), a.id)) ++ [((j : Int), a.id)]) := Lib.hid (by rw [wrep_snoc, ← List.append_assoc])
                have hNb : N ≤ 300000000 := by
                  have := own_len wencS_len (by omega) hown.out
                  simp only [List.length_append, List.length_replicate] at this
                  omega
                have HBX := hb
                have HOX := hown
                have HRX := hx
                clear hb hown hx
                have x7 : Below wr.heap.size wr (wr.alloc (.cells #[.int .i64 j, .int .i64 a.id] 143)) := (Below.refl _ _).alloc (Nat.le_refl _) _
                have S7 := Lib.hid (rows_of_block (enc := wencS) (k := 2) wencS_len (heap_alloc_new wr _ : RawAt 143 (wr.alloc (.cells #[.int .i64 j, .int .i64 a.id] 143)) wr.heap.size #[.int .i64 j, .int .i64 a.id]) (l := [((j : Int), a.id)]) rfl)
                have O7 := Lib.hid (own_below HOX.out x7)
                have B7 := Lib.hid (HBX.out.trans (x7.mono HBX.out.size))
                have lt7 := O7.out.lt
                clear x7
                go_wp2_with (at_builtin; refine wpList_appK (enc := wencS) ST wencS_len (by omega) rfl (.tmp 30) (.tmp 35) rfl (base := W1.heap.size) (v := .slice A6 N c6) rfl O7.out _ 1 1 [((j : Int), a.id)] rfl S7.out ⟨Nat.le_refl _, fun h => by cases h⟩ rfl (kfl_one' wencS_one _) (by simp only [maxLen]; omega) (by omega) (by have := B7.out.size; omega) ?_; intro v7 w7 hown7 hg7 hor7; have HT7 := Lib.hid ((OnT.grown (ts := [143]) O7.out hg7 (by simp)) _ _ _ (by decide) (HRX.out.below ((Below.refl _ _).alloc (Nat.le_refl _) (.cells #[.int .i64 j, .int .i64 a.id] 143)) HRX.out.lt)); have HB7 := Lib.hid (B7.out.grown hg7 B7.out.size (fun j hj => by have := (lt7 j hj).1; omega)); have HO7 := Lib.hid hown7; clear hown7 hg7 hor7 O7 B7 S7 lt7)
                go_roundg (gk - 1)
                case measure => omega
                case rel => exact ⟨k + 1, N + 1, by go_num, by omega, by omega, HB7, Lib.hid (by rw [HNN.out, kfl_append]; exact HO7.out), HT7⟩
              · obtain rfl : k = cn := by omega
                have HBX := hb
                have HOX : Hid (wr.ownsRow W1.heap.size 143 2 u3 N (kfl wencS (wdS o n j 0 ++ wdIl (o.take (q + 1)) j))) := Lib.hid (by rw [HTK2.out, ← List.append_assoc]; exact hown.out)
                clear hb hown hx
                go_wp2
                go_roundg (gP - 1)
                case measure => omega
                case rel => exact ⟨q + 1, N, by go_num, by omega, by omega, HBX, HOX⟩
          · have kp : (a.pl == (j : Int)) = false := by simpa using hp
            have HOX : Hid ((wr.alloc (.cells #[.int .i64 a.id, .int .i64 a.pl, .int .i64 a.bi, .int .i64 a.ky, .string a.tx] 56)).ownsRow W1.heap.size 143 2 u3 N (kfl wencS (wdS o n j 0 ++ wdIl (o.take (q + 1)) j))) := Lib.hid (by rw [HTK.out, if_neg hp]; exact HO3.out)
            clear HTK HO3 HR3
            go_wp2
            go_roundg (gP - 1)
            case measure => omega
            case rel => exact ⟨q + 1, N, by go_num, by omega, by omega, HB3, HOX⟩
        · obtain rfl : q = m := by omega
          have e2 : o.take q = o := List.take_of_length_le (by rw [HL.out]; exact Nat.le_refl _)
          have c0 : wr.cell? ⟨bz, 0, none⟩ = some (.int .i64 n) := RawAt.cell (R1.out.below hb.out R1.out.lt) 0
          have ho2 := hown.out
          rw [e2] at ho2
          have hIl := HDI.out q j
          rw [e2] at hIl
          have HDD : Hid (wdS o n (j + 1) 0 = wdS o n j 0 ++ wdIl o j ++ if (j : Int) < n then [((j : Int), 0)] else []) := Lib.hid (by rw [wdS_snoc, Int.zero_add, List.append_assoc]; rfl)
          by_cases hjn : j < n
          · have kn : decide ((j : Int) < n) = true := decide_eq_true (by omega)
            have HDE : Hid (wdS o n (j + 1) 0 = (wdS o n j 0 ++ wdIl o j) ++ [((j : Int), 0)]) := Lib.hid (by rw [HDD.out, if_pos (by omega)])
            obtain ⟨A6, c6, rfl⟩ := own_formI ho2
            have hNb : N ≤ 300000000 := by
              have := own_len wencS_len (by omega) ho2
              simp only [List.length_append] at this
              omega
            have HOX := Lib.hid ho2
            have HBX := hb
            have w1' : IntKind.i64.wrap ((j : Int) + 1) = (j : Int) + 1 := IntWalk.i64_in _ (by omega)
            clear ho2 hb hown HDD
            have x7 : Below wr.heap.size wr (wr.alloc (.cells #[.int .i64 j, .int .i64 0] 143)) := (Below.refl _ _).alloc (Nat.le_refl _) _
            have S7 := Lib.hid (rows_of_block (enc := wencS) (k := 2) wencS_len (heap_alloc_new wr _ : RawAt 143 (wr.alloc (.cells #[.int .i64 j, .int .i64 0] 143)) wr.heap.size #[.int .i64 j, .int .i64 0]) (l := [((j : Int), 0)]) rfl)
            have O7 := Lib.hid (own_below HOX.out x7)
            have B7 := Lib.hid (HBX.out.trans (x7.mono HBX.out.size))
            have lt7 := O7.out.lt
            clear x7
            go_wp2_with (at_builtin; refine wpList_appK (enc := wencS) ST wencS_len (by omega) rfl (.tmp 43) (.tmp 46) rfl (base := W1.heap.size) (v := .slice A6 N c6) rfl O7.out _ 1 1 [((j : Int), 0)] rfl S7.out ⟨Nat.le_refl _, fun h => by cases h⟩ rfl (kfl_one' wencS_one _) (by simp only [maxLen]; omega) (by omega) (by have := B7.out.size; omega) ?_; intro v7 w7 hown7 hg7 hor7; have HB7 := Lib.hid (B7.out.grown hg7 B7.out.size (fun j hj => by have := (lt7 j hj).1; omega)); have HO7 := Lib.hid hown7; clear hown7 hg7 hor7 O7 B7 S7 lt7)
            go_roundg (gO - 1)
            case measure => omega
            case rel => exact ⟨j + 1, N + 1, by go_num, by omega, by omega, HB7, Lib.hid (by rw [HDE.out, kfl_append]; exact HO7.out)⟩
          · have kn : decide ((j : Int) < n) = false := decide_eq_false (by omega)
            have w1' : IntKind.i64.wrap ((j : Int) + 1) = (j : Int) + 1 := IntWalk.i64_in _ (by omega)
            have HOX : Hid (wr.ownsRow W1.heap.size 143 2 u3 N (kfl wencS (wdS o n (j + 1) 0))) := Lib.hid (by rw [HDD.out, if_neg (by omega), List.append_nil]; exact ho2)
            have HBX := hb
            clear ho2 hb hown HDD
            go_wp2
            go_roundg (gO - 1)
            case measure => omega
            case rel => exact ⟨j + 1, N, by go_num, by omega, by omega, HBX, HOX⟩
    · obtain rfl : j = n + 1 := by omega
      have k0 : decide ((((n + 1 : Nat)) : Int) ≤ n) = false := decide_eq_false (by omega)
      have k0' : decide ((n : Int) + 1 ≤ n) = false := decide_eq_false (by omega)
      have hN := own_len wencS_len (by omega) hown.out
      have HOX : Hid (wr.ownsRow bz 143 2 u3 (wdS o n (n + 1) 0).length (kfl wencS (wdS o n (n + 1) 0))) := Lib.hid (by rw [hN]; exact own_base hown.out (by have := HZ1.out; omega))
      clear hN
      have HBX := Lib.hid (X1.out.trans (hb.out.mono (show bz ≤ W1.heap.size by have := HZ1.out; omega)))
      clear hb hown
      go_wp2
      go_ret
      exact ⟨_, rfl, HOX.out, HBX.out⟩
set_option linter.unusedVariables false
theorem wencS_set : ∀ (G : List (Int × Int)) (i m z : Int), (kfl wencS (G ++ [(i, m)])).set (G.length * 2 + 1) (.int .i64 z) = kfl wencS (G ++ [(i, z)])
  | [], i, m, z => rfl
  | x :: G, i, m, z => by
    have ih := wencS_set G i m z
    show (wencS x ++ kfl wencS (G ++ [(i, m)])).set ((G.length + 1) * 2 + 1) (.int .i64 z) = wencS x ++ kfl wencS (G ++ [(i, z)])
    rw [List.set_append_right _ _ (by rw [wencS_len]; omega), wencS_len, show (G.length + 1) * 2 + 1 - 2 = G.length * 2 + 1 from by omega, ih]
theorem wrowsS {w : World} {A : Option Addr} {l : List (Int × Int)} (h : RowsAt wencS 2 w A l) {j : Nat} (hj : j < l.length) : ∃ b off, A = some ⟨b, off, none⟩ ∧ b < w.heap.size ∧ w.cell? ⟨b, off + j * 2, none⟩ = some (.int .i64 l[j].1) ∧ w.cell? ⟨b, off + j * 2 + 1, none⟩ = some (.int .i64 l[j].2) := by
  obtain ⟨b, off, e, h1, hc⟩ := h.at1 hj
  exact ⟨b, off, e, h1, hc 0 (by omega), hc 1 (by omega)⟩
set_option linter.unusedVariables false
theorem wosum_append (at_ b : Int) : ∀ l m : List In, wosum at_ b (l ++ m) = wosum at_ b l + wosum at_ b m
  | [], m => by show wosum at_ b m = 0 + wosum at_ b m; omega
  | a :: l, m => by
    show (if a.pl < at_ ∨ (a.pl = at_ ∧ b = 1) then (wcnt a : Int) else 0) + wosum at_ b (l ++ m) = (if a.pl < at_ ∨ (a.pl = at_ ∧ b = 1) then (wcnt a : Int) else 0) + wosum at_ b l + wosum at_ b m
    rw [wosum_append at_ b l m]; omega
theorem wosum_take (at_ b : Int) (l : List In) {j : Nat} (h : j < l.length) : wosum at_ b (l.take (j + 1)) = wosum at_ b (l.take j) + if l[j].pl < at_ ∨ (l[j].pl = at_ ∧ b = 1) then (wcnt l[j] : Int) else 0 := by
  rw [List.take_succ_eq_append_getElem h, wosum_append]
  show _ + ((if l[j].pl < at_ ∨ (l[j].pl = at_ ∧ b = 1) then (wcnt l[j] : Int) else 0) + 0) = _
  omega
theorem wosum_bd (at_ b : Int) (K : Nat) : ∀ l : List In, (∀ a ∈ l, wcnt a ≤ K) → 0 ≤ wosum at_ b l ∧ wosum at_ b l ≤ K * l.length
  | [], _ => ⟨Int.le_refl _, by show (0 : Int) ≤ K * 0; omega⟩
  | a :: l, h => by
    have h1 := h a (by simp)
    obtain ⟨h2, h3⟩ := wosum_bd at_ b K l (fun x hx => h x (List.mem_cons_of_mem _ hx))
    have e : (K : Int) * ((a :: l).length : Nat) = K * l.length + K := by rw [List.length_cons, Int.natCast_add, Int.mul_add]; simp
    rw [e]
    show 0 ≤ (if a.pl < at_ ∨ (a.pl = at_ ∧ b = 1) then (wcnt a : Int) else 0) + wosum at_ b l ∧ (if a.pl < at_ ∨ (a.pl = at_ ∧ b = 1) then (wcnt a : Int) else 0) + wosum at_ b l ≤ _
    split <;> omega
set_option maxHeartbeats 8000000 in
set_option maxRecDepth 100000 in
theorem rOut_any (n er : Int) (A : Option Addr) (m c : Nat) (o : List In) (at_ b : Int) (w : World) (hA : RowsAt encI 5 w A o) (hl : o.length = m) (hm : m ≤ 100) (h0 : -1099511627776 ≤ at_) (h1 : at_ ≤ 1099511627776) (htx : ∀ a ∈ o, a.tx.size ≤ 1000) :
    Calls Tryz.prog 11 #[.agg #[.int .i64 n, .slice A m c, .int .i64 er], .int .i64 at_, .int .i64 b] w fun e w' => e = .returned (.int .i64 (at_ + wosum at_ b o)) ∧ Below w.heap.size w w' := by
  have HL := Lib.hid hl
  have HTX := Lib.hid htx
  have HOB := Lib.hid fun (j : Nat) => (show 0 ≤ wosum at_ b (o.take j) ∧ wosum at_ b (o.take j) ≤ 100000 by
    have := wosum_bd at_ b 1000 (o.take j) (fun a ha => Nat.le_trans (dec_len a.tx) (htx a (List.mem_of_mem_take ha)))
    have h2 : (o.take j).length ≤ 100 := by rw [List.length_take]; omega
    exact ⟨this.1, by omega⟩)
  have x1 : Below w.heap.size w (w.alloc (.cells #[.int .i64 n, .slice A m c, .int .i64 er] 35)) := (Below.refl _ _).alloc (Nat.le_refl _) _
  have r1 : RawAt 35 (w.alloc (.cells #[.int .i64 n, .slice A m c, .int .i64 er] 35)) w.heap.size #[.int .i64 n, .slice A m c, .int .i64 er] := heap_alloc_new w _
  obtain ⟨W1, hW1⟩ : ∃ W1, W1 = w.alloc (.cells #[.int .i64 n, .slice A m c, .int .i64 er] 35) := ⟨_, rfl⟩
  rw [← hW1] at x1 r1
  have HA1 := Lib.hid (hA.below x1)
  have HW1 := Lib.hid hW1
  have X1 := Lib.hid x1
  have c1 : W1.cell? ⟨w.heap.size, 1, none⟩ = some (.slice A m c) := RawAt.cell r1 1
  clear hA hl htx hW1 x1 r1
  go_enter Tryz.func11, Tryz.ntmps11
  go_wp2_with fail
  rw [← HW1.out]
  go_wp2_with fail
  go_loopg [7, 14] m (fun g v i wr => ∃ (j : Nat) (s : Int), i = .int .i64 j ∧ j ≤ m ∧ m - j ≤ g ∧ v = .int .i64 (at_ + s) ∧ Hid (s = wosum at_ b (o.take j)) ∧ Hid (Below W1.heap.size W1 wr))
  case atStart => exact ⟨0, 0, rfl, by omega, by omega, by go_num, Lib.hid rfl, Lib.hid (Below.refl _ _)⟩
  case round =>
    obtain ⟨j, s, rfl, j1, j2, rfl, hs, hb⟩ := hrel
    have hsb := HOB.out j
    rw [← hs.out] at hsb
    by_cases hlt : j < m
    · have hjl : j < o.length := by rw [HL.out]; exact hlt
      obtain ⟨bA, off, rfl, hbA, d0, d1, d2, d3, d4⟩ := wrowsW (HA1.out.below hb.out) hjl
      have hts := HTX.out _ (List.getElem_mem hjl)
      have HS := Lib.hid (wosum_take at_ b o hjl)
      have hwc : wcnt o[j] = (dec o[j].tx).length := rfl
      rw [hwc] at HS
      generalize o[j] = a at *
      have hdl := dec_len a.tx
      have CD := Lib.hid fun (W : World) => rdecode_any a.tx W (by omega)
      clear hwc
      have i1 : (0 : Int) ≤ j := by omega
      have i2 : (j : Int) < m := by omega
      have x3 : Below wr.heap.size wr (wr.alloc (.cells #[.int .i64 a.id, .int .i64 a.pl, .int .i64 a.bi, .int .i64 a.ky, .string a.tx] 56)) := (Below.refl _ _).alloc (Nat.le_refl _) _
      have R3 : RawAt 56 (wr.alloc (.cells #[.int .i64 a.id, .int .i64 a.pl, .int .i64 a.bi, .int .i64 a.ky, .string a.tx] 56)) wr.heap.size #[.int .i64 a.id, .int .i64 a.pl, .int .i64 a.bi, .int .i64 a.ky, .string a.tx] := heap_alloc_new wr _
      have e1 : (wr.alloc (.cells #[.int .i64 a.id, .int .i64 a.pl, .int .i64 a.bi, .int .i64 a.ky, .string a.tx] 56)).cell? ⟨wr.heap.size, 1, none⟩ = some (.int .i64 a.pl) := RawAt.cell R3 1
      have e4 : (wr.alloc (.cells #[.int .i64 a.id, .int .i64 a.pl, .int .i64 a.bi, .int .i64 a.ky, .string a.tx] 56)).cell? ⟨wr.heap.size, 4, none⟩ = some (.string a.tx) := RawAt.cell R3 4
      have HB3 := Lib.hid (hb.out.trans (x3.mono hb.out.size))
      clear x3 R3 hb
      have w1' : IntKind.i64.wrap (at_ + s + ((dec a.tx).length : Int)) = at_ + s + ((dec a.tx).length : Int) := IntWalk.i64_in _ (by omega)
      by_cases g1 : a.pl < at_
      · have k1 : decide (a.pl < at_) = true := decide_eq_true g1
        have HS2 : Hid (s + ((dec a.tx).length : Int) = wosum at_ b (o.take (j + 1))) := Lib.hid (by rw [HS.out, if_pos (.inl g1), hs.out])
        clear HS hs hdl hts
        generalize (dec a.tx).length = cn at *
        go_wp2_with fail
        with_reducible refine (CD.out _).mono ?_
        rintro e w5 ⟨A5, c5, rfl, b5, _, _⟩
        have HB5 := Lib.hid (HB3.out.trans (b5.mono HB3.out.size))
        clear b5 CD
        go_wp2
        go_roundg (gk - 1)
        case measure => omega
        case rel => exact ⟨j + 1, s + cn, by go_num, by omega, by omega, by rw [← Int.add_assoc], HS2, HB5⟩
      · have k1 : decide (a.pl < at_) = false := decide_eq_false g1
        by_cases g2 : a.pl = at_
        · have k2 : (a.pl == at_) = true := by simpa using g2
          by_cases g3 : b = 1
          · have k3 : (b == 1) = true := by simpa using g3
            have HS2 : Hid (s + ((dec a.tx).length : Int) = wosum at_ b (o.take (j + 1))) := Lib.hid (by rw [HS.out, if_pos (.inr ⟨g2, g3⟩), hs.out])
            have HG := Lib.hid g2
            have HG3 := Lib.hid g3
            clear HS hs g2 g3 hdl hts
            generalize (dec a.tx).length = cn at *
            go_wp2_with fail
            with_reducible refine (CD.out _).mono ?_
            rintro e w5 ⟨A5, c5, rfl, b5, _, _⟩
            have HB5 := Lib.hid (HB3.out.trans (b5.mono HB3.out.size))
            clear b5 CD
            go_wp2
            go_roundg (gk - 1)
            case measure => omega
            case rel => exact ⟨j + 1, s + cn, by go_num, by omega, by omega, by rw [← Int.add_assoc], HS2, HB5⟩
          · have k3 : (b == 1) = false := by simpa using g3
            have HS2 : Hid (s = wosum at_ b (o.take (j + 1))) := Lib.hid (by rw [HS.out, if_neg (by omega), hs.out, Int.add_zero])
            have HG := Lib.hid g2
            clear HS hs g2 CD
            go_wp2
            go_roundg (gk - 1)
            case measure => omega
            case rel => exact ⟨j + 1, s, by go_num, by omega, by omega, rfl, HS2, HB3⟩
        · have k2 : (a.pl == at_) = false := by simpa using g2
          have HS2 : Hid (s = wosum at_ b (o.take (j + 1))) := Lib.hid (by rw [HS.out, if_neg (by omega), hs.out, Int.add_zero])
          clear HS hs CD
          go_wp2
          go_roundg (gk - 1)
          case measure => omega
          case rel => exact ⟨j + 1, s, by go_num, by omega, by omega, rfl, HS2, HB3⟩
    · obtain rfl : j = m := by omega
      have e2 : o.take j = o := List.take_of_length_le (by rw [HL.out]; exact Nat.le_refl _)
      have HS2 : Hid (s = wosum at_ b o) := Lib.hid (by rw [hs.out, e2])
      have HBX := Lib.hid (X1.out.trans (hb.out.mono X1.out.size))
      clear hs hb e2
      go_wp2
      go_ret
      exact ⟨by rw [← HS2.out]; rfl, HBX.out⟩
set_option linter.unusedVariables false
end Go.Proofs.YtjkmkobnfhepaaaGreat
