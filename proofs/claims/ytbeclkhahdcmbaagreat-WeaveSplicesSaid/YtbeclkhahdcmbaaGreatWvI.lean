/- Weaves: the contract of the document's Spots. Weaves: the contract of the document's Pieces. Weaves: the contracts of the document's Out and In. Weaves: the contract of the document's In. -/
import Derived.Test.YtbeclkhahdcmbaaGreatWvB
import Derived.Test.YtbeclkhahdcmbaaGreatRDec
import Derived.Deep.QuietTactic
namespace Go.Proofs.YtbeclkhahdcmbaaGreat
open Go.RowKit
set_option linter.unusedVariables false
/-- Spots, pieces: two numbers each. -/
def wencS (s : Int × Int) : List Value := [.int .i64 s.1, .int .i64 s.2]
theorem wencS_len (s : Int × Int) : (wencS s).length = 2 := rfl
theorem wencS_one (s : Int × Int) : ∀ v ∈ wencS s, v.oneCell' = true := by
  intro v hv
  simp only [wencS, List.mem_cons, List.not_mem_nil, or_false] at hv
  rcases hv with rfl | rfl <;> rfl
theorem wspot_info : (Tryz.prog.info? 144).map (fun i => (i.zero, i.size, i.bytes)) = some (some (.agg #[.int .i64 0, .int .i64 0]), 2, 16) := by kernel_rfl
theorem wspot_slt : SlT Tryz.prog 99 144 2 16 := slt_of Tryz.underlying99 wspot_info rfl (by kernel_rfl)
/-- The inlays at a place, each rune a spot. -/
def wdIl (l : List In) (p : Int) : List (Int × Int) := (l.filter fun a => decide (a.pl = p)).flatMap fun a => List.replicate (wcnt a) (p, a.id)
theorem wdIl_snoc (l : List In) (a : In) (p : Int) : wdIl (l ++ [a]) p = if a.pl = p then wdIl l p ++ List.replicate (wcnt a) (p, a.id) else wdIl l p := by
  unfold wdIl
  rw [List.filter_append, List.flatMap_append]
  by_cases h : a.pl = p
  · rw [if_pos h, List.filter_cons, if_pos (by simpa using h)]
    simp
  · rw [if_neg h, List.filter_cons, if_neg (by simpa using h)]
    simp
theorem wdIl_len (l : List In) (p : Int) (hc : ∀ a ∈ l, wcnt a ≤ 1000) : (wdIl l p).length ≤ 1000 * l.length := by
  induction l with
  | nil => exact Nat.le_refl _
  | cons a l ih =>
    have h1 := hc a (by simp)
    have h2 := ih (fun x hx => hc x (List.mem_cons_of_mem _ hx))
    unfold wdIl at *
    rw [List.filter_cons]
    split
    · rw [List.flatMap_cons, List.length_append, List.length_replicate, List.length_cons]
      omega
    · rw [List.length_cons]; omega
theorem wdS_len (l : List In) (n : Int) (hc : ∀ a ∈ l, wcnt a ≤ 1000) : ∀ (k : Nat) (p : Int), (wdS l n k p).length ≤ k * (1000 * l.length + 1)
  | 0, _ => Nat.zero_le _
  | k + 1, p => by
    have h1 := wdS_len l n hc k (p + 1)
    have h2 := wdIl_len l p hc
    show (wdIl l p ++ (if p < n then [(p, 0)] else []) ++ wdS l n k (p + 1)).length ≤ _
    rw [List.length_append, List.length_append, Nat.add_mul, Nat.one_mul]
    have h3 : (if p < n then [(p, (0 : Int))] else []).length ≤ 1 := by split <;> simp
    omega
theorem wrep_snoc (k : Nat) (x : Int × Int) : List.replicate (k + 1) x = List.replicate k x ++ [x] := List.replicate_succ'
set_option maxHeartbeats 16000000 in
set_option maxRecDepth 100000 in
theorem rSpots_any (n : Nat) (er : Int) (A : Option Addr) (m c : Nat) (o : List In) (w : World) (hA : RowsAt encI 5 w A o) (hl : o.length = m) (hm : m ≤ 100) (hn : n ≤ 1000) (htx : ∀ a ∈ o, a.tx.size ≤ 1000) :
    Calls Tryz.prog 43 #[.agg #[.int .i64 n, .slice A m c, .int .i64 er]] w fun e w' => ∃ v, e = .returned v ∧ w'.ownsRow w.heap.size 144 2 v (wdS o n (n + 1) 0).length (kfl wencS (wdS o n (n + 1) 0)) ∧ Below w.heap.size w w' := by
  have ST := wspot_slt
  have HA := Lib.hid hA
  have HL := Lib.hid hl
  have HTX := Lib.hid htx
  have hcn : ∀ a ∈ o, wcnt a ≤ 1000 := fun a ha => Nat.le_trans (dec_len a.tx) (htx a ha)
  have HDS := Lib.hid fun (k : Nat) (hk : k ≤ n + 1) => (show (wdS o n k 0).length ≤ 200000000 from Nat.le_trans (wdS_len o n hcn k 0) (Nat.le_trans (Nat.mul_le_mul (show k ≤ 1001 by omega) (show 1000 * o.length + 1 ≤ 100001 by omega)) (by omega)))
  have HDI := Lib.hid fun (i : Nat) (p : Int) => (show (wdIl (o.take i) p).length ≤ 100000 from Nat.le_trans (wdIl_len (o.take i) p (fun a ha => hcn a (List.mem_of_mem_take ha))) (by rw [List.length_take]; omega))
  have x1 : Below w.heap.size w (w.alloc (.cells #[.int .i64 n, .slice A m c, .int .i64 er] 33)) := (Below.refl _ _).alloc (Nat.le_refl _) _
  have r1 : RawAt 33 (w.alloc (.cells #[.int .i64 n, .slice A m c, .int .i64 er] 33)) w.heap.size #[.int .i64 n, .slice A m c, .int .i64 er] := heap_alloc_new w _
  have hz1 : (w.alloc (.cells #[.int .i64 n, .slice A m c, .int .i64 er] 33)).heap.size = w.heap.size + 1 := by simp
  obtain ⟨W1, hW1⟩ : ∃ W1, W1 = w.alloc (.cells #[.int .i64 n, .slice A m c, .int .i64 er] 33) := ⟨_, rfl⟩
  rw [← hW1] at x1 r1 hz1
  have HW1 := Lib.hid hW1
  have X1 := Lib.hid x1
  have R1 := Lib.hid r1
  have HZ1 := Lib.hid hz1
  have HA1 := Lib.hid (HA.out.below x1)
  clear hA hl htx hcn hW1 x1 r1 hz1 HA
  generalize hbz : w.heap.size = bz at *
  go_enter Tryz.func43, Tryz.ntmps43
  go_wp2_with fail
  rw [← HW1.out]
  go_loopg [3, 4] (n + 2) (fun g v i wr => ∃ j N : Nat, i = .int .i64 j ∧ j ≤ n + 1 ∧ n + 2 - j ≤ g ∧ Hid (Below W1.heap.size W1 wr) ∧ Hid (wr.ownsRow W1.heap.size 144 2 v N (kfl wencS (wdS o n j 0))))
  case atStart => exact ⟨0, 0, rfl, by omega, by omega, Lib.hid (Below.refl _ _), Lib.hid (World.ownsRow_nil _ _ _ _)⟩
  case round =>
    clear HW1
    obtain ⟨j, N, rfl, j1, j2, hb, hown⟩ := hrel
    obtain ⟨gO, hgO⟩ : ∃ g, g = gk := ⟨_, rfl⟩
    subst hgO
    have c0 : wr.cell? ⟨bz, 0, none⟩ = some (.int .i64 n) := RawAt.cell (R1.out.below hb.out R1.out.lt) 0
    have c1 : wr.cell? ⟨bz, 1, none⟩ = some (.slice A m c) := RawAt.cell (R1.out.below hb.out R1.out.lt) 1
    have hDl := HDS.out j j1
    by_cases hlt : j ≤ n
    · have k0 : decide ((j : Int) ≤ n) = true := decide_eq_true (by omega)
      have HB0 : Hid (Below W1.heap.size W1 wr) := hb
      have HO0 : Hid (wr.ownsRow W1.heap.size 144 2 u3 N (kfl wencS (wdS o n j 0 ++ wdIl (o.take 0) j))) := Lib.hid (by rw [List.take_zero, show wdIl ([] : List In) (j : Int) = [] from rfl, List.append_nil]; exact hown.out)
      clear hb hown
      go_wp2_with fail
      go_loopg [3, 16] m (fun g v i wr => ∃ q N : Nat, i = .int .i64 q ∧ q ≤ m ∧ m - q ≤ g ∧ Hid (Below W1.heap.size W1 wr) ∧ Hid (wr.ownsRow W1.heap.size 144 2 v N (kfl wencS (wdS o n j 0 ++ wdIl (o.take q) j))))
      case atStart => exact ⟨0, N, rfl, by omega, by omega, HB0, HO0⟩
      case round =>
        clear HO0 HB0 c0 c1
        obtain ⟨q, N, rfl, q1, q2, hb, hown⟩ := hrel
        obtain ⟨gP, hgP⟩ : ∃ g, g = gk := ⟨_, rfl⟩
        subst hgP
        by_cases hq : q < m
        · have hql : q < o.length := by rw [HL.out]; exact hq
          obtain ⟨bA, off, rfl, hbA, d0, d1, d2, d3, d4⟩ := wrowsW (HA1.out.below (hb.out.mono (Nat.le_refl _))) hql
          have hts := HTX.out _ (List.getElem_mem hql)
          have htk : wdIl (o.take (q + 1)) j = if o[q].pl = j then wdIl (o.take q) j ++ List.replicate (wcnt o[q]) ((j : Int), o[q].id) else wdIl (o.take q) j := by rw [List.take_succ_eq_append_getElem hql, wdIl_snoc]
          have HTK := Lib.hid htk
          have hIl := HDI.out q j
          have hIl2 := HDI.out (q + 1) j
          rw [htk] at hIl2
          clear htk
          generalize o[q] = a at *
          generalize wdIl (o.take q) j = E at *
          have i1 : (0 : Int) ≤ q := by omega
          have i2 : (q : Int) < m := by omega
          have x3 : Below wr.heap.size wr (wr.alloc (.cells #[.int .i64 a.id, .int .i64 a.pl, .int .i64 a.bi, .int .i64 a.ky, .string a.tx] 48)) := (Below.refl _ _).alloc (Nat.le_refl _) _
          have R3 : RawAt 48 (wr.alloc (.cells #[.int .i64 a.id, .int .i64 a.pl, .int .i64 a.bi, .int .i64 a.ky, .string a.tx] 48)) wr.heap.size #[.int .i64 a.id, .int .i64 a.pl, .int .i64 a.bi, .int .i64 a.ky, .string a.tx] := heap_alloc_new wr _
          have HB3 := Lib.hid (hb.out.trans (x3.mono hb.out.size))
          have HO3 := Lib.hid (own_below hown.out x3)
          have e1 : (wr.alloc (.cells #[.int .i64 a.id, .int .i64 a.pl, .int .i64 a.bi, .int .i64 a.ky, .string a.tx] 48)).cell? ⟨wr.heap.size, 1, none⟩ = some (.int .i64 a.pl) := RawAt.cell R3 1
          have e4 : (wr.alloc (.cells #[.int .i64 a.id, .int .i64 a.pl, .int .i64 a.bi, .int .i64 a.ky, .string a.tx] 48)).cell? ⟨wr.heap.size, 4, none⟩ = some (.string a.tx) := RawAt.cell R3 4
          have HR3 := Lib.hid R3
          clear x3 R3 hb hown
          by_cases hp : a.pl = j
          · have kp : (a.pl == (j : Int)) = true := by simpa using hp
            rw [if_pos hp] at hIl2
            have HTK2 := Lib.hid (HTK.out.trans (if_pos hp))
            have CD := Lib.hid fun (W : World) => rdecode_any a.tx W (by omega)
            have hwc : wcnt a = (dec a.tx).length := rfl
            rw [hwc] at hIl2 HTK2
            have HP := Lib.hid hp
            clear hp HTK hwc
            generalize (dec a.tx).length = cn at *
            simp only [List.length_append, List.length_replicate] at hIl2
            go_wp2_with fail
            with_reducible refine (CD.out _).mono ?_
            rintro e w5 ⟨A5, c5, rfl, b5, _, _⟩
            have HB5 := Lib.hid (HB3.out.trans (b5.mono HB3.out.size))
            have HO5 : Hid (w5.ownsRow W1.heap.size 144 2 u3 N (kfl wencS (wdS o n j 0 ++ E ++ List.replicate 0 ((j : Int), a.id)))) := Lib.hid (by rw [List.replicate_zero, List.append_nil]; exact own_below HO3.out b5)
            have HR5 := Lib.hid (HR3.out.below b5 HR3.out.lt)
            generalize wr.heap.size = bx at *
            clear b5 e1 e4 HB3 HO3 HR3 CD
            go_wp2_with fail
            go_loopg [3, 28] cn (fun g v i wr => ∃ k N : Nat, i = .int .i64 k ∧ k ≤ cn ∧ cn - k ≤ g ∧ Hid (Below W1.heap.size W1 wr) ∧ Hid (wr.ownsRow W1.heap.size 144 2 v N (kfl wencS (wdS o n j 0 ++ E ++ List.replicate k ((j : Int), a.id)))) ∧ Hid (RawAt 48 wr bx #[.int .i64 a.id, .int .i64 a.pl, .int .i64 a.bi, .int .i64 a.ky, .string a.tx]))
            case atStart => exact ⟨0, N, rfl, by omega, by omega, HB5, HO5, HR5⟩
            case round =>
              clear HB5 HO5 HR5
              obtain ⟨k, N, rfl, k1, k2, hb, hown, hx⟩ := hrel
              by_cases hk : k < cn
              · have i3 : (0 : Int) ≤ k := by omega
                have i4 : (k : Int) < cn := by omega
                have e0 : wr.cell? ⟨bx, 0, none⟩ = some (.int .i64 a.id) := RawAt.cell hx.out 0
                obtain ⟨A6, c6, rfl⟩ := own_formI hown.out
                have HNN : Hid (wdS o n j 0 ++ E ++ List.replicate (k + 1) ((j : Int), a.id) = (wdS o n j 0 ++ E ++ List.replicate k ((j : Int), a.id)) ++ [((j : Int), a.id)]) := Lib.hid (by rw [wrep_snoc, ← List.append_assoc])
                have hNb : N ≤ 300000000 := by
                  have := own_len wencS_len (by omega) hown.out
                  simp only [List.length_append, List.length_replicate] at this
                  omega
                have HBX := hb
                have HOX := hown
                have HRX := hx
                clear hb hown hx
                have x7 : Below wr.heap.size wr (wr.alloc (.cells #[.int .i64 j, .int .i64 a.id] 144)) := (Below.refl _ _).alloc (Nat.le_refl _) _
                have S7 := Lib.hid (rows_of_block (enc := wencS) (k := 2) wencS_len (heap_alloc_new wr _ : RawAt 144 (wr.alloc (.cells #[.int .i64 j, .int .i64 a.id] 144)) wr.heap.size #[.int .i64 j, .int .i64 a.id]) (l := [((j : Int), a.id)]) rfl)
                have O7 := Lib.hid (own_below HOX.out x7)
                have B7 := Lib.hid (HBX.out.trans (x7.mono HBX.out.size))
                have lt7 := O7.out.lt
                clear x7
                go_wp2_with (at_builtin; refine wpList_appK (enc := wencS) ST wencS_len (by omega) rfl (.tmp 30) (.tmp 35) rfl (base := W1.heap.size) (v := .slice A6 N c6) rfl O7.out _ 1 1 [((j : Int), a.id)] rfl S7.out ⟨Nat.le_refl _, fun h => by cases h⟩ rfl (kfl_one' wencS_one _) (by simp only [maxLen]; omega) (by omega) (by have := B7.out.size; omega) ?_; intro v7 w7 hown7 hg7 hor7; have HT7 := Lib.hid ((OnT.grown (ts := [144]) O7.out hg7 (by simp)) _ _ _ (by decide) (HRX.out.below ((Below.refl _ _).alloc (Nat.le_refl _) (.cells #[.int .i64 j, .int .i64 a.id] 144)) HRX.out.lt)); have HB7 := Lib.hid (B7.out.grown hg7 B7.out.size (fun j hj => by have := (lt7 j hj).1; omega)); have HO7 := Lib.hid hown7; clear hown7 hg7 hor7 O7 B7 S7 lt7)
                go_roundg (gk - 1)
                case measure => omega
                case rel => exact ⟨k + 1, N + 1, by go_num, by omega, by omega, HB7, Lib.hid (by rw [HNN.out, kfl_append]; exact HO7.out), HT7⟩
              · obtain rfl : k = cn := by omega
                have HBX := hb
                have HOX : Hid (wr.ownsRow W1.heap.size 144 2 u3 N (kfl wencS (wdS o n j 0 ++ wdIl (o.take (q + 1)) j))) := Lib.hid (by rw [HTK2.out, ← List.append_assoc]; exact hown.out)
                clear hb hown hx
                go_wp2
                go_roundg (gP - 1)
                case measure => omega
                case rel => exact ⟨q + 1, N, by go_num, by omega, by omega, HBX, HOX⟩
          · have kp : (a.pl == (j : Int)) = false := by simpa using hp
            have HOX : Hid ((wr.alloc (.cells #[.int .i64 a.id, .int .i64 a.pl, .int .i64 a.bi, .int .i64 a.ky, .string a.tx] 48)).ownsRow W1.heap.size 144 2 u3 N (kfl wencS (wdS o n j 0 ++ wdIl (o.take (q + 1)) j))) := Lib.hid (by rw [HTK.out, if_neg hp]; exact HO3.out)
            clear HTK HO3 HR3
            go_wp2
            go_roundg (gP - 1)
            case measure => omega
            case rel => exact ⟨q + 1, N, by go_num, by omega, by omega, HB3, HOX⟩
        · obtain rfl : q = m := by omega
          have e2 : o.take q = o := List.take_of_length_le (by rw [HL.out]; exact Nat.le_refl _)
          have c0 : wr.cell? ⟨bz, 0, none⟩ = some (.int .i64 n) := RawAt.cell (R1.out.below hb.out R1.out.lt) 0
          have ho2 := hown.out
          rw [e2] at ho2
          have hIl := HDI.out q j
          rw [e2] at hIl
          have HDD : Hid (wdS o n (j + 1) 0 = wdS o n j 0 ++ wdIl o j ++ if (j : Int) < n then [((j : Int), 0)] else []) := Lib.hid (by rw [wdS_snoc, Int.zero_add, List.append_assoc]; rfl)
          by_cases hjn : j < n
          · have kn : decide ((j : Int) < n) = true := decide_eq_true (by omega)
            have HDE : Hid (wdS o n (j + 1) 0 = (wdS o n j 0 ++ wdIl o j) ++ [((j : Int), 0)]) := Lib.hid (by rw [HDD.out, if_pos (by omega)])
            obtain ⟨A6, c6, rfl⟩ := own_formI ho2
            have hNb : N ≤ 300000000 := by
              have := own_len wencS_len (by omega) ho2
              simp only [List.length_append] at this
              omega
            have HOX := Lib.hid ho2
            have HBX := hb
            have w1' : IntKind.i64.wrap ((j : Int) + 1) = (j : Int) + 1 := IntWalk.i64_in _ (by omega)
            clear ho2 hb hown HDD
            have x7 : Below wr.heap.size wr (wr.alloc (.cells #[.int .i64 j, .int .i64 0] 144)) := (Below.refl _ _).alloc (Nat.le_refl _) _
            have S7 := Lib.hid (rows_of_block (enc := wencS) (k := 2) wencS_len (heap_alloc_new wr _ : RawAt 144 (wr.alloc (.cells #[.int .i64 j, .int .i64 0] 144)) wr.heap.size #[.int .i64 j, .int .i64 0]) (l := [((j : Int), 0)]) rfl)
            have O7 := Lib.hid (own_below HOX.out x7)
            have B7 := Lib.hid (HBX.out.trans (x7.mono HBX.out.size))
            have lt7 := O7.out.lt
            clear x7
            go_wp2_with (at_builtin; refine wpList_appK (enc := wencS) ST wencS_len (by omega) rfl (.tmp 43) (.tmp 46) rfl (base := W1.heap.size) (v := .slice A6 N c6) rfl O7.out _ 1 1 [((j : Int), 0)] rfl S7.out ⟨Nat.le_refl _, fun h => by cases h⟩ rfl (kfl_one' wencS_one _) (by simp only [maxLen]; omega) (by omega) (by have := B7.out.size; omega) ?_; intro v7 w7 hown7 hg7 hor7; have HB7 := Lib.hid (B7.out.grown hg7 B7.out.size (fun j hj => by have := (lt7 j hj).1; omega)); have HO7 := Lib.hid hown7; clear hown7 hg7 hor7 O7 B7 S7 lt7)
            go_roundg (gO - 1)
            case measure => omega
            case rel => exact ⟨j + 1, N + 1, by go_num, by omega, by omega, HB7, Lib.hid (by rw [HDE.out, kfl_append]; exact HO7.out)⟩
          · have kn : decide ((j : Int) < n) = false := decide_eq_false (by omega)
            have w1' : IntKind.i64.wrap ((j : Int) + 1) = (j : Int) + 1 := IntWalk.i64_in _ (by omega)
            have HOX : Hid (wr.ownsRow W1.heap.size 144 2 u3 N (kfl wencS (wdS o n (j + 1) 0))) := Lib.hid (by rw [HDD.out, if_neg (by omega), List.append_nil]; exact ho2)
            have HBX := hb
            clear ho2 hb hown HDD
            go_wp2
            go_roundg (gO - 1)
            case measure => omega
            case rel => exact ⟨j + 1, N, by go_num, by omega, by omega, HBX, HOX⟩
    · obtain rfl : j = n + 1 := by omega
      have k0 : decide ((((n + 1 : Nat)) : Int) ≤ n) = false := decide_eq_false (by omega)
      have k0' : decide ((n : Int) + 1 ≤ n) = false := decide_eq_false (by omega)
      have hN := own_len wencS_len (by omega) hown.out
      have HOX : Hid (wr.ownsRow bz 144 2 u3 (wdS o n (n + 1) 0).length (kfl wencS (wdS o n (n + 1) 0))) := Lib.hid (by rw [hN]; exact own_base hown.out (by have := HZ1.out; omega))
      clear hN
      have HBX := Lib.hid (X1.out.trans (hb.out.mono (show bz ≤ W1.heap.size by have := HZ1.out; omega)))
      clear hb hown
      go_wp2
      go_ret
      exact ⟨_, rfl, HOX.out, HBX.out⟩
set_option linter.unusedVariables false
theorem wrpc_info : (Tryz.prog.info? 145).map (fun i => (i.zero, i.size, i.bytes)) = some (some (.agg #[.int .i64 0, .int .i64 0]), 2, 16) := by kernel_rfl
theorem wrpc_slt : SlT Tryz.prog 102 145 2 16 := slt_of Tryz.underlying102 wrpc_info rfl (by kernel_rfl)
theorem wgput_ne (acc : List (Int × Int)) (id : Int) : wgput acc id ≠ [] := by
  unfold wgput
  split
  · split <;> simp
  · simp
theorem wgrp_take (S : List (Int × Int)) {j : Nat} (h : j < S.length) : wgrp [] (S.take (j + 1)) = wgput (wgrp [] (S.take j)) S[j].2 := by
  rw [List.take_succ_eq_append_getElem h]
  unfold wgrp
  rw [List.foldl_append]
  rfl
theorem wgrp_pos (S : List (Int × Int)) {j : Nat} (h : j ≤ S.length) (h0 : 0 < j) : wgrp [] (S.take j) ≠ [] := by
  obtain ⟨k, rfl⟩ : ∃ k, j = k + 1 := ⟨j - 1, by omega⟩
  rw [wgrp_take S (by omega)]
  exact wgput_ne _ _
theorem wgput_len (acc : List (Int × Int)) (id : Int) : (wgput acc id).length ≤ acc.length + 1 := by
  unfold wgput
  split
  · split
    · simp
    · simp
  · simp
theorem wgrp_len (S : List (Int × Int)) : ∀ j, j ≤ S.length → (wgrp [] (S.take j)).length ≤ j
  | 0, _ => Nat.le_refl _
  | j + 1, h => by
    rw [wgrp_take S (by omega)]
    have := wgput_len (wgrp [] (S.take j)) S[j].2
    have := wgrp_len S j (by omega)
    omega
/-- How many each piece has at most. -/
theorem wgrp_n (S : List (Int × Int)) : ∀ j, j ≤ S.length → ∀ x ∈ wgrp [] (S.take j), 0 ≤ x.2 ∧ x.2 ≤ j
  | 0, _ => fun x hx => by cases hx
  | j + 1, h => by
    intro x hx
    rw [wgrp_take S (by omega)] at hx
    have ih := wgrp_n S j (by omega)
    unfold wgput at hx
    split at hx
    · rename_i y hy
      have hy2 := ih y (List.mem_of_getLast? hy)
      split at hx
      · rcases List.mem_append.1 hx with hx | hx
        · have := ih x (List.dropLast_subset _ hx); omega
        · rw [List.mem_singleton.1 hx]; simp only; omega
      · rcases List.mem_append.1 hx with hx | hx
        · have := ih x hx; omega
        · rw [List.mem_singleton.1 hx]; simp only; omega
    · rw [List.mem_singleton.1 hx]; simp only; omega
theorem wgput_app (G : List (Int × Int)) (i m id : Int) : wgput (G ++ [(i, m)]) id = if i = id then G ++ [(i, m + 1)] else G ++ [(i, m)] ++ [(id, 1)] := by
  unfold wgput
  rw [List.getLast?_append, List.getLast?_singleton, List.dropLast_concat]
  rfl
theorem wencS_set : ∀ (G : List (Int × Int)) (i m z : Int), (kfl wencS (G ++ [(i, m)])).set (G.length * 2 + 1) (.int .i64 z) = kfl wencS (G ++ [(i, z)])
  | [], i, m, z => rfl
  | x :: G, i, m, z => by
    have ih := wencS_set G i m z
    show (wencS x ++ kfl wencS (G ++ [(i, m)])).set ((G.length + 1) * 2 + 1) (.int .i64 z) = wencS x ++ kfl wencS (G ++ [(i, z)])
    rw [List.set_append_right _ _ (by rw [wencS_len]; omega), wencS_len, show (G.length + 1) * 2 + 1 - 2 = G.length * 2 + 1 from by omega, ih]
theorem wrowsS {w : World} {A : Option Addr} {l : List (Int × Int)} (h : RowsAt wencS 2 w A l) {j : Nat} (hj : j < l.length) : ∃ b off, A = some ⟨b, off, none⟩ ∧ b < w.heap.size ∧ w.cell? ⟨b, off + j * 2, none⟩ = some (.int .i64 l[j].1) ∧ w.cell? ⟨b, off + j * 2 + 1, none⟩ = some (.int .i64 l[j].2) := by
  obtain ⟨b, off, e, h1, hc⟩ := h.at1 hj
  exact ⟨b, off, e, h1, hc 0 (by omega), hc 1 (by omega)⟩
set_option maxHeartbeats 16000000 in
set_option maxRecDepth 100000 in
theorem rPieces_any (n : Nat) (er : Int) (A : Option Addr) (m c : Nat) (o : List In) (w : World) (hA : RowsAt encI 5 w A o) (hl : o.length = m) (hm : m ≤ 100) (hn : n ≤ 1000) (htx : ∀ a ∈ o, a.tx.size ≤ 1000) :
    Calls Tryz.prog 46 #[.agg #[.int .i64 n, .slice A m c, .int .i64 er]] w fun e w' => ∃ v, e = .returned v ∧ w'.ownsRow w.heap.size 145 2 v (wgrp [] (wdS o n (n + 1) 0)).length (kfl wencS (wgrp [] (wdS o n (n + 1) 0))) ∧ Below w.heap.size w w' := by
  have ST := wrpc_slt
  have hcn : ∀ a ∈ o, wcnt a ≤ 1000 := fun a ha => Nat.le_trans (dec_len a.tx) (htx a ha)
  have hSl : (wdS o n (n + 1) 0).length ≤ 200000000 := Nat.le_trans (wdS_len o n hcn (n + 1) 0) (Nat.le_trans (Nat.mul_le_mul (show n + 1 ≤ 1001 by omega) (show 1000 * o.length + 1 ≤ 100001 by omega)) (by omega))
  have x1 : Below w.heap.size w (w.alloc (.cells #[.int .i64 n, .slice A m c, .int .i64 er] 33)) := (Below.refl _ _).alloc (Nat.le_refl _) _
  have r1 : RawAt 33 (w.alloc (.cells #[.int .i64 n, .slice A m c, .int .i64 er] 33)) w.heap.size #[.int .i64 n, .slice A m c, .int .i64 er] := heap_alloc_new w _
  obtain ⟨W1, hW1⟩ : ∃ W1, W1 = w.alloc (.cells #[.int .i64 n, .slice A m c, .int .i64 er] 33) := ⟨_, rfl⟩
  rw [← hW1] at x1 r1
  have CS := Lib.hid (rSpots_any n er A m c o W1 (hA.below x1) hl hm hn htx)
  have HW1 := Lib.hid hW1
  have X1 := Lib.hid x1
  have c0 : W1.cell? ⟨w.heap.size, 0, none⟩ = some (.int .i64 n) := RawAt.cell r1 0
  have c1 : W1.cell? ⟨w.heap.size, 1, none⟩ = some (.slice A m c) := RawAt.cell r1 1
  have c2 : W1.cell? ⟨w.heap.size, 2, none⟩ = some (.int .i64 er) := RawAt.cell r1 2
  clear hA hl htx hcn hW1 x1 r1
  generalize wdS o n (n + 1) 0 = S at *
  go_enter Tryz.func46, Tryz.ntmps46
  go_wp2_with fail
  rw [← HW1.out]
  go_wp2_with fail
  with_reducible refine (CS.out).mono ?_
  rintro e W2 ⟨v2, rfl, o2, b2⟩
  have X2 := Lib.hid (X1.out.trans (b2.mono X1.out.size))
  obtain ⟨A2, cc2, rfl, hR, _, _⟩ := rows_of_own wencS_len (by omega) o2
  have HR := Lib.hid hR
  have HSL := Lib.hid (show S.length = S.length from rfl)
  obtain ⟨M, hM⟩ : ∃ M, M = S.length := ⟨_, rfl⟩
  rw [← hM] at hSl
  simp only [← hM]
  have HM := Lib.hid hM
  clear b2 o2 hR CS HW1 c0 c1 c2 hM HSL
  go_wp2_with fail
  go_loopg [3, 10] M (fun g v i wr => ∃ j N : Nat, i = .int .i64 j ∧ j ≤ M ∧ M - j ≤ g ∧ Hid (Below W2.heap.size W2 wr) ∧ Hid (wr.ownsRow W2.heap.size 145 2 v N (kfl wencS (wgrp [] (S.take j)))))
  case atStart => exact ⟨0, 0, rfl, by omega, by omega, Lib.hid (Below.refl _ _), Lib.hid (World.ownsRow_nil _ _ _ _)⟩
  case round =>
    obtain ⟨j, N, rfl, j1, j2, hb, hown⟩ := hrel
    have hNl := own_len wencS_len (by omega) hown.out
    have hNj := wgrp_len S j (by rw [← HM.out]; exact j1)
    rw [hNl] at hNj
    by_cases hlt : j < M
    · have hjl : j < S.length := by rw [← HM.out]; exact hlt
      obtain ⟨bA, off, rfl, hbA, d0, d1⟩ := wrowsS (HR.out.below hb.out) hjl
      have HG := Lib.hid (wgrp_take S hjl)
      have HGN := Lib.hid (wgrp_n S j (by omega))
      have HGP := Lib.hid (wgrp_pos S (j := j) (by omega))
      generalize S[j] = s at *
      obtain ⟨at_, id⟩ := s
      simp only at d0 d1 HG
      have i1 : (0 : Int) ≤ j := by omega
      have i2 : (j : Int) < M := by omega
      have x3 : Below wr.heap.size wr (wr.alloc (.cells #[.int .i64 at_, .int .i64 id] 144)) := (Below.refl _ _).alloc (Nat.le_refl _) _
      have R3 : RawAt 144 (wr.alloc (.cells #[.int .i64 at_, .int .i64 id] 144)) wr.heap.size #[.int .i64 at_, .int .i64 id] := heap_alloc_new wr _
      have e1 : (wr.alloc (.cells #[.int .i64 at_, .int .i64 id] 144)).cell? ⟨wr.heap.size, 1, none⟩ = some (.int .i64 id) := RawAt.cell R3 1
      have HB3 := Lib.hid (hb.out.trans (x3.mono hb.out.size))
      have HO3 := Lib.hid (own_below hown.out x3)
      have HR3 := Lib.hid R3
      by_cases h0 : j = 0
      · have k0 : decide ((0 : Int) < j) = false := decide_eq_false (by omega)
        have k0n : decide (0 < j) = false := decide_eq_false (by omega)
        have HG0 : Hid (wgrp [] (S.take (j + 1)) = wgrp [] (S.take j) ++ [(id, 1)]) := Lib.hid (by rw [HG.out, h0]; rfl)
        have hN0 : N = 0 := by omega
        have K0 := Lib.hid h0
        clear x3 R3 hb hown HG HGP HGN h0 hNl hNj
        subst hN0
        obtain ⟨A3, c3, rfl⟩ := own_formI HO3.out
        obtain ⟨W3, hW3⟩ : ∃ W3, W3 = (wr.alloc (.cells #[.int .i64 at_, .int .i64 id] 144)) := ⟨_, rfl⟩
        rw [← hW3] at HB3 HO3 HR3 e1
        have HW3 := Lib.hid hW3
        clear hW3
        have w1' : IntKind.i64.wrap (-1) = -1 := IntWalk.i64_in _ (by omega)
        go_wp2_with fail
        rw [← HW3.out]
        go_quiet (fail)
        have x4 := drewN_below (Below.refl W3.heap.size W3) nq
        have HB4 := Lib.hid (HB3.out.trans (x4.mono HB3.out.size))
        have HO4 := Lib.hid (own_below HO3.out x4)
        have HR4 := Lib.hid (HR3.out.below x4 HR3.out.lt)
        have e1' : (W3.drewN nq).cell? ⟨wr.heap.size, 1, none⟩ = some (.int .i64 id) := RawAt.cell HR4.out 1
        clear x4
        generalize W3.drewN nq = W4 at *
        have x7 : Below W4.heap.size W4 (W4.alloc (.cells #[.int .i64 id, .int .i64 1] 145)) := (Below.refl _ _).alloc (Nat.le_refl _) _
        have S7 := Lib.hid (rows_of_block (enc := wencS) (k := 2) wencS_len (heap_alloc_new W4 _ : RawAt 145 (W4.alloc (.cells #[.int .i64 id, .int .i64 1] 145)) W4.heap.size #[.int .i64 id, .int .i64 1]) (l := [(id, 1)]) rfl)
        have O7 := Lib.hid (own_below HO4.out x7)
        have B7 := Lib.hid (HB4.out.trans (x7.mono HB4.out.size))
        have lt7 := O7.out.lt
        clear x7
        go_wp2_with (at_builtin; refine wpList_appK (enc := wencS) ST wencS_len (by omega) rfl (.tmp 40) (.tmp 44) rfl (base := W2.heap.size) (v := .slice A3 0 c3) rfl O7.out _ 1 1 [(id, 1)] rfl S7.out ⟨Nat.le_refl _, fun h => by cases h⟩ rfl (kfl_one' wencS_one _) (by simp only [maxLen]; omega) (by omega) (by have := B7.out.size; omega) ?_; intro v7 w7 hown7 hg7 hor7; have HB7 := Lib.hid (B7.out.grown hg7 B7.out.size (fun j hj => by have := (lt7 j hj).1; omega)); have HO7 := Lib.hid hown7; clear hown7 hg7 hor7 O7 B7 S7 lt7)
        go_roundg (gk - 1)
        case measure => omega
        case rel => exact ⟨j + 1, 1, by go_num, by omega, by omega, HB7, Lib.hid (by rw [HG0.out, kfl_append]; exact HO7.out)⟩
      · have k0 : decide ((0 : Int) < j) = true := decide_eq_true (by omega)
        have k0n : decide (0 < j) = true := decide_eq_true (by omega)
        have hne := HGP.out (by omega)
        obtain ⟨G, y, hGy⟩ : ∃ G y, wgrp [] (S.take j) = G ++ [y] := ⟨_, _, (List.dropLast_concat_getLast hne).symm⟩
        obtain ⟨yi, ym⟩ := y
        rw [hGy] at hNl
        obtain rfl : N = G.length + 1 := by rw [← hNl]; simp
        have hyb := HGN.out (yi, ym) (by rw [hGy]; simp)
        simp only at hyb
        obtain ⟨g, cap, rfl⟩ := own_slice HO3.out (by omega)
        have HO3' := HO3.out
        rw [hGy] at HO3'
        have HGY := Lib.hid hGy
        obtain ⟨A9, c9, e9, hR9, _, _⟩ := rows_of_own wencS_len (by omega) HO3'
        obtain ⟨bb, oo, e10, _, q0, q1⟩ := wrowsS hR9 (j := G.length) (by simp)
        cases e9
        cases e10
        simp at q0 q1
        have hfree := Lib.hid fun (k : Nat) => own_freeI HO3' k
        have HG1 : Hid (wgrp [] (S.take (j + 1)) = if yi = id then G ++ [(yi, ym + 1)] else G ++ [(yi, ym)] ++ [(id, 1)]) := Lib.hid (by rw [HG.out, hGy, wgput_app])
        have HO5 := Lib.hid HO3'
        clear HO3' hGy hR9 HG HGP HGN hne hNl x3 R3 hb hown h0 HO3
        generalize hK : G.length = K at *
        have HK := Lib.hid hK
        clear hK
        have hw : IntKind.i64.wrap ((K : Int) + 1 - 1) = K := by rw [show (K : Int) + 1 - 1 = K from by omega]; exact IntWalk.i64_in _ (by omega)
        have i5 : (K : Int) < (K : Int) + 1 := by omega
        have i6 : (0 : Int) ≤ K := by omega
        have i7 : ¬ (K : Int) < 0 := by omega
        have hw2 : IntKind.i64.wrap (K : Int) = K := IntWalk.i64_in _ (by omega)
        have w2' : IntKind.i64.wrap (ym + 1) = ym + 1 := IntWalk.i64_in _ (by omega)
        obtain ⟨W3, hW3⟩ : ∃ W3, W3 = (wr.alloc (.cells #[.int .i64 at_, .int .i64 id] 144)) := ⟨_, rfl⟩
        rw [← hW3] at HB3 HO5 HR3 e1 q0 q1 hfree
        have HW3 := Lib.hid hW3
        clear hW3
        by_cases hid : yi = id
        · have kq : (yi == id) = true := by simpa using hid
          have HG2 := Lib.hid (HG1.out.trans (if_pos hid))
          have HID := Lib.hid hid
          clear hid HG1
          go_wp2_with fail
          rw [← HW3.out]
          go_quiet (fail)
          have x4 := drewN_below (Below.refl W3.heap.size W3) nq
          have HB4 := Lib.hid (HB3.out.trans (x4.mono HB3.out.size))
          have o4 := own_below HO5.out x4
          have HR4 := Lib.hid (HR3.out.below x4 HR3.out.lt)
          have e1' : (W3.drewN nq).cell? ⟨wr.heap.size, 1, none⟩ = some (.int .i64 id) := RawAt.cell HR4.out 1
          obtain ⟨A8, c8, e8, hR8, _, _⟩ := rows_of_own wencS_len (by omega) o4
          obtain ⟨b8, oo8, e18, _, z0, z1⟩ := wrowsS hR8 (j := G.length) (by simp)
          cases e8
          cases e18
          simp at z0 z1
          rw [HK.out] at z0 z1
          have z1' : (W3.drewN nq).cell? ⟨g, K * 2 + 1, none⟩ = some (.int .i64 ym) := z1
          have zf := own_freeI o4 (K * 2 + 1)
          have HO6 := Lib.hid o4
          have HLT := Lib.hid ((o4.lt g (by rfl)).1)
          clear x4 hR8 o4 hfree HO5 HB3 HR3 e1 q0 q1
          generalize W3.drewN nq = W4 at *
          have HO7 : Hid ((W4.setCell ⟨g, K * 2 + 1, none⟩ (.int .i64 (ym + 1))).ownsRow W2.heap.size 145 2 (.slice (some ⟨g, 0, none⟩) (K + 1) cap) (K + 1) (kfl wencS (wgrp [] (S.take (j + 1))))) := Lib.hid (by
            have := own_setKI HO6.out (K * 2 + 1) (.int .i64 (ym + 1))
            rw [show K * 2 + 1 = G.length * 2 + 1 from by rw [HK.out], wencS_set] at this
            rw [HG2.out, show K * 2 + 1 = G.length * 2 + 1 from by rw [HK.out]]
            exact this)
          have HB7 : Hid (Below W2.heap.size W2 (W4.setCell ⟨g, K * 2 + 1, none⟩ (.int .i64 (ym + 1)))) := Lib.hid (HB4.out.setCell (p := ⟨g, K * 2 + 1, none⟩) HLT.out _)
          clear HO6 HB4 HR4
          go_wp2
          go_roundg (gk - 1)
          case measure => omega
          case rel => exact ⟨j + 1, K + 1, by go_num, by omega, by omega, HB7, HO7⟩
        · have kq : (yi == id) = false := by simpa using hid
          have HG2 := Lib.hid (HG1.out.trans (if_neg hid))
          clear hid HG1
          go_wp2_with fail
          rw [← HW3.out]
          go_quiet (fail)
          have x4 := drewN_below (Below.refl W3.heap.size W3) nq
          have HB4 := Lib.hid (HB3.out.trans (x4.mono HB3.out.size))
          have o4 := own_below HO5.out x4
          have HR4 := Lib.hid (HR3.out.below x4 HR3.out.lt)
          have e1' : (W3.drewN nq).cell? ⟨wr.heap.size, 1, none⟩ = some (.int .i64 id) := RawAt.cell HR4.out 1
          obtain ⟨A8, c8, e8, hR8, _, _⟩ := rows_of_own wencS_len (by omega) o4
          obtain ⟨b8, oo8, e18, _, z0, z1⟩ := wrowsS hR8 (j := G.length) (by simp)
          cases e8
          cases e18
          simp at z0 z1
          rw [HK.out] at z0 z1
          have z1' : (W3.drewN nq).cell? ⟨g, K * 2 + 1, none⟩ = some (.int .i64 ym) := z1
          have zf := own_freeI o4 (K * 2 + 1)
          have HO6 := Lib.hid o4
          have HLT := Lib.hid ((o4.lt g (by rfl)).1)
          clear x4 hR8 o4 hfree HO5 HB3 HR3 e1 q0 q1
          generalize W3.drewN nq = W4 at *
          clear z0 z1 z1' zf HLT
          have x7 : Below W4.heap.size W4 (W4.alloc (.cells #[.int .i64 id, .int .i64 1] 145)) := (Below.refl _ _).alloc (Nat.le_refl _) _
          have S7 := Lib.hid (rows_of_block (enc := wencS) (k := 2) wencS_len (heap_alloc_new W4 _ : RawAt 145 (W4.alloc (.cells #[.int .i64 id, .int .i64 1] 145)) W4.heap.size #[.int .i64 id, .int .i64 1]) (l := [(id, 1)]) rfl)
          have O7 := Lib.hid (own_below HO6.out x7)
          have B7 := Lib.hid (HB4.out.trans (x7.mono HB4.out.size))
          have lt7 := O7.out.lt
          clear x7
          go_wp2_with (at_builtin; refine wpList_appK (enc := wencS) ST wencS_len (by omega) rfl (.tmp 40) (.tmp 44) rfl (base := W2.heap.size) (v := .slice (some ⟨g, 0, none⟩) (K + 1) cap) rfl O7.out _ 1 1 [(id, 1)] rfl S7.out ⟨Nat.le_refl _, fun h => by cases h⟩ rfl (kfl_one' wencS_one _) (by simp only [maxLen]; omega) (by omega) (by have := B7.out.size; omega) ?_; intro v7 w7 hown7 hg7 hor7; have HB7 := Lib.hid (B7.out.grown hg7 B7.out.size (fun j hj => by have := (lt7 j hj).1; omega)); have HO7 := Lib.hid hown7; clear hown7 hg7 hor7 O7 B7 S7 lt7)
          go_roundg (gk - 1)
          case measure => omega
          case rel => exact ⟨j + 1, K + 1 + 1, by go_num, by omega, by omega, HB7, Lib.hid (by rw [HG2.out, kfl_append]; exact HO7.out)⟩
    · obtain rfl : j = M := by omega
      have ht : S.take j = S := List.take_of_length_le (by rw [← HM.out]; exact Nat.le_refl _)
      have ho2 := hown.out
      rw [ht] at ho2 hNl
      have HOX : Hid (wr.ownsRow w.heap.size 145 2 u3 (wgrp [] S).length (kfl wencS (wgrp [] S))) := Lib.hid (by rw [hNl]; exact own_base ho2 X2.out.size)
      have HBX := Lib.hid (X2.out.trans (hb.out.mono X2.out.size))
      clear ho2 hb hown hNl
      go_wp2
      go_ret
      exact ⟨_, rfl, HOX.out, HBX.out⟩
set_option linter.unusedVariables false
theorem wosum_append (at_ b : Int) : ∀ l m : List In, wosum at_ b (l ++ m) = wosum at_ b l + wosum at_ b m
  | [], m => by show wosum at_ b m = 0 + wosum at_ b m; omega
  | a :: l, m => by
    show (if a.pl < at_ ∨ (a.pl = at_ ∧ b = 1) then (wcnt a : Int) else 0) + wosum at_ b (l ++ m) = (if a.pl < at_ ∨ (a.pl = at_ ∧ b = 1) then (wcnt a : Int) else 0) + wosum at_ b l + wosum at_ b m
    rw [wosum_append at_ b l m]; omega
theorem wosum_take (at_ b : Int) (l : List In) {j : Nat} (h : j < l.length) : wosum at_ b (l.take (j + 1)) = wosum at_ b (l.take j) + if l[j].pl < at_ ∨ (l[j].pl = at_ ∧ b = 1) then (wcnt l[j] : Int) else 0 := by
  rw [List.take_succ_eq_append_getElem h, wosum_append]
  show _ + ((if l[j].pl < at_ ∨ (l[j].pl = at_ ∧ b = 1) then (wcnt l[j] : Int) else 0) + 0) = _
  omega
theorem wosum_bd (at_ b : Int) (K : Nat) : ∀ l : List In, (∀ a ∈ l, wcnt a ≤ K) → 0 ≤ wosum at_ b l ∧ wosum at_ b l ≤ K * l.length
  | [], _ => ⟨Int.le_refl _, by show (0 : Int) ≤ K * 0; omega⟩
  | a :: l, h => by
    have h1 := h a (by simp)
    obtain ⟨h2, h3⟩ := wosum_bd at_ b K l (fun x hx => h x (List.mem_cons_of_mem _ hx))
    have e : (K : Int) * ((a :: l).length : Nat) = K * l.length + K := by rw [List.length_cons, Int.natCast_add, Int.mul_add]; simp
    rw [e]
    show 0 ≤ (if a.pl < at_ ∨ (a.pl = at_ ∧ b = 1) then (wcnt a : Int) else 0) + wosum at_ b l ∧ (if a.pl < at_ ∨ (a.pl = at_ ∧ b = 1) then (wcnt a : Int) else 0) + wosum at_ b l ≤ _
    split <;> omega
set_option linter.unusedVariables false
/-- What the document's In looks at: the spot, the one ahead. -/
theorem wdIn_zero (n : Int) (S : List (Int × Int)) (h : 0 < S.length) (hid : S[0].2 ≠ -1) : wdIn n (-1) S 0 = (S[0].1, 0) := by
  rw [((wdIn_get n S (-1) 0).2 h)]
  exact if_pos (.inr (fun e => hid e.symm))
theorem wdIn_succ (n : Int) (S : List (Int × Int)) (v : Nat) (h : v + 1 < S.length) : wdIn n (-1) S (v + 1) = if S[v + 1].2 = 0 ∨ S[v].2 ≠ S[v + 1].2 then (S[v + 1].1, 0) else S[v + 1] := by
  rw [((wdIn_get n S (-1) (v + 1)).2 h)]
  rfl
end Go.Proofs.YtbeclkhahdcmbaaGreat
