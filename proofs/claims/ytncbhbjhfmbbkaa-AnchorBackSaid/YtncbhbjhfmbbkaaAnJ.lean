/- Anchors: the document's Ordered. -/
import Derived.Test.YtncbhbjhfmbbkaaAnH
namespace Go.Proofs.Ytncbhbjhfmbbkaa
open Go.RowKit Go.Sort
set_option linter.unusedVariables false
/-- What is laid so far, where one more goes among others, and whether it has gone. -/
def insGo (x : An) : List An → List An × Bool
  | [] => ([], false)
  | y :: l => if alt x y = true then (x :: y :: l, true) else (y :: (insGo x l).1, (insGo x l).2)
theorem insGo_ins (x : An) : ∀ l : List An, ins alt x l = if (insGo x l).2 = true then (insGo x l).1 else (insGo x l).1 ++ [x]
  | [] => by simp [ins, insGo]
  | y :: l => by
    have ih := insGo_ins x l
    unfold ins insGo
    split
    · simp
    · rw [ih]
      split <;> simp_all
theorem insGo_snoc (x b : An) : ∀ l : List An, insGo x (l ++ [b]) = if (insGo x l).2 = true then ((insGo x l).1 ++ [b], true) else if alt x b = true then ((insGo x l).1 ++ [x, b], true) else ((insGo x l).1 ++ [b], false)
  | [] => by simp only [List.nil_append, insGo]; split <;> simp
  | y :: l => by
    have ih := insGo_snoc x b l
    rw [List.cons_append, insGo, insGo]
    split
    · simp
    · rw [ih]
      split
      · simp_all
      · split <;> simp_all
theorem insGo_len (x : An) : ∀ l : List An, (insGo x l).1.length ≤ l.length + 1
  | [] => by simp [insGo]
  | y :: l => by
    have := insGo_len x l
    unfold insGo
    split
    · simp
    · simp; omega
set_option maxHeartbeats 16000000 in
set_option maxRecDepth 100000 in
theorem rOrdered_any (A : Option Addr) (m c : Nat) (l : List An) (w : World) (hA : RowsAt encA 3 w A l) (hl : l.length = m) (hm : m ≤ 100000) :
    Calls Try.prog 20 #[.slice A m c] w fun e w' => ∃ v, e = .returned v ∧ w'.ownsRow w.heap.size 35 3 v m (kfl encA (ord alt l)) ∧ Below w.heap.size w w' := by
  have HR := Lib.hid hA
  have HM := Lib.hid hl
  have ST := ran_slt
  clear hA hl
  go_enter Try.func20, Try.ntmps20
  go_wp2_with fail
  go_loopg [3, 12] m (fun g v i wr => ∃ (k : Nat), i = .int .i64 k ∧ k ≤ m ∧ m - k ≤ g ∧ Hid (Below w.heap.size w wr) ∧ Hid (wr.ownsRow w.heap.size 35 3 v k (kfl encA (ord alt (l.take k)))))
  case atStart => exact ⟨0, rfl, by omega, by omega, Lib.hid (Below.refl _ _), Lib.hid (World.ownsRow_nil _ _ _ _)⟩
  case round =>
    obtain ⟨k, rfl, h1, h2, hb, hown⟩ := hrel
    obtain ⟨gO, hgO⟩ : ∃ g, g = gk := ⟨_, rfl⟩
    subst hgO
    by_cases hlt : k < m
    · have hkl : k < l.length := by rw [HM.out]; exact hlt
      obtain ⟨bA, off, rfl, hbA, hce⟩ := (HR.out.below hb.out).at1 hkl
      have f0 := hce 0 (by omega)
      have f1 := hce 1 (by omega)
      have f2 := hce 2 (by omega)
      rw [Nat.add_zero] at f0
      have htk : l.take (k + 1) = l.take k ++ [l[k]] := by rw [List.take_succ_eq_append_getElem hkl]
      have HTK := Lib.hid htk
      clear htk hce
      generalize l[k] = a at *
      simp [encA] at f0 f1 f2
      obtain ⟨o, ho⟩ : ∃ o, o = ord alt (l.take k) := ⟨_, rfl⟩
      have HO := Lib.hid ho
      rw [← ho] at hown
      have hol : o.length = k := own_len encA_len (by omega) hown.out
      have HOL := Lib.hid hol
      obtain ⟨A3, c3, rfl, hR3, _, hC3⟩ := rows_of_own encA_len (by omega) hown.out
      have HR3o := Lib.hid hR3
      have i1 : (0 : Int) ≤ k := by omega
      have i2 : (k : Int) < m := by omega
      have x3 : Below wr.heap.size wr (wr.alloc (.cells #[.int .i64 a.id, .int .i64 a.pl, .int .i64 a.bi] 35)) := (Below.refl _ _).alloc (Nat.le_refl _) _
      have R3 : RawAt 35 (wr.alloc (.cells #[.int .i64 a.id, .int .i64 a.pl, .int .i64 a.bi] 35)) wr.heap.size #[.int .i64 a.id, .int .i64 a.pl, .int .i64 a.bi] := heap_alloc_new wr _
      have HX3 := Lib.hid x3
      have HRA := Lib.hid R3
      have HB3 := Lib.hid (hb.out.trans (x3.mono hb.out.size))
      have hwB := hb.out.size
      clear ho hol hR3 hC3 x3 R3 hown hb
      go_wp2_with fail
      generalize hba : wr.heap.size = ba at *
      have HBA := Lib.hid hba
      clear hba
      go_loopg [6, 7, 18] k (fun g v pt i wr2 => ∃ (j : Nat), i = .int .i64 j ∧ j ≤ k ∧ k - j ≤ g ∧ pt = .bool (insGo a (o.take j)).2 ∧ Hid (Below ba wr wr2) ∧ Hid (Below w.heap.size w wr2) ∧ Hid (RawAt 35 wr2 ba #[.int .i64 a.id, .int .i64 a.pl, .int .i64 a.bi]) ∧ Hid (wr2.ownsRow (ba + 1) 35 3 v (insGo a (o.take j)).1.length (kfl encA (insGo a (o.take j)).1)))
      case atStart => exact ⟨0, rfl, by omega, by omega, rfl, HX3, HB3, HRA, Lib.hid (World.ownsRow_nil _ _ _ _)⟩
      case round =>
        obtain ⟨j, rfl, j1, j2, rfl, hbw, hbb, hra, hown⟩ := hrel
        clear HX3 HB3 HRA
        have hwB2 := hbb.out.size
        have hlt4 := hown.out.lt
        by_cases hlt2 : j < k
        · have hjl : j < o.length := by rw [HOL.out]; exact hlt2
          obtain ⟨bO, off2, rfl, hbO, hce2⟩ := (HR3o.out.below (by rw [HBA.out]; exact hbw.out)).at1 hjl
          have y0 := hce2 0 (by omega)
          have y1 := hce2 1 (by omega)
          have y2 := hce2 2 (by omega)
          rw [Nat.add_zero] at y0
          have hts : insGo a (o.take (j + 1)) = insGo a (o.take j ++ [o[j]]) := by rw [List.take_succ_eq_append_getElem hjl]
          rw [insGo_snoc] at hts
          have hql := insGo_len a (o.take j)
          rw [List.length_take] at hql
          clear hce2
          generalize o[j] = b at *
          simp [encA] at y0 y1 y2
          have HN := Lib.hid hts
          clear hts
          obtain ⟨A5, c5, rfl⟩ := own_form hown.out
          generalize (insGo a (o.take j)).1 = L0 at *
          generalize (insGo a (o.take j)).2 = pb at *
          generalize hq0 : L0.length = q at *
          have HQ0 := Lib.hid hq0
          clear hq0
          have i3 : (0 : Int) ≤ j := by omega
          have i4 : (j : Int) < k := by omega
          have x6 : Below wr.heap.size wr (wr.alloc (.cells #[.int .i64 b.id, .int .i64 b.pl, .int .i64 b.bi] 35)) := (Below.refl _ _).alloc (Nat.le_refl _) _
          have R6 : RawAt 35 (wr.alloc (.cells #[.int .i64 b.id, .int .i64 b.pl, .int .i64 b.bi] 35)) wr.heap.size #[.int .i64 b.id, .int .i64 b.pl, .int .i64 b.bi] := heap_alloc_new wr _
          have RA6 := RawAt.below hra.out x6 hra.out.lt
          have g0 := RawAt.cell R6 0
          have g1 := RawAt.cell R6 1
          have g2 := RawAt.cell R6 2
          have g3 := RawAt.cell RA6 0
          have g4 := RawAt.cell RA6 1
          have g5 := RawAt.cell RA6 2
          simp at g0 g1 g2 g3 g4 g5
          have HR6 := Lib.hid R6
          have HRA6 := Lib.hid RA6
          have HW6 := Lib.hid (hbw.out.trans (x6.mono (Nat.le_trans (Nat.le_of_eq HBA.out.symm) hbw.out.size)))
          have HB6 := Lib.hid (hbb.out.trans (x6.mono hbb.out.size))
          have HO6 := Lib.hid (own_below hown.out x6)
          have hz6 : (wr.alloc (.cells #[.int .i64 b.id, .int .i64 b.pl, .int .i64 b.bi] 35)).heap.size = wr.heap.size + 1 := by simp
          generalize hW6 : wr.alloc (.cells #[.int .i64 b.id, .int .i64 b.pl, .int .i64 b.bi] 35) = W6 at HR6 HRA6 HW6 HB6 HO6 hz6
          have HWE := Lib.hid hW6
          clear hbw hbb hra hown x6 R6 RA6 hW6
          cases pb with
          | true =>
            have HN2 : Hid (insGo a (o.take (j + 1)) = (L0 ++ [b], true)) := Lib.hid (by rw [HN.out, if_pos rfl])
            have x7 : Below W6.heap.size W6 (W6.alloc (.cells #[.int .i64 b.id, .int .i64 b.pl, .int .i64 b.bi] 35)) := (Below.refl _ _).alloc (Nat.le_refl _) _
            have R7 : RawAt 35 (W6.alloc (.cells #[.int .i64 b.id, .int .i64 b.pl, .int .i64 b.bi] 35)) W6.heap.size #[.int .i64 b.id, .int .i64 b.pl, .int .i64 b.bi] := heap_alloc_new W6 _
            have HS7 : Hid (RowsAt encA 3 (W6.alloc (.cells #[.int .i64 b.id, .int .i64 b.pl, .int .i64 b.bi] 35)) (some ⟨wr.heap.size + 1, 0, none⟩) [b]) := Lib.hid (by rw [← hz6]; exact rows_of_block (enc := encA) (k := 3) encA_len R7 (l := [b]) rfl)
            have HO7 := Lib.hid (own_below HO6.out x7)
            have HB7 := Lib.hid (HB6.out.trans (x7.mono HB6.out.size))
            have HW7 := Lib.hid (HW6.out.trans (x7.mono (Nat.le_trans (Nat.le_of_eq HBA.out.symm) HW6.out.size)))
            have HRA7 := Lib.hid (RawAt.below HRA6.out x7 HRA6.out.lt)
            clear x7 R7 HO6 HB6 HW6 HRA6 HR6 hz6
            rw [← HWE.out] at HS7 HO7 HB7 HW7 HRA7
            go_wp2_with (at_builtin; refine wpList_appK (enc := encA) ST encA_len (by omega) rfl (.tmp 49) (.tmp 51) rfl (base := ba + 1) (v := .slice A5 q c5) rfl HO7.out _ 1 1 [b] rfl HS7.out ⟨Nat.le_refl _, fun h => by cases h⟩ rfl (kfl_one' encA_one _) (by simp only [maxLen]; omega) (by omega) (Nat.lt_of_lt_of_le HRA7.out.lt (Nat.le_refl _)) ?_; intro v8 w8 hown8 hg8 hor8)
            have hb8 := Lib.hid (HB7.out.grown hg8 HB7.out.size (fun j hj => Nat.le_trans (show w.heap.size ≤ ba + 1 by omega) (hlt4 j hj).1))
            have hO8 : Hid (w8.ownsRow (ba + 1) 35 3 v8 (insGo a (o.take (j + 1))).1.length (kfl encA (insGo a (o.take (j + 1))).1)) := Lib.hid (by rw [HN2.out]; simp only [List.length_append, kfl_append]; rw [HQ0.out]; exact hown8)
            have hw8 := Lib.hid (HW7.out.grown hg8 (Nat.le_of_lt HRA7.out.lt) (fun j hj => Nat.le_of_succ_le (hlt4 j hj).1))
            have hra8 := Lib.hid (RawAt.below HRA7.out ((Below.refl (ba + 1) _).grown hg8 HRA7.out.lt (fun j hj => (hlt4 j hj).1)) (Nat.lt_succ_self ba))
            clear hown8 hg8 hor8 HO7 HS7 HB7 HW7 HRA7
            go_wp2
            go_roundg (gk - 1)
            case measure => omega
            case rel => exact ⟨j + 1, by go_num, by omega, by omega, by rw [HN2.out], hw8, hb8, hra8, hO8⟩
          | false =>
            by_cases q1 : a.pl < b.pl
            · have k1 : decide (a.pl < b.pl) = true := decide_eq_true q1
              have hna : alt a b = true := by unfold alt; exact decide_eq_true (.inl q1)
              clear q1
              have HN2 : Hid (insGo a (o.take (j + 1)) = (L0 ++ [a, b], true)) := Lib.hid (by rw [HN.out, if_neg (by simp), if_pos hna])
              clear hna
              have x7 : Below W6.heap.size W6 (W6.alloc (.cells #[.int .i64 a.id, .int .i64 a.pl, .int .i64 a.bi] 35)) := (Below.refl _ _).alloc (Nat.le_refl _) _
              have R7 : RawAt 35 (W6.alloc (.cells #[.int .i64 a.id, .int .i64 a.pl, .int .i64 a.bi] 35)) W6.heap.size #[.int .i64 a.id, .int .i64 a.pl, .int .i64 a.bi] := heap_alloc_new W6 _
              have HS7 : Hid (RowsAt encA 3 (W6.alloc (.cells #[.int .i64 a.id, .int .i64 a.pl, .int .i64 a.bi] 35)) (some ⟨wr.heap.size + 1, 0, none⟩) [a]) := Lib.hid (by rw [← hz6]; exact rows_of_block (enc := encA) (k := 3) encA_len R7 (l := [a]) rfl)
              have HO7 := Lib.hid (own_below HO6.out x7)
              have HB7 := Lib.hid (HB6.out.trans (x7.mono HB6.out.size))
              have HW7 := Lib.hid (HW6.out.trans (x7.mono (Nat.le_trans (Nat.le_of_eq HBA.out.symm) HW6.out.size)))
              have HRA7 := Lib.hid (RawAt.below HRA6.out x7 HRA6.out.lt)
              have HR7 := Lib.hid (RawAt.below HR6.out x7 HR6.out.lt)
              clear x7 R7 HO6 HB6 HW6 HRA6 HR6 hz6
              rw [← HWE.out] at HS7 HO7 HB7 HW7 HRA7 HR7
              have hwlt : wr.heap.size < (wr.alloc (.cells #[.int .i64 b.id, .int .i64 b.pl, .int .i64 b.bi] 35)).heap.size := by simp
              go_wp2_with (first | (at_builtin; refine wpList_appK (enc := encA) ST encA_len (by omega) rfl (.tmp 45) (.tmp 47) rfl (base := ba + 1) (v := .slice A5 q c5) rfl HO7.out _ 1 1 [a] rfl HS7.out ⟨Nat.le_refl _, fun h => by cases h⟩ rfl (kfl_one' encA_one _) (by simp only [maxLen]; omega) (by omega) (Nat.lt_of_lt_of_le HRA7.out.lt (Nat.le_refl _)) ?_; intro v8 w8 hown8 hg8 hor8; obtain ⟨A8, c8, rfl⟩ := own_form hown8; have hb8 := Lib.hid (HB7.out.grown hg8 HB7.out.size (fun j hj => Nat.le_trans (show w.heap.size ≤ ba + 1 by omega) (hlt4 j hj).1)); have hw8 := Lib.hid (HW7.out.grown hg8 (Nat.le_of_lt HRA7.out.lt) (fun j hj => Nat.le_of_succ_le (hlt4 j hj).1)); have hra8 := Lib.hid (RawAt.below HRA7.out ((Below.refl (ba + 1) _).grown hg8 HRA7.out.lt (fun j hj => (hlt4 j hj).1)) (Nat.lt_succ_self ba)); have hrb8 := (hg8.block wr.heap.size HR7.out.lt (fun hk => by have := (hlt4 _ hk.symm).2; omega)).trans HR7.out; have hrb8 : RawAt 35 w8 wr.heap.size #[.int .i64 b.id, .int .i64 b.pl, .int .i64 b.bi] := hrb8; have hlt8 := hown8.lt; have g0 := RawAt.cell hrb8 0; have g1 := RawAt.cell hrb8 1; have g2 := RawAt.cell hrb8 2; simp at g0 g1 g2; have x9 : Below w8.heap.size w8 (w8.alloc (.cells #[.int .i64 b.id, .int .i64 b.pl, .int .i64 b.bi] 35)) := (Below.refl _ _).alloc (Nat.le_refl _) _; have R9 : RawAt 35 (w8.alloc (.cells #[.int .i64 b.id, .int .i64 b.pl, .int .i64 b.bi] 35)) w8.heap.size #[.int .i64 b.id, .int .i64 b.pl, .int .i64 b.bi] := heap_alloc_new w8 _; have HS9 := Lib.hid (rows_of_block (enc := encA) (k := 3) encA_len R9 (l := [b]) rfl); have HO9 := Lib.hid (own_below hown8 x9); have HB9 := Lib.hid (hb8.out.trans (x9.mono hb8.out.size)); have HW9 := Lib.hid (hw8.out.trans (x9.mono (Nat.le_trans (Nat.le_of_lt hra8.out.lt) (Nat.le_refl _)))); have HRA9 := Lib.hid (RawAt.below hra8.out x9 hra8.out.lt); clear hown8 hg8 hor8 HO7 HS7 HB7 HW7 HRA7 HR7 hb8 hw8 hra8 hrb8 x9 R9) | (at_builtin; refine wpList_appK (enc := encA) ST encA_len (by omega) rfl (.tmp 49) (.tmp 51) rfl (base := ba + 1) (v := .slice A8 (q + 1) c8) rfl HO9.out _ 1 1 [b] rfl HS9.out ⟨Nat.le_refl _, fun h => by cases h⟩ rfl (kfl_one' encA_one _) (by simp only [maxLen]; omega) (by omega) (Nat.lt_of_lt_of_le HRA9.out.lt (Nat.le_refl _)) ?_; intro v10 w10 hown10 hg10 hor10))
              have hb10 := Lib.hid (HB9.out.grown hg10 HB9.out.size (fun j hj => Nat.le_trans (show w.heap.size ≤ ba + 1 by omega) (hlt8 j hj).1))
              have hw10 := Lib.hid (HW9.out.grown hg10 (Nat.le_of_lt HRA9.out.lt) (fun j hj => Nat.le_of_succ_le (hlt8 j hj).1))
              have hra10 := Lib.hid (RawAt.below HRA9.out ((Below.refl (ba + 1) _).grown hg10 HRA9.out.lt (fun j hj => (hlt8 j hj).1)) (Nat.lt_succ_self ba))
              have hO10 : Hid (w10.ownsRow (ba + 1) 35 3 v10 (insGo a (o.take (j + 1))).1.length (kfl encA (insGo a (o.take (j + 1))).1)) := Lib.hid (by rw [HN2.out, show L0 ++ [a, b] = L0 ++ [a] ++ [b] by simp]; simp only [List.length_append, kfl_append]; rw [HQ0.out]; exact hown10)
              clear hown10 hg10 hor10 HO9 HS9 HB9 HW9 HRA9
              go_wp2
              go_roundg (gk - 1)
              case measure => omega
              case rel => exact ⟨j + 1, by go_num, by omega, by omega, by rw [HN2.out], hw10, hb10, hra10, hO10⟩
            · have k1 : decide (a.pl < b.pl) = false := decide_eq_false q1
              by_cases q2 : b.pl = a.pl
              · have k2 : decide (b.pl = a.pl) = true := decide_eq_true q2
                have k2' : (b.pl == a.pl) = true := by simp [q2]
                by_cases q3 : a.id < b.id
                · have k3 : decide (a.id < b.id) = true := decide_eq_true q3
                  have hna : alt a b = true := by unfold alt; exact decide_eq_true (.inr ⟨q2.symm, q3⟩)
                  clear q1 q2 q3
                  have HN2 : Hid (insGo a (o.take (j + 1)) = (L0 ++ [a, b], true)) := Lib.hid (by rw [HN.out, if_neg (by simp), if_pos hna])
                  clear hna
                  have x7 : Below W6.heap.size W6 (W6.alloc (.cells #[.int .i64 a.id, .int .i64 a.pl, .int .i64 a.bi] 35)) := (Below.refl _ _).alloc (Nat.le_refl _) _
                  have R7 : RawAt 35 (W6.alloc (.cells #[.int .i64 a.id, .int .i64 a.pl, .int .i64 a.bi] 35)) W6.heap.size #[.int .i64 a.id, .int .i64 a.pl, .int .i64 a.bi] := heap_alloc_new W6 _
                  have HS7 : Hid (RowsAt encA 3 (W6.alloc (.cells #[.int .i64 a.id, .int .i64 a.pl, .int .i64 a.bi] 35)) (some ⟨wr.heap.size + 1, 0, none⟩) [a]) := Lib.hid (by rw [← hz6]; exact rows_of_block (enc := encA) (k := 3) encA_len R7 (l := [a]) rfl)
                  have HO7 := Lib.hid (own_below HO6.out x7)
                  have HB7 := Lib.hid (HB6.out.trans (x7.mono HB6.out.size))
                  have HW7 := Lib.hid (HW6.out.trans (x7.mono (Nat.le_trans (Nat.le_of_eq HBA.out.symm) HW6.out.size)))
                  have HRA7 := Lib.hid (RawAt.below HRA6.out x7 HRA6.out.lt)
                  have HR7 := Lib.hid (RawAt.below HR6.out x7 HR6.out.lt)
                  clear x7 R7 HO6 HB6 HW6 HRA6 HR6 hz6
                  rw [← HWE.out] at HS7 HO7 HB7 HW7 HRA7 HR7
                  have hwlt : wr.heap.size < (wr.alloc (.cells #[.int .i64 b.id, .int .i64 b.pl, .int .i64 b.bi] 35)).heap.size := by simp
                  go_wp2_with (first | (at_builtin; refine wpList_appK (enc := encA) ST encA_len (by omega) rfl (.tmp 45) (.tmp 47) rfl (base := ba + 1) (v := .slice A5 q c5) rfl HO7.out _ 1 1 [a] rfl HS7.out ⟨Nat.le_refl _, fun h => by cases h⟩ rfl (kfl_one' encA_one _) (by simp only [maxLen]; omega) (by omega) (Nat.lt_of_lt_of_le HRA7.out.lt (Nat.le_refl _)) ?_; intro v8 w8 hown8 hg8 hor8; obtain ⟨A8, c8, rfl⟩ := own_form hown8; have hb8 := Lib.hid (HB7.out.grown hg8 HB7.out.size (fun j hj => Nat.le_trans (show w.heap.size ≤ ba + 1 by omega) (hlt4 j hj).1)); have hw8 := Lib.hid (HW7.out.grown hg8 (Nat.le_of_lt HRA7.out.lt) (fun j hj => Nat.le_of_succ_le (hlt4 j hj).1)); have hra8 := Lib.hid (RawAt.below HRA7.out ((Below.refl (ba + 1) _).grown hg8 HRA7.out.lt (fun j hj => (hlt4 j hj).1)) (Nat.lt_succ_self ba)); have hrb8 := (hg8.block wr.heap.size HR7.out.lt (fun hk => by have := (hlt4 _ hk.symm).2; omega)).trans HR7.out; have hrb8 : RawAt 35 w8 wr.heap.size #[.int .i64 b.id, .int .i64 b.pl, .int .i64 b.bi] := hrb8; have hlt8 := hown8.lt; have g0 := RawAt.cell hrb8 0; have g1 := RawAt.cell hrb8 1; have g2 := RawAt.cell hrb8 2; simp at g0 g1 g2; have x9 : Below w8.heap.size w8 (w8.alloc (.cells #[.int .i64 b.id, .int .i64 b.pl, .int .i64 b.bi] 35)) := (Below.refl _ _).alloc (Nat.le_refl _) _; have R9 : RawAt 35 (w8.alloc (.cells #[.int .i64 b.id, .int .i64 b.pl, .int .i64 b.bi] 35)) w8.heap.size #[.int .i64 b.id, .int .i64 b.pl, .int .i64 b.bi] := heap_alloc_new w8 _; have HS9 := Lib.hid (rows_of_block (enc := encA) (k := 3) encA_len R9 (l := [b]) rfl); have HO9 := Lib.hid (own_below hown8 x9); have HB9 := Lib.hid (hb8.out.trans (x9.mono hb8.out.size)); have HW9 := Lib.hid (hw8.out.trans (x9.mono (Nat.le_trans (Nat.le_of_lt hra8.out.lt) (Nat.le_refl _)))); have HRA9 := Lib.hid (RawAt.below hra8.out x9 hra8.out.lt); clear hown8 hg8 hor8 HO7 HS7 HB7 HW7 HRA7 HR7 hb8 hw8 hra8 hrb8 x9 R9) | (at_builtin; refine wpList_appK (enc := encA) ST encA_len (by omega) rfl (.tmp 49) (.tmp 51) rfl (base := ba + 1) (v := .slice A8 (q + 1) c8) rfl HO9.out _ 1 1 [b] rfl HS9.out ⟨Nat.le_refl _, fun h => by cases h⟩ rfl (kfl_one' encA_one _) (by simp only [maxLen]; omega) (by omega) (Nat.lt_of_lt_of_le HRA9.out.lt (Nat.le_refl _)) ?_; intro v10 w10 hown10 hg10 hor10))
                  have hb10 := Lib.hid (HB9.out.grown hg10 HB9.out.size (fun j hj => Nat.le_trans (show w.heap.size ≤ ba + 1 by omega) (hlt8 j hj).1))
                  have hw10 := Lib.hid (HW9.out.grown hg10 (Nat.le_of_lt HRA9.out.lt) (fun j hj => Nat.le_of_succ_le (hlt8 j hj).1))
                  have hra10 := Lib.hid (RawAt.below HRA9.out ((Below.refl (ba + 1) _).grown hg10 HRA9.out.lt (fun j hj => (hlt8 j hj).1)) (Nat.lt_succ_self ba))
                  have hO10 : Hid (w10.ownsRow (ba + 1) 35 3 v10 (insGo a (o.take (j + 1))).1.length (kfl encA (insGo a (o.take (j + 1))).1)) := Lib.hid (by rw [HN2.out, show L0 ++ [a, b] = L0 ++ [a] ++ [b] by simp]; simp only [List.length_append, kfl_append]; rw [HQ0.out]; exact hown10)
                  clear hown10 hg10 hor10 HO9 HS9 HB9 HW9 HRA9
                  go_wp2
                  go_roundg (gk - 1)
                  case measure => omega
                  case rel => exact ⟨j + 1, by go_num, by omega, by omega, by rw [HN2.out], hw10, hb10, hra10, hO10⟩
                · have k3 : decide (a.id < b.id) = false := decide_eq_false q3
                  have hna : alt a b = false := by unfold alt; exact decide_eq_false (by omega)
                  clear q1 q2 q3
                  have HN2 : Hid (insGo a (o.take (j + 1)) = (L0 ++ [b], false)) := Lib.hid (by rw [HN.out, if_neg (by simp), if_neg (by rw [hna]; simp)])
                  clear hna
                  have x7 : Below W6.heap.size W6 (W6.alloc (.cells #[.int .i64 b.id, .int .i64 b.pl, .int .i64 b.bi] 35)) := (Below.refl _ _).alloc (Nat.le_refl _) _
                  have R7 : RawAt 35 (W6.alloc (.cells #[.int .i64 b.id, .int .i64 b.pl, .int .i64 b.bi] 35)) W6.heap.size #[.int .i64 b.id, .int .i64 b.pl, .int .i64 b.bi] := heap_alloc_new W6 _
                  have HS7 : Hid (RowsAt encA 3 (W6.alloc (.cells #[.int .i64 b.id, .int .i64 b.pl, .int .i64 b.bi] 35)) (some ⟨wr.heap.size + 1, 0, none⟩) [b]) := Lib.hid (by rw [← hz6]; exact rows_of_block (enc := encA) (k := 3) encA_len R7 (l := [b]) rfl)
                  have HO7 := Lib.hid (own_below HO6.out x7)
                  have HB7 := Lib.hid (HB6.out.trans (x7.mono HB6.out.size))
                  have HW7 := Lib.hid (HW6.out.trans (x7.mono (Nat.le_trans (Nat.le_of_eq HBA.out.symm) HW6.out.size)))
                  have HRA7 := Lib.hid (RawAt.below HRA6.out x7 HRA6.out.lt)
                  clear x7 R7 HO6 HB6 HW6 HRA6 HR6 hz6
                  rw [← HWE.out] at HS7 HO7 HB7 HW7 HRA7
                  go_wp2_with (at_builtin; refine wpList_appK (enc := encA) ST encA_len (by omega) rfl (.tmp 49) (.tmp 51) rfl (base := ba + 1) (v := .slice A5 q c5) rfl HO7.out _ 1 1 [b] rfl HS7.out ⟨Nat.le_refl _, fun h => by cases h⟩ rfl (kfl_one' encA_one _) (by simp only [maxLen]; omega) (by omega) (Nat.lt_of_lt_of_le HRA7.out.lt (Nat.le_refl _)) ?_; intro v8 w8 hown8 hg8 hor8)
                  have hb8 := Lib.hid (HB7.out.grown hg8 HB7.out.size (fun j hj => Nat.le_trans (show w.heap.size ≤ ba + 1 by omega) (hlt4 j hj).1))
                  have hO8 : Hid (w8.ownsRow (ba + 1) 35 3 v8 (insGo a (o.take (j + 1))).1.length (kfl encA (insGo a (o.take (j + 1))).1)) := Lib.hid (by rw [HN2.out]; simp only [List.length_append, kfl_append]; rw [HQ0.out]; exact hown8)
                  have hw8 := Lib.hid (HW7.out.grown hg8 (Nat.le_of_lt HRA7.out.lt) (fun j hj => Nat.le_of_succ_le (hlt4 j hj).1))
                  have hra8 := Lib.hid (RawAt.below HRA7.out ((Below.refl (ba + 1) _).grown hg8 HRA7.out.lt (fun j hj => (hlt4 j hj).1)) (Nat.lt_succ_self ba))
                  clear hown8 hg8 hor8 HO7 HS7 HB7 HW7 HRA7
                  go_wp2
                  go_roundg (gk - 1)
                  case measure => omega
                  case rel => exact ⟨j + 1, by go_num, by omega, by omega, by rw [HN2.out], hw8, hb8, hra8, hO8⟩
              · have k2 : decide (b.pl = a.pl) = false := decide_eq_false q2
                have k2' : (b.pl == a.pl) = false := by simp [q2]
                have hna : alt a b = false := by unfold alt; exact decide_eq_false (by omega)
                clear q1 q2
                have HN2 : Hid (insGo a (o.take (j + 1)) = (L0 ++ [b], false)) := Lib.hid (by rw [HN.out, if_neg (by simp), if_neg (by rw [hna]; simp)])
                clear hna
                have x7 : Below W6.heap.size W6 (W6.alloc (.cells #[.int .i64 b.id, .int .i64 b.pl, .int .i64 b.bi] 35)) := (Below.refl _ _).alloc (Nat.le_refl _) _
                have R7 : RawAt 35 (W6.alloc (.cells #[.int .i64 b.id, .int .i64 b.pl, .int .i64 b.bi] 35)) W6.heap.size #[.int .i64 b.id, .int .i64 b.pl, .int .i64 b.bi] := heap_alloc_new W6 _
                have HS7 : Hid (RowsAt encA 3 (W6.alloc (.cells #[.int .i64 b.id, .int .i64 b.pl, .int .i64 b.bi] 35)) (some ⟨wr.heap.size + 1, 0, none⟩) [b]) := Lib.hid (by rw [← hz6]; exact rows_of_block (enc := encA) (k := 3) encA_len R7 (l := [b]) rfl)
                have HO7 := Lib.hid (own_below HO6.out x7)
                have HB7 := Lib.hid (HB6.out.trans (x7.mono HB6.out.size))
                have HW7 := Lib.hid (HW6.out.trans (x7.mono (Nat.le_trans (Nat.le_of_eq HBA.out.symm) HW6.out.size)))
                have HRA7 := Lib.hid (RawAt.below HRA6.out x7 HRA6.out.lt)
                clear x7 R7 HO6 HB6 HW6 HRA6 HR6 hz6
                rw [← HWE.out] at HS7 HO7 HB7 HW7 HRA7
                go_wp2_with (at_builtin; refine wpList_appK (enc := encA) ST encA_len (by omega) rfl (.tmp 49) (.tmp 51) rfl (base := ba + 1) (v := .slice A5 q c5) rfl HO7.out _ 1 1 [b] rfl HS7.out ⟨Nat.le_refl _, fun h => by cases h⟩ rfl (kfl_one' encA_one _) (by simp only [maxLen]; omega) (by omega) (Nat.lt_of_lt_of_le HRA7.out.lt (Nat.le_refl _)) ?_; intro v8 w8 hown8 hg8 hor8)
                have hb8 := Lib.hid (HB7.out.grown hg8 HB7.out.size (fun j hj => Nat.le_trans (show w.heap.size ≤ ba + 1 by omega) (hlt4 j hj).1))
                have hO8 : Hid (w8.ownsRow (ba + 1) 35 3 v8 (insGo a (o.take (j + 1))).1.length (kfl encA (insGo a (o.take (j + 1))).1)) := Lib.hid (by rw [HN2.out]; simp only [List.length_append, kfl_append]; rw [HQ0.out]; exact hown8)
                have hw8 := Lib.hid (HW7.out.grown hg8 (Nat.le_of_lt HRA7.out.lt) (fun j hj => Nat.le_of_succ_le (hlt4 j hj).1))
                have hra8 := Lib.hid (RawAt.below HRA7.out ((Below.refl (ba + 1) _).grown hg8 HRA7.out.lt (fun j hj => (hlt4 j hj).1)) (Nat.lt_succ_self ba))
                clear hown8 hg8 hor8 HO7 HS7 HB7 HW7 HRA7
                go_wp2
                go_roundg (gk - 1)
                case measure => omega
                case rel => exact ⟨j + 1, by go_num, by omega, by omega, by rw [HN2.out], hw8, hb8, hra8, hO8⟩
        · obtain rfl : k = j := by omega
          have e3 : o.take k = o := List.take_of_length_le (by rw [HOL.out]; exact Nat.le_refl _)
          rw [e3] at hown ⊢
          have hins := insGo_ins a o
          have hord : ord alt (l.take (k + 1)) = ins alt a o := by rw [HTK.out, ord_snoc, ← HO.out]
          have hlen : (ins alt a o).length = k + 1 := by rw [(ins_perm alt a o).length_eq, List.length_cons, HOL.out]
          rw [hins] at hord hlen
          have HORD := Lib.hid hord
          have HLEN := Lib.hid hlen
          obtain ⟨A5, c5, rfl⟩ := own_form hown.out
          clear hins hord hlen e3
          generalize (insGo a o).1 = L0 at *
          generalize (insGo a o).2 = pb at *
          cases pb with
          | true =>
            have hl1 : L0.length = k + 1 := by have := HLEN.out; simpa using this
            rw [hl1] at hown ⊢
            clear hl1
            go_wp2
            go_roundg (gO - 1)
            case measure => omega
            case rel => exact ⟨k + 1, by go_num, by omega, by omega, hbb, Lib.hid (by rw [HORD.out]; simpa using own_base hown.out (show w.heap.size ≤ ba + 1 by omega))⟩
          | false =>
            have hl1 : L0.length = k := by have := HLEN.out; simp at this; omega
            rw [hl1] at hown hlt4 ⊢
            have x7 : Below wr.heap.size wr (wr.alloc (.cells #[.int .i64 a.id, .int .i64 a.pl, .int .i64 a.bi] 35)) := (Below.refl _ _).alloc (Nat.le_refl _) _
            have R7 : RawAt 35 (wr.alloc (.cells #[.int .i64 a.id, .int .i64 a.pl, .int .i64 a.bi] 35)) wr.heap.size #[.int .i64 a.id, .int .i64 a.pl, .int .i64 a.bi] := heap_alloc_new wr _
            have g3 := RawAt.cell hra.out 0
            have g4 := RawAt.cell hra.out 1
            have g5 := RawAt.cell hra.out 2
            simp at g3 g4 g5
            have HS7 := Lib.hid (rows_of_block (enc := encA) (k := 3) encA_len R7 (l := [a]) rfl)
            have HO7 := Lib.hid (own_base (own_below hown.out x7) (show w.heap.size ≤ ba + 1 by omega))
            have HB7 := Lib.hid (hbb.out.trans (x7.mono hbb.out.size))
            clear x7 R7 hown hl1 hbb
            go_wp2_with (at_builtin; refine wpList_appK (enc := encA) ST encA_len (by omega) rfl (.tmp 56) (.tmp 58) rfl (base := w.heap.size) (v := .slice A5 k c5) rfl HO7.out _ 1 1 [a] rfl HS7.out ⟨Nat.le_refl _, fun h => by cases h⟩ rfl (kfl_one' encA_one _) (by simp only [maxLen]; omega) (by omega) HB7.out.size ?_; intro v8 w8 hown8 hg8 hor8)
            have hb8 := Lib.hid (HB7.out.grown hg8 HB7.out.size (fun j hj => Nat.le_trans (show w.heap.size ≤ ba + 1 by omega) (hlt4 j hj).1))
            have hO8 : Hid (w8.ownsRow w.heap.size 35 3 v8 (k + 1) (kfl encA (ord alt (l.take (k + 1))))) := Lib.hid (by rw [HORD.out]; simp only [Bool.false_eq_true, if_false, kfl_append]; exact hown8)
            clear hown8 hg8 hor8 HO7 HS7 HB7
            go_wp2
            go_roundg (gO - 1)
            case measure => omega
            case rel => exact ⟨k + 1, by go_num, by omega, by omega, hb8, hO8⟩
    · obtain rfl : m = k := by omega
      have e2 : l.take m = l := List.take_of_length_le (by rw [HM.out]; exact Nat.le_refl _)
      have ho2 := hown.out
      rw [e2] at ho2
      have HO2 := Lib.hid ho2
      have HBB := hb
      clear e2 ho2 hown hb
      go_wp2
      go_ret
      exact ⟨_, rfl, HO2.out, HBB.out⟩
end Go.Proofs.Ytncbhbjhfmbbkaa
