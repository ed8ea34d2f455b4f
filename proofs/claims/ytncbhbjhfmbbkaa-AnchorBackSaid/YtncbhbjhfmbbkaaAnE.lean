/- Anchors: the contracts of Within and behind. -/
import Derived.Test.YtncbhbjhfmbbkaaAnD
import Derived.Test.YtncbhbjhfmbbkaaChg
namespace Go.Proofs.Ytncbhbjhfmbbkaa
open Go.RowKit Go.Sort
set_option linter.unusedVariables false
/-- Anchors from one place on, up to another one. -/
def awithin (x y : Int) (o : List An) : List An := o.filter fun a => decide (x ≤ a.pl ∧ a.pl ≤ y)
theorem awithin_snoc (x y : Int) (o : List An) (a : An) : awithin x y (o ++ [a]) = if x ≤ a.pl ∧ a.pl ≤ y then awithin x y o ++ [a] else awithin x y o := by
  unfold awithin
  rw [List.filter_append]
  split <;> rename_i h
  · simp [h]
  · rw [List.filter_cons_of_neg (by simpa using h)]; simp
theorem awithin_len (x y : Int) (o : List An) : (awithin x y o).length ≤ o.length := List.length_filter_le _ _
set_option maxHeartbeats 8000000 in
set_option maxRecDepth 100000 in
theorem aWithin_rows {w : World} {o : List An} (x y : Int) (p : Value) (A : Option Addr) (c : Nat) (n : Int) (mb : Option Nat) (hR : RowsAt encA 3 w A o) (ho : o.length ≤ 100000)
    (CK0 : Calls Try.prog 59 #[p] w fun e w' => e = .returned (.agg #[.int .i64 n, .slice A o.length c, .map mb]) ∧ Below w.heap.size w w') :
    Calls Try.prog 24 #[p, .int .i64 x, .int .i64 y] w fun e w' => ∃ v, e = .returned v ∧ w'.ownsRow w.heap.size 36 3 v (awithin x y o).length (kfl encA (awithin x y o)) ∧ Below w.heap.size w w' := by
  have CK := Lib.hid CK0
  have HR := Lib.hid hR
  have HO := Lib.hid ho
  have ST := an_slt
  have tf1 := fld_s1
  clear hR CK0
  obtain ⟨m, hm⟩ : ∃ m, m = o.length := ⟨_, rfl⟩
  have HM := Lib.hid hm
  rw [← hm] at CK ho
  clear hm
  go_enter Try.func24, Try.ntmps24
  go_wp2_with fail
  with_reducible refine (CK.out).mono ?_
  rintro e1 w1 ⟨rfl, b1⟩
  have B1 := Lib.hid b1
  clear b1 CK
  go_wp2_with fail
  go_loopg [7, 14] m (fun g v i wr => ∃ (k : Nat), i = .int .i64 k ∧ k ≤ m ∧ m - k ≤ g ∧ Hid (Below w.heap.size w wr) ∧ Hid (wr.ownsRow w.heap.size 36 3 v (awithin x y (o.take k)).length (kfl encA (awithin x y (o.take k)))))
  case atStart => exact ⟨0, rfl, by omega, by omega, B1, Lib.hid (World.ownsRow_nil _ _ _ _)⟩
  case round =>
    obtain ⟨k, rfl, h1, h2, hb, hown⟩ := hrel
    clear B1
    by_cases hlt : k < m
    · have hkl : k < o.length := by rw [← HM.out]; exact hlt
      obtain ⟨bA, off, rfl, hbA, hce⟩ := (HR.out.below hb.out).at1 hkl
      have f0 := hce 0 (by omega)
      have f1 := hce 1 (by omega)
      have f2 := hce 2 (by omega)
      rw [Nat.add_zero] at f0
      have htk : o.take (k + 1) = o.take k ++ [o[k]] := by rw [List.take_succ_eq_append_getElem hkl]
      have hws := awithin_snoc x y (o.take k) o[k]
      rw [← htk] at hws
      have HWS := Lib.hid hws
      have hwl := awithin_len x y (o.take k)
      rw [List.length_take] at hwl
      clear htk hws hce
      generalize o[k] = a at *
      simp [encA] at f0 f1 f2
      have i1 : (0 : Int) ≤ k := by omega
      have i2 : (k : Int) < m := by omega
      have x3 : Below wr.heap.size wr (wr.alloc (.cells #[.int .i64 a.id, .int .i64 a.pl, .int .i64 a.bi] 36)) := (Below.refl _ _).alloc (Nat.le_refl _) _
      have R3 : RawAt 36 (wr.alloc (.cells #[.int .i64 a.id, .int .i64 a.pl, .int .i64 a.bi] 36)) wr.heap.size #[.int .i64 a.id, .int .i64 a.pl, .int .i64 a.bi] := heap_alloc_new wr _
      have e0 := RawAt.cell R3 0
      have e1 := RawAt.cell R3 1
      have e2 := RawAt.cell R3 2
      simp at e0 e1 e2
      have HB3 := Lib.hid (hb.out.trans (x3.mono hb.out.size))
      have HO3 := Lib.hid (own_below hown.out x3)
      obtain ⟨A3, c3, rfl⟩ := own_form hown.out
      have hz3 : (wr.alloc (.cells #[.int .i64 a.id, .int .i64 a.pl, .int .i64 a.bi] 36)).heap.size = wr.heap.size + 1 := by simp
      generalize hW3 : wr.alloc (.cells #[.int .i64 a.id, .int .i64 a.pl, .int .i64 a.bi] 36) = W3 at HB3 HO3 hz3
      have x4 : Below W3.heap.size W3 (W3.alloc (.cells #[.int .i64 a.id, .int .i64 a.pl, .int .i64 a.bi] 36)) := (Below.refl _ _).alloc (Nat.le_refl _) _
      have R4 : RawAt 36 (W3.alloc (.cells #[.int .i64 a.id, .int .i64 a.pl, .int .i64 a.bi] 36)) W3.heap.size #[.int .i64 a.id, .int .i64 a.pl, .int .i64 a.bi] := heap_alloc_new W3 _
      have HO4 := Lib.hid (own_below HO3.out x4)
      have HS4 : Hid (RowsAt encA 3 (W3.alloc (.cells #[.int .i64 a.id, .int .i64 a.pl, .int .i64 a.bi] 36)) (some ⟨wr.heap.size + 1, 0, none⟩) [a]) := Lib.hid (by rw [← hz3]; exact rows_of_block (enc := encA) (k := 3) encA_len R4 (l := [a]) rfl)
      have HB4 := Lib.hid (HB3.out.trans (x4.mono HB3.out.size))
      have hlt4 := hown.out.lt
      have HW3 := Lib.hid hW3
      clear R3 x3 hown hb x4 R4 hW3 hz3
      have HO := HO
      by_cases g1 : x ≤ a.pl
      · have k1 : decide (x ≤ a.pl) = true := decide_eq_true g1
        by_cases g2 : a.pl ≤ y
        · have k2 : decide (a.pl ≤ y) = true := decide_eq_true g2
          have HN := HWS.out
          rw [if_pos ⟨g1, g2⟩] at HN
          have HN := Lib.hid HN
          clear g1 g2 HWS
          rw [← HW3.out] at HO4 HS4 HB4
          go_wp2_with (at_builtin; refine wpList_appK (enc := encA) ST encA_len (by omega) rfl (.tmp 28) (.tmp 30) rfl (base := w.heap.size) (v := .slice A3 (awithin x y (o.take k)).length c3) rfl HO4.out _ 1 1 [a] rfl HS4.out ⟨Nat.le_refl _, fun h => by cases h⟩ rfl (kfl_one' encA_one _) (by simp only [maxLen]; omega) (by omega) HB4.out.size ?_; intro v5 w5 hown5 hg5 hor5)
          have hb5 := Lib.hid (HB4.out.grown hg5 HB4.out.size (fun j hj => (hlt4 j hj).1))
          have hO5 : Hid (w5.ownsRow w.heap.size 36 3 v5 (awithin x y (o.take (k + 1))).length (kfl encA (awithin x y (o.take (k + 1))))) := Lib.hid (by rw [HN.out, kfl_append, List.length_append]; exact hown5)
          clear hown5 hg5 hor5 HO4 HS4 HB4 HB3 HO3
          go_wp2
          go_roundg (gk - 1)
          case measure => omega
          case rel => exact ⟨k + 1, by go_num, by omega, by omega, hb5, hO5⟩
        · have k2 : decide (a.pl ≤ y) = false := decide_eq_false g2
          have HN := HWS.out
          rw [if_neg (fun h => g2 h.2)] at HN
          have HN := Lib.hid HN
          clear g1 g2 HWS HO4 HS4 HB4
          rw [← HW3.out] at HB3 HO3
          go_wp2
          go_roundg (gk - 1)
          case measure => omega
          case rel => exact ⟨k + 1, by go_num, by omega, by omega, HB3, Lib.hid (by rw [HN.out]; exact HO3.out)⟩
      · have k1 : decide (x ≤ a.pl) = false := decide_eq_false g1
        have HN := HWS.out
        rw [if_neg (fun h => g1 h.1)] at HN
        have HN := Lib.hid HN
        clear g1 HWS HO4 HS4 HB4
        rw [← HW3.out] at HB3 HO3
        go_wp2
        go_roundg (gk - 1)
        case measure => omega
        case rel => exact ⟨k + 1, by go_num, by omega, by omega, HB3, Lib.hid (by rw [HN.out]; exact HO3.out)⟩
    · obtain rfl : m = k := by omega
      have e2 : o.take m = o := List.take_of_length_le (by rw [HM.out]; exact Nat.le_refl _)
      have ho2 := hown.out
      rw [e2] at ho2
      have HO2 := Lib.hid ho2
      have HBB := hb
      clear e2 ho2 hown hb
      go_wp2
      go_ret
      exact ⟨_, rfl, HO2.out, HBB.out⟩
theorem aWithin_any {sb : Nat} {n : Int} {o : List An} {w : World} (h : ASet w sb n o) (ho : o.length ≤ 100000) (x y : Int) : Calls Try.prog 24 #[.pointer (some ⟨sb, 0, none⟩), .int .i64 x, .int .i64 y] w fun e w' => ∃ v, e = .returned v ∧ w'.ownsRow w.heap.size 36 3 v (awithin x y o).length (kfl encA (awithin x y o)) ∧ Below w.heap.size w w' := by
  obtain ⟨v, mb, nn, f, h1, h2, h3, h4⟩ := h
  obtain ⟨A, c, rfl, hR, _, hcap⟩ := rows_of_own encA_len (by omega) h2
  exact aWithin_rows x y _ A c n (some mb) hR ho (aKept_any h1)
theorem aWithin_nil {w : World} (x y : Int) : Calls Try.prog 24 #[.pointer none, .int .i64 x, .int .i64 y] w fun e w' => ∃ v, e = .returned v ∧ w'.ownsRow w.heap.size 36 3 v 0 [] ∧ Below w.heap.size w w' :=
  aWithin_rows (o := []) x y _ none 0 0 none (fun h => absurd h (by simp)) (by simp) (aKept_nil w)
/-- Where changes end. -/
def olast (l : List Ch) : Int := match l.getLast? with | some c => c.ob | none => 0
set_option maxHeartbeats 8000000 in
set_option maxRecDepth 100000 in
theorem aBehind_any (A : Option Addr) (m c : Nat) (l : List Ch) (n : Int) (w : World) (hA : ChsAt w A l) (hl : l.length = m) (hm : m ≤ 1000000) (hn : 0 ≤ n) (r : Bool) (hr : r = true ↔ n < olast l) : Calls Try.prog 61 #[.slice A m c, .int .i64 n] w fun e w' => e = .returned (.bool r) ∧ Below w.heap.size w w' := by
  rcases Nat.eq_zero_or_pos m with h0 | h0
  · subst h0
    have hz : l = [] := List.eq_nil_of_length_eq_zero hl
    subst hz
    have hrr : r = false := by cases r; rfl; exact absurd (hr.1 rfl) (by simp [olast]; omega)
    subst hrr
    clear hr hA
    go_enter Try.func61, Try.ntmps61
    go_wp2
    go_ret
    exact ⟨rfl, Below.refl _ _⟩
  · obtain ⟨j, rfl⟩ : ∃ j, m = j + 1 := ⟨m - 1, by omega⟩
    have hjl : j < l.length := by omega
    obtain ⟨b, off, rfl, hb, c0, c1, c2, c3⟩ := hA.at1 hjl
    have hol : olast l = (cth l j).ob := by
      unfold olast
      rw [List.getLast?_eq_getElem?, hl, Nat.add_sub_cancel, List.getElem?_eq_getElem hjl]
      simp [cth, List.getD, hjl]
    rw [hol] at hr
    have HR := Lib.hid hr
    clear hr hol hA c0 c2 c3 hl
    generalize (cth l j).ob = ob at *
    have n1 : (j : Int) + 1 - 1 = j := by omega
    have n2 : IntKind.i64.wrap (j : Int) = j := IntWalk.i64_in _ (by omega)
    have n3 : IntKind.i64.wrap ((j : Int) + 1 - 1) = j := by rw [n1]; exact n2
    have i1 : (0 : Int) ≤ j := by omega
    have i2 : (j : Int) < (j : Int) + 1 := by omega
    have k1 : decide ((0 : Int) < (j : Int) + 1) = true := decide_eq_true (by omega)
    by_cases g : n < ob
    · have k2 : decide (n < ob) = true := decide_eq_true g
      have hrr : r = true := HR.out.2 g
      subst hrr
      clear HR
      go_enter Try.func61, Try.ntmps61
      go_wp2
      go_ret
      exact ⟨rfl, Below.refl _ _⟩
    · have k2 : decide (n < ob) = false := decide_eq_false g
      have hrr : r = false := by cases r; rfl; exact absurd (HR.out.1 rfl) g
      subst hrr
      clear HR
      go_enter Try.func61, Try.ntmps61
      go_wp2
      go_ret
      exact ⟨rfl, Below.refl _ _⟩
end Go.Proofs.Ytncbhbjhfmbbkaa
