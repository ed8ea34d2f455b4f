/- Inlays: the document's Within. -/
import Derived.Test.YtbmfedldnjnlcaaInN
import Derived.Test.YtbmfedldnjnlcaaInD
namespace Go.Proofs.Ytbmfedldnjnlcaa
open Go.RowKit Go.Sort
set_option linter.unusedVariables false
set_option maxHeartbeats 8000000 in
set_option maxRecDepth 100000 in
theorem rWithin13_any {w : World} {o : List In} (x y : Int) (A : Option Addr) (mm c : Nat) (n er : Int) (hR : RowsAt encI 5 w A o) (hmm : mm = o.length) (ho : o.length ≤ 100000) :
    Calls Try.prog 19 #[.agg #[.int .i64 n, .slice A mm c, .int .i64 er], .int .i64 x, .int .i64 y] w fun e w' => ∃ v, e = .returned v ∧ w'.ownsRow w.heap.size 51 5 v (iwithin x y o).length (kfl encI (iwithin x y o)) ∧ Below w.heap.size w w' := by
  subst hmm
  have HR := Lib.hid hR
  have HO := Lib.hid ho
  have ST := in_slt
  clear hR
  obtain ⟨m, hm⟩ : ∃ m, m = o.length := ⟨_, rfl⟩
  have HM := Lib.hid hm
  rw [← hm] at ho ⊢
  clear hm
  have B1 : Hid (Below w.heap.size w (w.alloc (.cells #[.int .i64 n, .slice A m c, .int .i64 er] 32))) := Lib.hid ((Below.refl _ _).alloc (Nat.le_refl _) _)
  go_enter Try.func19, Try.ntmps19
  go_wp2_with fail
  go_loopg [7, 13] m (fun g v i wr => ∃ (k : Nat), i = .int .i64 k ∧ k ≤ m ∧ m - k ≤ g ∧ Hid (Below w.heap.size w wr) ∧ Hid (wr.ownsRow w.heap.size 51 5 v (iwithin x y (o.take k)).length (kfl encI (iwithin x y (o.take k)))))
  case atStart => exact ⟨0, rfl, by omega, by omega, B1, Lib.hid (World.ownsRow_nil _ _ _ _)⟩
  case round =>
    obtain ⟨k, rfl, h1, h2, hb, hown⟩ := hrel
    clear B1
    by_cases hlt : k < m
    · have hkl : k < o.length := by rw [← HM.out]; exact hlt
      obtain ⟨bA, off, rfl, hbA, hce⟩ := (HR.out.below hb.out).at1 hkl
      have f0 := hce 0 (by omega)
      have f1 := hce 1 (by omega)
      have f2 := hce 2 (by omega)
      have f3 := hce 3 (by omega)
      have f4 := hce 4 (by omega)
      rw [Nat.add_zero] at f0
      have htk : o.take (k + 1) = o.take k ++ [o[k]] := by rw [List.take_succ_eq_append_getElem hkl]
      have hws := iwithin_snoc x y (o.take k) o[k]
      rw [← htk] at hws
      have HWS := Lib.hid hws
      have hwl := iwithin_len x y (o.take k)
      rw [List.length_take] at hwl
      clear htk hws hce
      generalize o[k] = a at *
      simp [encI] at f0 f1 f2 f3 f4
      have i1 : (0 : Int) ≤ k := by omega
      have i2 : (k : Int) < m := by omega
      have x3 : Below wr.heap.size wr (wr.alloc (.cells #[.int .i64 a.id, .int .i64 a.pl, .int .i64 a.bi, .int .i64 a.ky, .string a.tx] 51)) := (Below.refl _ _).alloc (Nat.le_refl _) _
      have R3 : RawAt 51 (wr.alloc (.cells #[.int .i64 a.id, .int .i64 a.pl, .int .i64 a.bi, .int .i64 a.ky, .string a.tx] 51)) wr.heap.size #[.int .i64 a.id, .int .i64 a.pl, .int .i64 a.bi, .int .i64 a.ky, .string a.tx] := heap_alloc_new wr _
      have e0 := RawAt.cell R3 0
      have e1 := RawAt.cell R3 1
      have e2 := RawAt.cell R3 2
      have e3 := RawAt.cell R3 3
      have e4 := RawAt.cell R3 4
      simp at e0 e1 e2 e3 e4
      have HB3 := Lib.hid (hb.out.trans (x3.mono hb.out.size))
      have HO3 := Lib.hid (own_below hown.out x3)
      obtain ⟨A3, c3, rfl⟩ := own_form hown.out
      have hz3 : (wr.alloc (.cells #[.int .i64 a.id, .int .i64 a.pl, .int .i64 a.bi, .int .i64 a.ky, .string a.tx] 51)).heap.size = wr.heap.size + 1 := by simp
      generalize hW3 : wr.alloc (.cells #[.int .i64 a.id, .int .i64 a.pl, .int .i64 a.bi, .int .i64 a.ky, .string a.tx] 51) = W3 at HB3 HO3 hz3
      have x4 : Below W3.heap.size W3 (W3.alloc (.cells #[.int .i64 a.id, .int .i64 a.pl, .int .i64 a.bi, .int .i64 a.ky, .string a.tx] 51)) := (Below.refl _ _).alloc (Nat.le_refl _) _
      have R4 : RawAt 51 (W3.alloc (.cells #[.int .i64 a.id, .int .i64 a.pl, .int .i64 a.bi, .int .i64 a.ky, .string a.tx] 51)) W3.heap.size #[.int .i64 a.id, .int .i64 a.pl, .int .i64 a.bi, .int .i64 a.ky, .string a.tx] := heap_alloc_new W3 _
      have HO4 := Lib.hid (own_below HO3.out x4)
      have HS4 : Hid (RowsAt encI 5 (W3.alloc (.cells #[.int .i64 a.id, .int .i64 a.pl, .int .i64 a.bi, .int .i64 a.ky, .string a.tx] 51)) (some ⟨wr.heap.size + 1, 0, none⟩) [a]) := Lib.hid (by rw [← hz3]; exact rows_of_block (enc := encI) (k := 5) encI_len R4 (l := [a]) rfl)
      have HB4 := Lib.hid (HB3.out.trans (x4.mono HB3.out.size))
      have hlt4 := hown.out.lt
      have HW3 := Lib.hid hW3
      clear R3 x3 hown hb x4 R4 hW3 hz3
      have HO := HO
      by_cases g1 : x ≤ a.pl
      · have k1 : decide (x ≤ a.pl) = true := decide_eq_true g1
        by_cases g2 : a.pl ≤ y
        · have k2 : decide (a.pl ≤ y) = true := decide_eq_true g2
          have HN := HWS.out
          rw [if_pos ⟨g1, g2⟩] at HN
          have HN := Lib.hid HN
          clear g1 g2 HWS
          rw [← HW3.out] at HO4 HS4 HB4
          go_wp2_with (at_builtin; refine wpList_appK (enc := encI) ST encI_len (by omega) rfl (.tmp 27) (.tmp 29) rfl (base := w.heap.size) (v := .slice A3 (iwithin x y (o.take k)).length c3) rfl HO4.out _ 1 1 [a] rfl HS4.out ⟨Nat.le_refl _, fun h => by cases h⟩ rfl (kfl_one' encI_one _) (by simp only [maxLen]; omega) (by omega) HB4.out.size ?_; intro v5 w5 hown5 hg5 hor5)
          have hb5 := Lib.hid (HB4.out.grown hg5 HB4.out.size (fun j hj => (hlt4 j hj).1))
          have hO5 : Hid (w5.ownsRow w.heap.size 51 5 v5 (iwithin x y (o.take (k + 1))).length (kfl encI (iwithin x y (o.take (k + 1))))) := Lib.hid (by rw [HN.out, kfl_append, List.length_append]; exact hown5)
          clear hown5 hg5 hor5 HO4 HS4 HB4 HB3 HO3
          go_wp2
          go_roundg (gk - 1)
          case measure => omega
          case rel => exact ⟨k + 1, by go_num, by omega, by omega, hb5, hO5⟩
        · have k2 : decide (a.pl ≤ y) = false := decide_eq_false g2
          have HN := HWS.out
          rw [if_neg (fun h => g2 h.2)] at HN
          have HN := Lib.hid HN
          clear g1 g2 HWS HO4 HS4 HB4
          rw [← HW3.out] at HB3 HO3
          go_wp2
          go_roundg (gk - 1)
          case measure => omega
          case rel => exact ⟨k + 1, by go_num, by omega, by omega, HB3, Lib.hid (by rw [HN.out]; exact HO3.out)⟩
      · have k1 : decide (x ≤ a.pl) = false := decide_eq_false g1
        have HN := HWS.out
        rw [if_neg (fun h => g1 h.1)] at HN
        have HN := Lib.hid HN
        clear g1 HWS HO4 HS4 HB4
        rw [← HW3.out] at HB3 HO3
        go_wp2
        go_roundg (gk - 1)
        case measure => omega
        case rel => exact ⟨k + 1, by go_num, by omega, by omega, HB3, Lib.hid (by rw [HN.out]; exact HO3.out)⟩
    · obtain rfl : m = k := by omega
      have e2 : o.take m = o := List.take_of_length_le (by rw [HM.out]; exact Nat.le_refl _)
      have ho2 := hown.out
      rw [e2] at ho2
      have HO2 := Lib.hid ho2
      have HBB := hb
      clear e2 ho2 hown hb
      go_wp2
      go_ret
      exact ⟨_, rfl, HO2.out, HBB.out⟩
end Go.Proofs.Ytbmfedldnjnlcaa
