/- Inlays: the contracts of kept, Len, All, Within. -/
import Derived.Test.YtmijlijgcaaiiaaInC
namespace Go.Proofs.Ytmijlijgcaaiiaa
open Go.RowKit Go.Sort
set_option linter.unusedVariables false
theorem ifld0 (n : Int) (A : Option Addr) (m c : Nat) (w : World) : (Instr.field 91 (.agg #[.int .i64 n, .slice A m c]) 0).run Try.prog w = .ok (.int .i64 n) w := by kernel_rfl
theorem ifld1 (n : Int) (A : Option Addr) (m c : Nat) (w : World) : (Instr.field 91 (.agg #[.int .i64 n, .slice A m c]) 1).run Try.prog w = .ok (.slice A m c) w := by kernel_rfl
set_option maxHeartbeats 4000000 in
set_option maxRecDepth 100000 in
theorem iKept_nil (w : World) : Calls Try.prog 60 #[.pointer none] w fun e w' => e = .returned (.agg #[.int .i64 0, .slice none 0 0]) ∧ Below w.heap.size w w' := by
  have x1 : Below w.heap.size w (w.alloc (.cells #[.int .i64 0, .slice none 0 0] 91)) := (Below.refl _ _).alloc (Nat.le_refl _) _
  have R1 : RawAt 91 (w.alloc (.cells #[.int .i64 0, .slice none 0 0] 91)) w.heap.size #[.int .i64 0, .slice none 0 0] := heap_alloc_new w _
  have e0 := RawAt.cell R1 0
  have e1 := RawAt.cell R1 1
  have f0 := RawAt.free R1 0
  have f1 := RawAt.free R1 1
  simp at e0 e1
  clear R1
  go_enter Try.func60, Try.ntmps60
  go_wp2
  refine bodyPost_ret (v := .agg #[.int .i64 0, .slice none 0 0]) (by simp [results, Try.results60, go_sem]) rfl ⟨rfl, x1⟩
set_option maxHeartbeats 4000000 in
set_option maxRecDepth 100000 in
theorem iKept_any {sb : Nat} {n : Int} {o : List In} {w : World} {A : Option Addr} {c : Nat} (h : RawAt 91 w sb #[.int .i64 n, .slice A o.length c]) : Calls Try.prog 60 #[.pointer (some ⟨sb, 0, none⟩)] w fun e w' => e = .returned (.agg #[.int .i64 n, .slice A o.length c]) ∧ Below w.heap.size w w' := by
  generalize o.length = k at *
  have x1 : Below w.heap.size w (w.alloc (.cells #[.int .i64 0, .slice none 0 0] 91)) := (Below.refl _ _).alloc (Nat.le_refl _) _
  have R1 : RawAt 91 (w.alloc (.cells #[.int .i64 0, .slice none 0 0] 91)) w.heap.size #[.int .i64 0, .slice none 0 0] := heap_alloc_new w _
  have e0 := RawAt.cell R1 0
  have e1 := RawAt.cell R1 1
  have f0 := RawAt.free R1 0
  have f1 := RawAt.free R1 1
  have h1 := h.below x1 h.lt
  have c0 := RawAt.cell h1 0
  have c1 := RawAt.cell h1 1
  simp at e0 e1 c0 c1
  have x2 : Below w.heap.size w (w.alloc (.cells #[.int .i64 n, .slice A k c] 91)) := (Below.refl _ _).alloc (Nat.le_refl _) _
  clear R1 h1
  go_enter Try.func60, Try.ntmps60
  go_wp2
  refine bodyPost_ret (v := .agg #[.int .i64 n, .slice A k c]) (by simp [results, Try.results60, go_sem]) rfl ⟨rfl, ?_⟩
  exact x2
/-- What All answers: the anchors, in memory of one's own. -/
def IOwn (w : World) (v : Value) (o : List In) : Prop := ∃ B, w.ownsRow B 46 5 v o.length (kfl encI o)
set_option maxHeartbeats 4000000 in
set_option maxRecDepth 100000 in
theorem iAll_nil (w : World) : Calls Try.prog 22 #[.pointer none] w fun e w' => ∃ v, e = .returned v ∧ w'.ownsRow w.heap.size 46 5 v 0 [] ∧ Below w.heap.size w w' := by
  have CK := Lib.hid (iKept_nil w)
  have CC := Lib.hid fun W => iClone_any none 0 0 [] W (fun h => absurd h (by simp)) ⟨Nat.le_refl _, fun _ => rfl⟩ rfl (by omega)
  go_enter Try.func22, Try.ntmps22
  have tf0 := ifld0
  have tf1 := ifld1
  go_wp2_with fail
  with_reducible refine (CK.out).mono ?_
  rintro e1 w1 ⟨rfl, b1⟩
  go_wp2_with fail
  with_reducible refine (CC.out _).mono ?_
  rintro e2 w2 ⟨v2, rfl, o2, b2, _⟩
  have HO := Lib.hid (own_base o2 b1.size)
  have q := b1.trans (b2.mono b1.size)
  clear o2
  go_wp2
  go_ret
  exact ⟨v2, rfl, HO.out, q⟩
set_option maxHeartbeats 4000000 in
set_option maxRecDepth 100000 in
theorem iAll_any {sb : Nat} {n : Int} {o : List In} {w : World} (h : ISet w sb n o) (ho : o.length ≤ 100000) : Calls Try.prog 22 #[.pointer (some ⟨sb, 0, none⟩)] w fun e w' => ∃ v, e = .returned v ∧ w'.ownsRow w.heap.size 46 5 v o.length (kfl encI o) ∧ Below w.heap.size w w' := by
  obtain ⟨v, h1, h2⟩ := h
  obtain ⟨A, c, rfl, hR, _, hcap⟩ := rows_of_own encI_len (by omega) h2
  have CK := Lib.hid (iKept_any h1)
  have CC := Lib.hid fun (W : World) (hW : Below w.heap.size w W) => iClone_any A o.length c o W (hR.below hW) hcap rfl ho
  clear h1 h2 hR hcap
  go_enter Try.func22, Try.ntmps22
  have tf0 := ifld0
  have tf1 := ifld1
  go_wp2_with fail
  with_reducible refine (CK.out).mono ?_
  rintro e1 w1 ⟨rfl, b1⟩
  go_wp2_with fail
  with_reducible refine (CC.out _ b1).mono ?_
  rintro e2 w2 ⟨v2, rfl, o2, b2, _⟩
  have HO := Lib.hid (own_base o2 b1.size)
  have q := b1.trans (b2.mono b1.size)
  clear o2
  go_wp2
  go_ret
  exact ⟨v2, rfl, HO.out, q⟩
/-- Anchors from one place on, up to another one. -/
def iwithin (x y : Int) (o : List In) : List In := o.filter fun a => decide (x ≤ a.pl ∧ a.pl ≤ y)
theorem iwithin_snoc (x y : Int) (o : List In) (a : In) : iwithin x y (o ++ [a]) = if x ≤ a.pl ∧ a.pl ≤ y then iwithin x y o ++ [a] else iwithin x y o := by
  unfold iwithin
  rw [List.filter_append]
  split <;> rename_i h
  · simp [h]
  · rw [List.filter_cons_of_neg (by simpa using h)]; simp
theorem iwithin_len (x y : Int) (o : List In) : (iwithin x y o).length ≤ o.length := List.length_filter_le _ _
set_option maxHeartbeats 8000000 in
set_option maxRecDepth 100000 in
theorem iWithin_rows {w : World} {o : List In} (x y : Int) (p : Value) (A : Option Addr) (c : Nat) (n : Int) (hR : RowsAt encI 5 w A o) (ho : o.length ≤ 100000)
    (CK0 : Calls Try.prog 60 #[p] w fun e w' => e = .returned (.agg #[.int .i64 n, .slice A o.length c]) ∧ Below w.heap.size w w') :
    Calls Try.prog 40 #[p, .int .i64 x, .int .i64 y] w fun e w' => ∃ v, e = .returned v ∧ w'.ownsRow w.heap.size 46 5 v (iwithin x y o).length (kfl encI (iwithin x y o)) ∧ Below w.heap.size w w' := by
  have CK := Lib.hid CK0
  have HR := Lib.hid hR
  have HO := Lib.hid ho
  have ST := in_slt
  have tf1 := ifld1
  clear hR CK0
  obtain ⟨m, hm⟩ : ∃ m, m = o.length := ⟨_, rfl⟩
  have HM := Lib.hid hm
  rw [← hm] at CK ho
  clear hm
  go_enter Try.func40, Try.ntmps40
  go_wp2_with fail
  with_reducible refine (CK.out).mono ?_
  rintro e1 w1 ⟨rfl, b1⟩
  have B1 := Lib.hid b1
  clear b1 CK
  go_wp2_with fail
  go_loopg [7, 14] m (fun g v i wr => ∃ (k : Nat), i = .int .i64 k ∧ k ≤ m ∧ m - k ≤ g ∧ Hid (Below w.heap.size w wr) ∧ Hid (wr.ownsRow w.heap.size 46 5 v (iwithin x y (o.take k)).length (kfl encI (iwithin x y (o.take k)))))
  case atStart => exact ⟨0, rfl, by omega, by omega, B1, Lib.hid (World.ownsRow_nil _ _ _ _)⟩
  case round =>
    obtain ⟨k, rfl, h1, h2, hb, hown⟩ := hrel
    clear B1
    by_cases hlt : k < m
    · have hkl : k < o.length := by rw [← HM.out]; exact hlt
      obtain ⟨bA, off, rfl, hbA, hce⟩ := (HR.out.below hb.out).at1 hkl
      have f0 := hce 0 (by omega)
      have f1 := hce 1 (by omega)
      have f2 := hce 2 (by omega)
      have f3 := hce 3 (by omega)
      have f4 := hce 4 (by omega)
      rw [Nat.add_zero] at f0
      have htk : o.take (k + 1) = o.take k ++ [o[k]] := by rw [List.take_succ_eq_append_getElem hkl]
      have hws := iwithin_snoc x y (o.take k) o[k]
      rw [← htk] at hws
      have HWS := Lib.hid hws
      have hwl := iwithin_len x y (o.take k)
      rw [List.length_take] at hwl
      clear htk hws hce
      generalize o[k] = a at *
      simp [encI] at f0 f1 f2 f3 f4
      have i1 : (0 : Int) ≤ k := by omega
      have i2 : (k : Int) < m := by omega
      have x3 : Below wr.heap.size wr (wr.alloc (.cells #[.int .i64 a.id, .int .i64 a.pl, .int .i64 a.bi, .int .i64 a.ky, .string a.tx] 46)) := (Below.refl _ _).alloc (Nat.le_refl _) _
      have R3 : RawAt 46 (wr.alloc (.cells #[.int .i64 a.id, .int .i64 a.pl, .int .i64 a.bi, .int .i64 a.ky, .string a.tx] 46)) wr.heap.size #[.int .i64 a.id, .int .i64 a.pl, .int .i64 a.bi, .int .i64 a.ky, .string a.tx] := heap_alloc_new wr _
      have e0 := RawAt.cell R3 0
      have e1 := RawAt.cell R3 1
      have e2 := RawAt.cell R3 2
      have e3 := RawAt.cell R3 3
      have e4 := RawAt.cell R3 4
      simp at e0 e1 e2 e3 e4
      have HB3 := Lib.hid (hb.out.trans (x3.mono hb.out.size))
      have HO3 := Lib.hid (own_below hown.out x3)
      obtain ⟨A3, c3, rfl⟩ := own_form hown.out
      have hz3 : (wr.alloc (.cells #[.int .i64 a.id, .int .i64 a.pl, .int .i64 a.bi, .int .i64 a.ky, .string a.tx] 46)).heap.size = wr.heap.size + 1 := by simp
      generalize hW3 : wr.alloc (.cells #[.int .i64 a.id, .int .i64 a.pl, .int .i64 a.bi, .int .i64 a.ky, .string a.tx] 46) = W3 at HB3 HO3 hz3
      have x4 : Below W3.heap.size W3 (W3.alloc (.cells #[.int .i64 a.id, .int .i64 a.pl, .int .i64 a.bi, .int .i64 a.ky, .string a.tx] 46)) := (Below.refl _ _).alloc (Nat.le_refl _) _
      have R4 : RawAt 46 (W3.alloc (.cells #[.int .i64 a.id, .int .i64 a.pl, .int .i64 a.bi, .int .i64 a.ky, .string a.tx] 46)) W3.heap.size #[.int .i64 a.id, .int .i64 a.pl, .int .i64 a.bi, .int .i64 a.ky, .string a.tx] := heap_alloc_new W3 _
      have HO4 := Lib.hid (own_below HO3.out x4)
      have HS4 : Hid (RowsAt encI 5 (W3.alloc (.cells #[.int .i64 a.id, .int .i64 a.pl, .int .i64 a.bi, .int .i64 a.ky, .string a.tx] 46)) (some ⟨wr.heap.size + 1, 0, none⟩) [a]) := Lib.hid (by rw [← hz3]; exact rows_of_block (enc := encI) (k := 5) encI_len R4 (l := [a]) rfl)
      have HB4 := Lib.hid (HB3.out.trans (x4.mono HB3.out.size))
      have hlt4 := hown.out.lt
      have HW3 := Lib.hid hW3
      clear R3 x3 hown hb x4 R4 hW3 hz3
      have HO := HO
      by_cases g1 : x ≤ a.pl
      · have k1 : decide (x ≤ a.pl) = true := decide_eq_true g1
        by_cases g2 : a.pl ≤ y
        · have k2 : decide (a.pl ≤ y) = true := decide_eq_true g2
          have HN := HWS.out
          rw [if_pos ⟨g1, g2⟩] at HN
          have HN := Lib.hid HN
          clear g1 g2 HWS
          rw [← HW3.out] at HO4 HS4 HB4
          go_wp2_with (at_builtin; refine wpList_appK (enc := encI) ST encI_len (by omega) rfl (.tmp 28) (.tmp 30) rfl (base := w.heap.size) (v := .slice A3 (iwithin x y (o.take k)).length c3) rfl HO4.out _ 1 1 [a] rfl HS4.out ⟨Nat.le_refl _, fun h => by cases h⟩ rfl (kfl_one' encI_one _) (by simp only [maxLen]; omega) (by omega) HB4.out.size ?_; intro v5 w5 hown5 hg5 hor5)
          have hb5 := Lib.hid (HB4.out.grown hg5 HB4.out.size (fun j hj => (hlt4 j hj).1))
          have hO5 : Hid (w5.ownsRow w.heap.size 46 5 v5 (iwithin x y (o.take (k + 1))).length (kfl encI (iwithin x y (o.take (k + 1))))) := Lib.hid (by rw [HN.out, kfl_append, List.length_append]; exact hown5)
          clear hown5 hg5 hor5 HO4 HS4 HB4 HB3 HO3
          go_wp2
          go_roundg (gk - 1)
          case measure => omega
          case rel => exact ⟨k + 1, by go_num, by omega, by omega, hb5, hO5⟩
        · have k2 : decide (a.pl ≤ y) = false := decide_eq_false g2
          have HN := HWS.out
          rw [if_neg (fun h => g2 h.2)] at HN
          have HN := Lib.hid HN
          clear g1 g2 HWS HO4 HS4 HB4
          rw [← HW3.out] at HB3 HO3
          go_wp2
          go_roundg (gk - 1)
          case measure => omega
          case rel => exact ⟨k + 1, by go_num, by omega, by omega, HB3, Lib.hid (by rw [HN.out]; exact HO3.out)⟩
      · have k1 : decide (x ≤ a.pl) = false := decide_eq_false g1
        have HN := HWS.out
        rw [if_neg (fun h => g1 h.1)] at HN
        have HN := Lib.hid HN
        clear g1 HWS HO4 HS4 HB4
        rw [← HW3.out] at HB3 HO3
        go_wp2
        go_roundg (gk - 1)
        case measure => omega
        case rel => exact ⟨k + 1, by go_num, by omega, by omega, HB3, Lib.hid (by rw [HN.out]; exact HO3.out)⟩
    · obtain rfl : m = k := by omega
      have e2 : o.take m = o := List.take_of_length_le (by rw [HM.out]; exact Nat.le_refl _)
      have ho2 := hown.out
      rw [e2] at ho2
      have HO2 := Lib.hid ho2
      have HBB := hb
      clear e2 ho2 hown hb
      go_wp2
      go_ret
      exact ⟨_, rfl, HO2.out, HBB.out⟩
theorem iWithin_any {sb : Nat} {n : Int} {o : List In} {w : World} (h : ISet w sb n o) (ho : o.length ≤ 100000) (x y : Int) : Calls Try.prog 40 #[.pointer (some ⟨sb, 0, none⟩), .int .i64 x, .int .i64 y] w fun e w' => ∃ v, e = .returned v ∧ w'.ownsRow w.heap.size 46 5 v (iwithin x y o).length (kfl encI (iwithin x y o)) ∧ Below w.heap.size w w' := by
  obtain ⟨v, h1, h2⟩ := h
  obtain ⟨A, c, rfl, hR, _, hcap⟩ := rows_of_own encI_len (by omega) h2
  exact iWithin_rows x y _ A c n hR ho (iKept_any h1)
theorem iWithin_nil {w : World} (x y : Int) : Calls Try.prog 40 #[.pointer none, .int .i64 x, .int .i64 y] w fun e w' => ∃ v, e = .returned v ∧ w'.ownsRow w.heap.size 46 5 v 0 [] ∧ Below w.heap.size w w' :=
  iWithin_rows (o := []) x y _ none 0 0 (fun h => absurd h (by simp)) (by simp) (iKept_nil w)
set_option maxHeartbeats 4000000 in
set_option maxRecDepth 100000 in
theorem iLen_nil (w : World) : Calls Try.prog 39 #[.pointer none] w fun e w' => e = .returned (.int .i64 0) ∧ Below w.heap.size w w' := by
  have CK := Lib.hid (iKept_nil w)
  go_enter Try.func39, Try.ntmps39
  have tf0 := ifld0
  go_wp2_with fail
  with_reducible refine (CK.out).mono ?_
  rintro e1 w1 ⟨rfl, b1⟩
  go_wp2
  go_ret
  exact ⟨rfl, b1⟩
set_option maxHeartbeats 4000000 in
set_option maxRecDepth 100000 in
theorem iLen_any {sb : Nat} {n : Int} {o : List In} {w : World} (h : ISet w sb n o) : Calls Try.prog 39 #[.pointer (some ⟨sb, 0, none⟩)] w fun e w' => e = .returned (.int .i64 n) ∧ Below w.heap.size w w' := by
  obtain ⟨v, h1, h2⟩ := h
  obtain ⟨A, c, rfl, hR, _, hcap⟩ := rows_of_own encI_len (by omega) h2
  have CK := Lib.hid (iKept_any h1)
  clear h1 h2 hR hcap
  go_enter Try.func39, Try.ntmps39
  have tf0 := ifld0
  go_wp2_with fail
  with_reducible refine (CK.out).mono ?_
  rintro e1 w1 ⟨rfl, b1⟩
  go_wp2
  go_ret
  exact ⟨rfl, b1⟩
end Go.Proofs.Ytmijlijgcaaiiaa
