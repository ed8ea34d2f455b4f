/- The document's cells of all places; the small case of the laws on stops. -/
import Derived.Test.YtbalafgoengppaaDoorStR
import Derived.Test.YtbalafgoengppaaDoorStF
import Derived.Test.YtbalafgoengppaaDoorPlI
import Derived.Test.YtbalafgoengppaaDoorMid
namespace Go.Proofs.YtbalafgoengppaaDoor
open Go.RowKit
set_option linter.unusedVariables false
theorem int_slt : SlT Tryd.prog 24 3 1 8 := slt_of Tryd.underlying24 int_info rfl (by kernel_rfl)
set_option maxHeartbeats 4000000 in
set_option maxRecDepth 100000 in
theorem rsCells_any (tb : Nat) (zs ws : List (Int × Int)) (A : Option Addr) (n c : Nat) (l : List Int) (tab : Int) (w : World) (hT : RTab w tb zs ws) (hA : IntsAt .i32 w A l) (hl : l.length = n) (hn : n ≤ 1000000) (h1 : 1 ≤ tab) (h2 : tab ≤ 16) :
    Calls Tryd.prog 22 #[.pointer (some ⟨tb, 0, none⟩), .slice A n c, .int .i64 tab] w fun e w' => ∃ v, e = .returned v ∧ w'.ownsRow w.heap.size 3 1 v (n + 1) ((cls (szs (wid zs ws) tab 0 l)).map (.int .i64)) ∧ Below w.heap.size w w' := by
  obtain ⟨i0, hi0, hz0, hz1, hz2⟩ := info_parts int_info
  have CS := Lib.hid fun W (hb : Below w.heap.size w W) => rsSizes_any tb zs ws A n c l tab W (hT.below hb) (hA.below hb) hl hn h1 h2
  have hlen := szs_length (wid zs ws) tab l 0
  obtain ⟨hbd, _, hsum⟩ := szs_bd (wid_bd zs ws) h1 h2 l 0 (by omega)
  rw [hl] at hlen
  generalize szs (wid zs ws) tab 0 l = D at *
  have HL := Lib.hid hlen
  have HBD := Lib.hid hbd
  have x1 : Below w.heap.size w (w.alloc (.cells #[.int .i64 0] 3)) := (Below.refl _ _).alloc (Nat.le_refl _) _
  have O1 : Hid ((w.alloc (.cells #[.int .i64 0] 3)).ownsRow w.heap.size 3 1 (.slice (some ⟨w.heap.size, 0, none⟩) 1 1) (0 + 1) ((cls (D.take 0)).map (.int .i64))) := Lib.hid ⟨rfl, .inr ⟨w.heap.size, 1, _, rfl, Nat.le_refl _, heap_alloc_new w _, Nat.le_refl _, by unfold maxLen; omega, rfl, rfl⟩⟩
  have X1 := Lib.hid x1
  clear hT hA hl hlen hbd hsum x1
  go_enter Tryd.func22, Tryd.ntmps22
  go_wp2_with fail
  with_reducible refine (CS.out _ X1.out).mono ?_
  rintro e w4 ⟨v4, rfl, o4, hb4⟩
  have O4 := Lib.hid (own_below O1.out hb4)
  have B4 := Lib.hid (X1.out.trans (hb4.mono X1.out.size))
  have hbs := hb4.size
  have hs4 : w.heap.size + 1 ≤ w4.heap.size := by simpa using hbs
  have M4 : Hid (Mid (w.heap.size + 1) w4 w4 (.slice (some ⟨w.heap.size, 0, none⟩) 1 1)) := Lib.hid (Mid.start fun k hk => by have hk2 : w.heap.size = k := (by simpa [Value.ownBlock] using hk); omega)
  have HO4 : Hid (w4.ownsRow (w.heap.size + 1) 3 1 v4 n (D.map (.int .i64))) := Lib.hid (by simpa using o4)
  obtain ⟨A4, c4, rfl⟩ := own_form o4
  clear o4 hb4 CS X1 O1 hbs
  go_wp2_with fail
  go_loopg [7, 8, 9, 16] n (fun g v a x i wr => ∃ (j : Nat) (u : Value), i = .int .i64 j ∧ j ≤ n ∧ n - j ≤ g ∧ u = v ∧ Hid (Below w.heap.size w wr) ∧ Hid (Mid (w.heap.size + 1) w4 wr u) ∧ Hid (wr.ownsRow w.heap.size 3 1 u (j + 1) ((cls (D.take j)).map (.int .i64))))
  case atStart => exact ⟨0, _, rfl, by omega, by omega, rfl, B4, M4, O4⟩
  case round =>
    obtain ⟨j, v, rfl, g1, g2, rfl, hb, hM, hown⟩ := hrel
    by_cases hlt : j < n
    · have hjl : j < D.length := by rw [HL.out]; exact hlt
      obtain ⟨A5, c5, he, I5, _, _⟩ := IntsAt.of_own (hM.out.row HO4.out)
      injection he with he1 _ he2
      subst he1
      subst he2
      obtain ⟨bA, off, rfl, hbA, hce⟩ := I5 (by omega)
      have d0 := hce j hjl
      clear hce I5
      obtain ⟨g, cap, hv⟩ := own_slice hown.out (by omega)
      subst hv
      have hjt : (D.take j).length = j := by rw [List.length_take]; omega
      have e0 := hown.out.cellAt j (by omega)
      have hcj : ((cls (D.take j)).map (Value.int .i64))[j]? = some (.int .i64 (D.take j).sum) := by
        have := cls_at (D.take j) j (by omega)
        rw [List.take_take, Nat.min_self] at this
        have hcl := cls_length (D.take j)
        rw [List.getElem?_map, List.getElem?_eq_getElem (by omega)]
        rw [← this, List.getD_eq_getElem?_getD, List.getElem?_eq_getElem (by omega)]
        rfl
      rw [hcj] at e0
      have hsn : D.take (j + 1) = D.take j ++ [nth D j] := by rw [List.take_succ_eq_append_getElem hjl]; simp [nth, List.getD, hjl]
      have hcs := cls_snoc (D.take j) (nth D j)
      rw [← hsn] at hcs
      have HCS := Lib.hid hcs
      have bs1 := sum_nn (D.take j) (fun y hy => (HBD.out y (List.mem_of_mem_take hy)).1)
      have bs2 := sum_le16 (D.take j) (fun y hy => HBD.out y (List.mem_of_mem_take hy))
      rw [hjt] at bs2
      have bx := HBD.out (nth D j) (by simp only [nth, List.getD, List.getElem?_eq_getElem hjl, Option.getD_some]; exact List.getElem_mem hjl)
      clear hcs hsn hcj hjt
      generalize nth D j = x at *
      generalize (D.take j).sum = s at *
      obtain ⟨b1, b2⟩ := bx
      have i1 : (0 : Int) ≤ j := by omega
      have i2 : (j : Int) < n := by omega
      have i3 : (j : Int) < (j : Int) + 1 := by omega
      have x3 : Below wr.heap.size wr (wr.alloc (.cells #[.int .i64 (s + x)] 3)) := (Below.refl _ _).alloc (Nat.le_refl _) _
      have HOW := Lib.hid (own_below hown.out x3)
      have HM3 := Lib.hid (hM.out.below x3)
      have HB3 := Lib.hid (hb.out.trans (x3.mono hb.out.size))
      clear hown hM hb x3
      go_wp2_with (at_builtin; go_loud (refine wpList_appK (enc := encN .i64) int_slt (encN_len _) (by omega) rfl (.tmp 21) (.tmp 28) rfl rfl HOW.out (some ⟨wr.heap.size, 0, none⟩) 1 1 [s + x] rfl (row_new (encN_len _) _ _ _ _ rfl) ⟨Nat.le_refl _, fun h => by cases h⟩ rfl (kfl_one' (encN_one _) _) (by simp only [maxLen]; omega) (by omega) HB3.out.size ?_; intro v5 w5 hown5 hg5 hn5))
      have HO5 := Lib.hid hown5
      have HB5 := Lib.hid (HB3.out.grown hg5 HB3.out.size (fun k hk => (HOW.out.lt k hk).1))
      have HM5 := Lib.hid (HM3.out.grown hg5 hn5)
      clear hown5 hg5 hn5
      go_roundg (gk - 1)
      case measure => omega
      case rel => exact ⟨j + 1, _, by go_num, by omega, by omega, rfl, HB5, HM5, Lib.hid (by have := HO5.out; rw [HCS.out, List.map_append]; exact this)⟩
    · obtain rfl : j = n := by omega
      have h5 := hown.out
      rw [List.take_of_length_le (by rw [HL.out]; omega)] at h5
      have H5 := Lib.hid h5
      obtain ⟨A5, c5, rfl⟩ := own_form h5
      clear h5 hown
      go_wp2
      go_ret
      exact ⟨_, rfl, H5.out, hb.out⟩
end Go.Proofs.YtbalafgoengppaaDoor
