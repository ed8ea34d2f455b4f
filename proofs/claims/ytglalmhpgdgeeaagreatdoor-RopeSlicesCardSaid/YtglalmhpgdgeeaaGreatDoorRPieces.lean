/- Three rows of runes joined: the contracts of slices.Grow (of no row) and slices.Concat, at runes. Ropes: their pieces, and their text: the contracts of Pieces and Text. -/
import Derived.Test.YtglalmhpgdgeeaaGreatDoorBase
import Derived.Test.YtglalmhpgdgeeaaGreatDoorClone
import Derived.Lib.AppendZeros
import Derived.Test.YtglalmhpgdgeeaaGreatDoorRopeAsk
import Derived.Test.YtglalmhpgdgeeaaGreatDoorBuilder
namespace Go.Proofs.YtglalmhpgdgeeaaGreatDoor
open Go.RowKit
set_option maxHeartbeats 4000000 in
set_option maxRecDepth 100000 in
theorem growR_any (n : Nat) (w : World) (hn : n ≤ 1000000) :
    Calls Tryz.prog 51 #[.slice none 0 0, .int .i64 n] w fun e w' => ∃ v, e = .returned v ∧ w'.ownsRow w.heap.size 21 1 v 0 [] ∧ Below w.heap.size w w' := by
  obtain ⟨i0, hi0, hz0, hz1, hz2⟩ := info_parts i32_info
  rcases Nat.eq_zero_or_pos n with rfl | hp
  · go_enter Tryz.func51, Tryz.ntmps51
    go_wp2_with fail
    go_ret
    exact ⟨_, rfl, World.ownsRow_nil _ _ _ _, Below.refl _ _⟩
  have hrun := Lib.run_append_nil_zeros w 27 3 27 21 i0 _ .i64 .i64 Tryz.underlying27 Tryz.underlying3 hi0 hz0 n hp (by omega) (by omega) (by rw [hz2]; omega)
  have hcap := grownCap_le_maxLen w n 0 21 (by unfold maxLen; omega)
  have hcap2 := grownCap_ge w n 0 21
  generalize hC : grownCap w n 0 21 = C at *
  go_enter Tryz.func51, Tryz.ntmps51
  go_wp2_with (at_builtin; refine Lib.wpList_append_run _ rfl (.tmp 20) (.tmp 21) _ _ rfl _ _ rfl rfl _ _ hrun ?_)
  go_ret
  refine ⟨_, rfl, ⟨by simp, .inr ⟨w.heap.size, C, _, rfl, Nat.le_refl _, heap_alloc_new w.drew _, by omega, hcap, ?_, by simp⟩⟩, ((Below.refl _ _).drew).alloc (Nat.le_refl _) _⟩
  rw [Array.size_append, size_zeroCells, size_zeroCells, ← Nat.add_mul]
  congr 1
  omega
set_option maxHeartbeats 4000000 in
set_option maxRecDepth 100000 in
theorem concatR_any (Q A B D : Option Addr) (n c m d q f : Nat) (x y z : List Int) (w : World) (hQ : VsAt w Q [.slice A n c, .slice B m d, .slice D q f]) (hA : IntsAt .i32 w A x) (hx : x.length = n) (hc : Caps A n c) (hB : IntsAt .i32 w B y) (hy : y.length = m) (hd : Caps B m d) (hD : IntsAt .i32 w D z) (hz : z.length = q) (hf : Caps D q f) (hn : n ≤ 100000) (hm : m ≤ 100000) (hq_ : q ≤ 100000) :
    Calls Tryz.prog 32 #[.slice Q 3 3] w fun e w' => ∃ A' c', e = .returned (.slice A' (n + m + q) c') ∧ Below w.heap.size w w' ∧ IntsAt .i32 w' A' (x ++ y ++ z) ∧ Caps A' (n + m + q) c' := by
  obtain ⟨b, off, rfl, hbs, hq⟩ := hQ (by simp)
  have e0 : w.cell? ⟨b, off, none⟩ = some (.slice A n c) := hq 0 (by simp)
  have e1 : w.cell? ⟨b, off + 1, none⟩ = some (.slice B m d) := hq 1 (by simp)
  have e2 : w.cell? ⟨b, off + 2, none⟩ = some (.slice D q f) := hq 2 (by simp)
  have HA := Lib.hid hA
  have HB := Lib.hid hB
  have HDD := Lib.hid hD
  have HX := Lib.hid hx
  have HY := Lib.hid hy
  have HZ := Lib.hid hz
  have HC := Lib.hid hc
  have HD := Lib.hid hd
  have HF := Lib.hid hf
  clear hq hQ hA hB hx hy hc hd hD hz hf
  have wn : IntKind.i64.wrap (n : Int) = (n : Int) := IntWalk.i64_in _ (by omega)
  have wnm : IntKind.i64.wrap ((n : Int) + (m : Int)) = (n : Int) + (m : Int) := IntWalk.i64_in _ (by omega)
  have wnmq : IntKind.i64.wrap ((n : Int) + (m : Int) + (q : Int)) = (n : Int) + (m : Int) + (q : Int) := IntWalk.i64_in _ (by omega)
  have nneg : ¬ ((n : Int) < 0) := by omega
  have nmneg : ¬ ((n : Int) + (m : Int) < 0) := by omega
  have nmqneg : ¬ ((n : Int) + (m : Int) + (q : Int) < 0) := by omega
  go_enter Tryz.func32, Tryz.ntmps32
  go_wp2_with fail
  go_loopg [3, 11] 3 (fun k s i wr => ∃ j : Nat, i = .int .i64 j ∧ j ≤ 3 ∧ 3 - j ≤ k ∧ wr = w ∧ ((j = 0 ∧ s = .int .i64 0) ∨ (j = 1 ∧ s = .int .i64 n) ∨ (j = 2 ∧ s = .int .i64 (n + m)) ∨ (j = 3 ∧ s = .int .i64 (n + m + q))))
  case atStart => exact ⟨0, rfl, by omega, by omega, rfl, .inl ⟨rfl, rfl⟩⟩
  case round =>
    obtain ⟨j, rfl, h1, h2, rfl, ⟨rfl, rfl⟩ | ⟨rfl, rfl⟩ | ⟨rfl, rfl⟩ | ⟨rfl, rfl⟩⟩ := hrel
    · go_wp2
      go_roundg (gk - 1)
      case measure => omega
      case rel => exact ⟨1, rfl, by omega, by omega, rfl, .inr (.inl ⟨rfl, rfl⟩)⟩
    · go_wp2
      go_roundg (gk - 1)
      case measure => omega
      case rel => exact ⟨2, rfl, by omega, by omega, rfl, .inr (.inr (.inl ⟨rfl, rfl⟩))⟩
    · go_wp2
      go_roundg (gk - 1)
      case measure => omega
      case rel => exact ⟨3, rfl, by omega, by omega, rfl, .inr (.inr (.inr ⟨rfl, rfl⟩))⟩
    · have CG := Lib.hid (growR_any (n + m + q) wr (by omega))
      rw [Int.natCast_add, Int.natCast_add] at CG
      go_wp2_with fail
      refine CG.out.mono ?_
      rintro e w1 ⟨v1, rfl, hown1, hb1⟩
      have HO1 := Lib.hid hown1; clear hown1
      obtain ⟨w0, hw0⟩ : ∃ x, x = wr := ⟨wr, rfl⟩
      subst hw0
      obtain ⟨gO, hgO⟩ : ∃ g, g = gk := ⟨gk, rfl⟩
      subst hgO
      go_wp2_with fail
      go_loopg [6, 27] 3 (fun k v i W => ∃ j : Nat, i = .int .i64 j ∧ j ≤ 3 ∧ 3 - j ≤ k ∧ Below w0.heap.size w0 W ∧ ((j = 0 ∧ Hid (W.ownsRow w0.heap.size 21 1 v 0 [])) ∨ (j = 1 ∧ Hid (W.ownsRow w0.heap.size 21 1 v n (x.map (.int .i32)))) ∨ (j = 2 ∧ Hid (W.ownsRow w0.heap.size 21 1 v (n + m) (x.map (.int .i32) ++ y.map (.int .i32)))) ∨ (j = 3 ∧ Hid (W.ownsRow w0.heap.size 21 1 v (n + m + q) ((x ++ y ++ z).map (.int .i32))))))
      case atStart => exact ⟨0, rfl, by omega, by omega, hb1, .inl ⟨rfl, HO1⟩⟩
      case round =>
        obtain ⟨j, rfl, h3, h4, hb, ⟨rfl, hown⟩ | ⟨rfl, hown⟩ | ⟨rfl, hown⟩ | ⟨rfl, hown⟩⟩ := hrel
        · have q0 : wr.cell? ⟨b, off, none⟩ = some (.slice A n c) := ((old_cells hb).1 _ _ hbs).trans e0
          go_wp2_with (at_builtin; refine wpList_append_ints rfl (.tmp 31) (.tmp 32) rfl w0.heap.size _ 0 [] rfl hown.out A n c x rfl (HA.out.below hb) HC.out HX.out (by omega) hb.size ?_; intro v4 w4 hown4 hg4)
          have hb4 := hb.grown hg4 hb.size (fun k hk => (hown.out.lt k hk).1)
          rw [Nat.zero_add, List.nil_append] at hown4
          go_wp2
          go_roundg (gk - 1)
          case measure => omega
          case rel => exact ⟨1, rfl, by omega, by omega, hb4, .inr (.inl ⟨rfl, hown4⟩)⟩
        · have q0 : wr.cell? ⟨b, off + 1, none⟩ = some (.slice B m d) := ((old_cells hb).1 _ _ hbs).trans e1
          go_wp2_with (at_builtin; refine wpList_append_ints rfl (.tmp 31) (.tmp 32) rfl w0.heap.size _ n (x.map (Value.int .i32)) rfl hown.out B m d y rfl (HB.out.below hb) HD.out HY.out (by omega) hb.size ?_; intro v4 w4 hown4 hg4)
          have hb4 := hb.grown hg4 hb.size (fun k hk => (hown.out.lt k hk).1)
          go_wp2
          go_roundg (gk - 1)
          case measure => omega
          case rel => exact ⟨2, rfl, by omega, by omega, hb4, .inr (.inr (.inl ⟨rfl, hown4⟩))⟩
        · have q0 : wr.cell? ⟨b, off + 2, none⟩ = some (.slice D q f) := ((old_cells hb).1 _ _ hbs).trans e2
          go_wp2_with (at_builtin; refine wpList_append_ints rfl (.tmp 31) (.tmp 32) rfl w0.heap.size _ (n + m) (x.map (Value.int .i32) ++ y.map (Value.int .i32)) rfl hown.out D q f z rfl (HDD.out.below hb) HF.out HZ.out (by omega) hb.size ?_; intro v4 w4 hown4 hg4)
          have hb4 := hb.grown hg4 hb.size (fun k hk => (hown.out.lt k hk).1)
          rw [← List.map_append, ← List.map_append] at hown4
          go_wp2
          go_roundg (gk - 1)
          case measure => omega
          case rel => exact ⟨3, rfl, by omega, by omega, hb4, .inr (.inr (.inr ⟨rfl, hown4⟩))⟩
        · obtain ⟨A7, c7, e7, hI7, hl7, hC7⟩ := IntsAt.of_own hown.out
          have HI := Lib.hid hI7
          have HC7 := Lib.hid hC7
          subst e7
          clear hown hI7 hC7 hl7
          go_wp2
          go_ret
          exact ⟨A7, c7, by simp, hb, HI.out, HC7.out⟩
theorem string_info : (Tryz.prog.info? 9).map (fun i => (i.zero, i.size, i.bytes)) = some (some (.string ⟨#[]⟩), 1, 16) := by kernel_rfl
/-- Pieces as values. -/
def svs (ps : List (List Int)) : List Value := ps.map fun q => .string (txt q)
theorem svs_length (ps : List (List Int)) : (svs ps).length = ps.length := by simp [svs]
section
variable {p : Option Addr} {ps : List (List Int)} {h : Nat} {w : World}
set_option maxHeartbeats 4000000 in
set_option maxRecDepth 100000 in
theorem rpieces_any (hr : RP w p ps h) :
    Calls Tryz.prog 38 #[.pointer p] w fun e w' => ∃ A c, e = .returned (.slice A ps.length c) ∧ Below w.heap.size w w' ∧ VsAt w' A (svs ps) ∧ Caps A ps.length c := by
  obtain ⟨i0, hi0, hz0, hz1, hz2⟩ := info_parts string_info
  obtain ⟨row, hT, hp⟩ := pieces_fix hr
  have C1 := Lib.hid (hp w (Below.refl _ _))
  have C2 := Lib.hid (titems_any row (ps.map pit) h w hT)
  have hlen := hr.1.len
  clear hr hT hp
  rw [List.length_map] at C2
  obtain ⟨n, hn⟩ : ∃ n, n = ps.length := ⟨_, rfl⟩
  rw [← hn] at C2 hlen ⊢
  have HN := Lib.hid hn
  clear hn
  go_enter Tryz.func38, Tryz.ntmps38
  go_wp2_with fail
  refine C1.out.mono ?_
  rintro e w1 ⟨rfl, rfl⟩
  go_wp2_with fail
  refine C2.out.mono ?_
  rintro e w2 ⟨A, c, rfl, hb2, hI, hC⟩
  have HI := Lib.hid hI
  have hC1 := hC.1
  clear hI hC
  go_wp2_with fail
  go_loopg [3, 10] n (fun g v i wr => ∃ j : Nat, i = .int .i64 j ∧ j ≤ n ∧ n - j ≤ g ∧ Below w2.heap.size w2 wr ∧ Hid (wr.ownsRow w2.heap.size 9 1 v j (svs (ps.take j))))
  case atStart => exact ⟨0, rfl, by omega, by omega, Below.refl _ _, Lib.hid (World.ownsRow_nil _ _ _ _)⟩
  case round =>
    obtain ⟨j, rfl, h1, h2, hb, hown⟩ := hrel
    by_cases hlt : j < n
    · have hm : j < ps.length := by rw [← HN.out]; exact hlt
      obtain ⟨bA, off, rfl, hbA, hcell⟩ := (HI.out.below hb) (by rw [List.length_map]; omega)
      obtain ⟨d0, d1, d2, d3, d4, d5, d6⟩ := hcell j (by rw [List.length_map]; exact hm)
      rw [ith_pit hm] at d0 d1 d2 d3 d4 d5 d6
      clear hcell
      have HX := Lib.hid (show svs (ps.take (j + 1)) = svs (ps.take j) ++ [.string (pit (pth ps j)).tx] from by
        rw [List.take_succ_eq_append_getElem hm, pth_lt hm]; unfold svs pit; rw [List.map_append]; rfl)
      generalize pit (pth ps j) = x at *
      have i1 : (0 : Int) ≤ j := by omega
      have i2 : (j : Int) < n := by omega
      have a3 := hb.alloc hb.size (.cells (ics x) 57)
      have o3 := hown.out.alloc (.cells (ics x) 57)
      have R3 : RawAt 57 (wr.alloc (.cells (ics x) 57)) wr.heap.size (ics x) := heap_alloc_new wr _
      have hsz := hb.size
      unfold ics at a3 o3 R3
      obtain ⟨xb, hxb⟩ : ∃ xb, xb = wr.heap.size := ⟨_, rfl⟩
      rw [← hxb] at R3
      have HXB := Lib.hid hxb
      clear hxb
      obtain ⟨W4, hW4⟩ : ∃ W4, W4 = wr.alloc (.cells #[.int .i64 x.tag, .int .i64 x.id, .int .i64 x.d0, .int .i64 x.d1, .int .i64 x.d2, .int .i64 x.mx, .string x.tx] 57) := ⟨_, rfl⟩
      rw [← hW4] at a3 o3 R3
      have HO3 := Lib.hid o3
      have hown3 := o3
      clear o3
      have hlt4 := hown3.lt
      have hz3 := a3.size
      subst hW4
      go_wp2_with (at_builtin; refine wpList_append_own _ rfl (.tmp 14) (.tmp 17) _ rfl w2.heap.size 9 i0 _ 1 16 Tryz.underlying80 hi0 hz0 hz1 hz2 rfl (by omega) _ j (svs (ps.take j)) rfl (hown3.alloc _) ⟨wr.heap.size + 1, 0, none⟩ 1 1 [.string x.tx] rfl rfl (fun k u hu => by have := one_new (wr.alloc (.cells #[.int .i64 x.tag, .int .i64 x.id, .int .i64 x.d0, .int .i64 x.d1, .int .i64 x.d2, .int .i64 x.mx, .string x.tx] 57)) (.string x.tx) 9 k u hu; simpa using this) (fun u hu => by simp at hu; subst hu; rfl) (by simp only [maxLen]; omega) (by omega) (by simp; omega) ?_; intro v4 w4 hown4 hg4 hnil4; clear hnil4)
      have hb4 : Below w2.heap.size w2 w4 := (a3.alloc a3.size _).grown hg4 (by simp; omega) (fun k hk => (hlt4 k hk).1)
      have HO4 := Lib.hid hown4
      clear hown4 hg4
      go_wp2
      go_roundg (gk - 1)
      case measure => omega
      case rel => exact ⟨j + 1, by go_num, by omega, by omega, hb4, Lib.hid (by rw [HX.out]; exact HO4.out)⟩
    · have he : j = n := by omega
      subst he
      rw [List.take_of_length_le (by rw [← HN.out]; exact Nat.le_refl _)] at hown
      obtain ⟨A7, c7, e7, hI7, hl7, hC7⟩ := vs_of_own hown.out
      have HI7 := Lib.hid hI7
      have HC7 := Lib.hid hC7
      subst e7
      clear hown hI7 hC7 hl7
      go_wp2
      go_ret
      exact ⟨A7, c7, rfl, hb2.trans (hb.mono hb2.size), HI7.out, HC7.out⟩
theorem join_nosep (l : List (List UInt8)) : Lib.join l [] = l.flatten := by
  cases l with
  | nil => rfl
  | cons x r => rw [Lib.join_cons]; simp [Lib.joinTail]
theorem svs_at {ps : List (List Int)} {j : Nat} (hj : j < ps.length) : vth (svs ps) j = .string (txt ps[j]) := by simp [vth, svs, List.getD, hj]
set_option maxHeartbeats 4000000 in
set_option maxRecDepth 100000 in
theorem rtext_any (hr : RP w p ps h) :
    Calls Tryz.prog 13 #[.pointer p] w fun e w' => e = .returned (.string (txt ps.flatten)) ∧ Below w.heap.size w w' := by
  have C1 := Lib.hid (rpieces_any hr)
  have hall : (encAll ps.flatten).length ≤ 80000 := by have := encAll_len ps.flatten; have := hr.1.most; omega
  have hlen := hr.1.len
  have HP := Lib.hid hr.1
  have HF := Lib.hid (show ((ps.map txt).map (·.data.toList)).flatten = encAll ps.flatten from by
    rw [List.map_map]
    clear HP hall hlen C1 hr
    induction ps with
    | nil => simp [encAll]
    | cons q ps ih => rw [List.map_cons, List.flatten_cons, ih, List.flatten_cons, encAll_append]; simp [txt])
  clear hr
  go_enter Tryz.func13, Tryz.ntmps13
  go_wp2_with fail
  refine C1.out.mono ?_
  rintro e w1 ⟨A, c, rfl, hb1, hI, hC⟩
  have CJ : Hid (Calls Tryz.prog 37 #[.slice A ps.length c, .string ⟨#[]⟩] w1 fun e w' => e = .returned (.string (txt ps.flatten)) ∧ Below w1.heap.size w1 w') := by
    by_cases h0 : 0 < ps.length
    · obtain ⟨b, off, rfl, hbs, hcell⟩ := hI (by rw [svs_length]; exact h0)
      have := Tryz.strings_Join b off c (ps.map txt) ⟨#[]⟩ w1 (fun j x hx => by
        have hj : j < ps.length := by
          rcases Nat.lt_or_ge j ps.length with h9 | h9
          · exact h9
          · rw [List.getElem?_eq_none (by rw [List.length_map]; exact h9)] at hx; cases hx
        have h1 := hcell j (by rw [svs_length]; exact hj)
        rw [svs_at hj] at h1
        rw [List.getElem?_map, List.getElem?_eq_getElem hj] at hx
        cases hx
        exact h1) hbs (by rw [List.length_map]; omega) (by rw [List.length_map]; exact hC.1) (by rw [show (⟨#[]⟩ : ByteArray).data.toList = [] from rfl, join_nosep, HF.out]; omega)
      rw [List.length_map, show (⟨#[]⟩ : ByteArray).data.toList = [] from rfl, join_nosep, HF.out] at this
      exact this
    · have h1 : ps = [] := List.eq_nil_of_length_eq_zero (by omega)
      subst h1
      refine (Any.strings_Join_none Tryz.lays156 Tryz.Builder_Extra_156 A c ⟨#[]⟩ w1).mono ?_
      rintro e w' ⟨rfl, rfl⟩
      exact ⟨rfl, Below.refl _ _⟩
  clear hI hC
  go_wp2_with fail
  refine CJ.out.mono ?_
  rintro e w2 ⟨rfl, hb2⟩
  go_wp2_with fail
  go_ret
  exact ⟨rfl, hb1.trans (hb2.mono hb1.size)⟩
end
end Go.Proofs.YtglalmhpgdgeeaaGreatDoor
