/- Tables are made of ranges: the contracts of slices.Clone (of ranges) and width.New. -/
import Derived.Test.YtapamkefcfnbpaaDoorRight
namespace Go.Proofs.YtapamkefcfnbpaaDoor
open Go.RowKit
/-- A row of the call's own that holds ranges. -/
theorem RngAt.of_own {w : World} {base n : Nat} {e : TypeId} {v : Value} {rs : List (Int × Int)} (h : w.ownsRow base e 2 v n (flat rs)) : ∃ A c, v = .slice A n c ∧ RngAt w A rs ∧ rs.length = n ∧ ∀ a, A = some a → base ≤ a.block := by
  have hl : rs.length = n := by have := h.1; rw [flat_length] at this; omega
  rcases h.2 with ⟨rfl, rfl⟩ | ⟨g, cap, cur, rfl, hbg, hh, hnc, _, hsz, htake⟩
  · exact ⟨none, 0, rfl, fun hp => by omega, hl, fun a h => by cases h⟩
  · refine ⟨_, cap, rfl, fun _ => ⟨g, 0, rfl, block_lt hh, fun k hk => ?_⟩, hl, fun a h => by injection h with h; subst h; exact hbg⟩
    have h2 := flat_at rs k hk
    rw [cell_of_row w g _ cur e (0, 0) hh, cell_of_row w g _ cur e (0, 0) hh, ← Array.getElem?_toList, ← Array.getElem?_toList, Nat.zero_add]
    rw [← htake, List.getElem?_take, List.getElem?_take, if_pos (by omega), if_pos (by omega)] at h2
    exact h2
theorem RngAt.news {w : World} {a : Addr} {rs : List (Int × Int)} (h : RngAt w (some a) rs) : ∀ (j : Nat) (u : Value), (flat rs)[j]? = some u → w.cell? (a.add j) = some u := by
  intro j u hu
  have hj : j < rs.length * 2 := by
    have := (List.getElem?_eq_some_iff.1 hu).1
    rwa [flat_length] at this
  obtain ⟨b, off, e, _, hc⟩ := h (by omega)
  obtain rfl : a = ⟨b, off, none⟩ := by injection e
  rw [Go.WideShapes.add_plain]
  have hk := hc (j / 2) (by omega)
  have hf := flat_at rs (j / 2) (by omega)
  rcases Nat.mod_two_eq_zero_or_one j with h0 | h0
  · have e : j = j / 2 * 2 := by omega
    rw [e] at hu ⊢
    rw [hf.1] at hu
    rw [← hu]
    simpa using hk.1
  · have e : j = j / 2 * 2 + 1 := by omega
    rw [e] at hu ⊢
    rw [hf.2] at hu
    rw [← hu, ← Nat.add_assoc]
    simpa using hk.2
theorem flat_one (rs : List (Int × Int)) : ∀ u ∈ flat rs, u.oneCell' = true := by
  intro u hu
  simp only [flat, List.mem_flatMap] at hu
  obtain ⟨g, _, hg⟩ := hu
  simp at hg
  rcases hg with rfl | rfl <;> rfl
theorem range_info : (Tryd.prog.info? 51).map (fun i => (i.zero, i.size, i.bytes)) = some (some (.agg #[.int .i32 0, .int .i32 0]), 2, 8) := by kernel_rfl
set_option maxHeartbeats 400000 in
theorem clone_any (A : Option Addr) (n c : Nat) (rs : List (Int × Int)) (w : World) (hA : RngAt w A rs) (hl : rs.length = n) (hn : n ≤ 1000000) :
    Calls Tryd.prog 48 #[.slice A n c] w fun e w' => ∃ A' c', e = .returned (.slice A' n c') ∧ Below w.heap.size w w' ∧ RngAt w' A' rs ∧ ∀ a, A' = some a → w.heap.size ≤ a.block := by
  obtain ⟨i0, hi0, hz0, hz1, hz2⟩ := info_parts range_info
  have HL := Lib.hid hl; clear hl
  rcases A with _ | a
  · have hn0 : n = 0 := by
      rcases Nat.eq_zero_or_pos n with h | h
      · exact h
      · obtain ⟨_, _, h, _⟩ := hA (by rw [HL.out]; exact h)
        cases h
    subst hn0
    have hz : rs = [] := List.eq_nil_of_length_eq_zero HL.out
    have he := fun W : World => Lib.run_eql_slice_nil (P := Tryd.prog) W 39 51 none 0 c 0 0 Tryd.underlying39
    have HZ := Lib.hid hz; clear hz
    go_enter Tryd.func48, Tryd.ntmps48
    go_wp2
    go_ret
    exact ⟨_, _, rfl, Below.refl _ _, fun hp => by rw [HZ.out] at hp; exact absurd hp (by simp), fun a h => by cases h⟩
  · have he := fun W : World => Lib.run_eql_slice_nil (P := Tryd.prog) W 39 51 (some a) n c 0 0 Tryd.underlying39
    have HA := Lib.hid hA; clear hA
    go_enter Tryd.func48, Tryd.ntmps48
    go_wp2_with (at_builtin; refine wpList_append_own _ rfl (.tmp 5) (.tmp 6) _ rfl w.heap.size 51 i0 _ 2 8 Tryd.underlying39 hi0 hz0 hz1 hz2 rfl (by omega) (.slice (some ⟨w.heap.size, 0, none⟩) 0 0) 0 [] rfl (World.ownsRow_made w #[] 0 (Nat.le_refl _) (Nat.zero_le _) rfl) a n c (flat rs) rfl (by rw [flat_length, HL.out]) (HA.out.below ((Below.refl _ _).alloc (Nat.le_refl _) _)).news (flat_one rs) (by simp only [maxLen]; omega) (by omega) (by simp) ?_; intro v1 w1 hown1 hg1 hnil1; clear hnil1)
    have hbw : Below w.heap.size w w1 := ((Below.refl _ _).alloc (Nat.le_refl _) (.cells #[] 51)).grown hg1 (by simp) (fun k hk => by simp [Value.ownBlock] at hk; omega)
    obtain ⟨A', c', rfl, hR, _, hfrom⟩ := RngAt.of_own (n := 0 + n) (rs := rs) (by simpa using hown1)
    go_ret
    exact ⟨A', c', by simp, hbw, hR, hfrom⟩
/-- A table all of whose blocks lie from one on. -/
def TabFrom (w : World) (base tb : Nat) (zs ws : List (Int × Int)) : Prop :=
  ∃ (A1 A2 : Option Addr) (c1 c2 : Nat), base ≤ tb ∧ tb < w.heap.size ∧ w.cell? ⟨tb, 0, none⟩ = some (.slice A1 zs.length c1) ∧ w.cell? ⟨tb, 1, none⟩ = some (.slice A2 ws.length c2) ∧
    RngAt w A1 zs ∧ RngAt w A2 ws ∧ zs.length ≤ 1000000 ∧ ws.length ≤ 1000000 ∧ Srt zs ∧ Srt ws ∧ (∀ a, A1 = some a → base ≤ a.block) ∧ ∀ a, A2 = some a → base ≤ a.block
theorem TabFrom.at_ {w : World} {base tb : Nat} {zs ws : List (Int × Int)} (h : TabFrom w base tb zs ws) : TabAt w tb zs ws := by
  obtain ⟨A1, A2, c1, c2, _, h1, h2, h3, h4, h5, h6, h7, h8, h9, _⟩ := h
  exact ⟨A1, A2, c1, c2, h1, h2, h3, h4, h5, h6, h7, h8, h9⟩
theorem TabFrom.below {w w' : World} {base tb : Nat} {zs ws : List (Int × Int)} (h : TabFrom w base tb zs ws) (hb : Below w.heap.size w w') : TabFrom w' base tb zs ws := by
  obtain ⟨A1, A2, c1, c2, h0, h1, h2, h3, h4, h5, h6⟩ := h
  exact ⟨A1, A2, c1, c2, h0, Nat.lt_of_lt_of_le h1 hb.size, ((old_cells hb).1 _ _ h1).trans h2, ((old_cells hb).1 _ _ h1).trans h3, h4.below hb, h5.below hb, h6⟩
theorem RngAt.far {w w' : World} {A : Option Addr} {rs : List (Int × Int)} {base : Nat} (h : RngAt w A rs) (hA : ∀ a, A = some a → base ≤ a.block) (hs : w.heap.size ≤ w'.heap.size) (hc : ∀ b o, base ≤ b → w'.cell? ⟨b, o, none⟩ = w.cell? ⟨b, o, none⟩) : RngAt w' A rs := by
  intro hp
  obtain ⟨b, off, rfl, h1, h2⟩ := h hp
  have hb := hA _ rfl
  exact ⟨b, off, rfl, Nat.lt_of_lt_of_le h1 hs, fun k hk => ⟨(hc b _ hb).trans (h2 k hk).1, (hc b _ hb).trans (h2 k hk).2⟩⟩
/-- It stays where only what lies ahead is written. -/
theorem TabFrom.far {w w' : World} {base tb : Nat} {zs ws : List (Int × Int)} (h : TabFrom w base tb zs ws) (hs : w.heap.size ≤ w'.heap.size) (hc : ∀ b o, base ≤ b → w'.cell? ⟨b, o, none⟩ = w.cell? ⟨b, o, none⟩) : TabFrom w' base tb zs ws := by
  obtain ⟨A1, A2, c1, c2, h0, h1, h2, h3, h4, h5, h6, h7, h8, h9, f1, f2⟩ := h
  exact ⟨A1, A2, c1, c2, h0, Nat.lt_of_lt_of_le h1 hs, (hc _ _ h0).trans h2, (hc _ _ h0).trans h3, h4.far f1 hs hc, h5.far f2 hs hc, h6, h7, h8, h9, f1, f2⟩
theorem TabAt.of_block {w : World} {tb : Nat} {A1 A2 : Option Addr} {c1 c2 : Nat} {zs ws : List (Int × Int)} {t : TypeId} (h : w.heap[tb]? = some (.cells #[.slice A1 zs.length c1, .slice A2 ws.length c2] t (0, 0)))
    (h3 : RngAt w A1 zs) (h4 : RngAt w A2 ws) (h5 : zs.length ≤ 1000000) (h6 : ws.length ≤ 1000000) (h7 : Srt zs) (h8 : Srt ws) : TabAt w tb zs ws :=
  ⟨A1, A2, c1, c2, block_lt h, by rw [cell_of_row w tb 0 _ t _ h]; rfl, by rw [cell_of_row w tb 1 _ t _ h]; rfl, h3, h4, h5, h6, h7, h8⟩
set_option maxHeartbeats 400000 in
theorem new_long (A1 A2 : Option Addr) (n1 n2 c1 c2 : Nat) (w : World) (h1 : n1 ≤ 1000000) (h2 : n2 ≤ 1000000) (ho : 200 < n1 ∨ 200 < n2) :
    Calls Tryd.prog 29 #[.slice A1 n1 c1, .slice A2 n2 c2] w fun e w' => e = .returned (.tuple #[.pointer none, .int .i64 2]) ∧ Below w.heap.size w w' := by
  by_cases g1 : 200 < n1
  · go_enter Tryd.func29, Tryd.ntmps29
    go_wp2_with fail
    go_ret2
    exact ⟨rfl, Below.refl _ _⟩
  · have g2 : 200 < n2 := by omega
    go_enter Tryd.func29, Tryd.ntmps29
    go_wp2_with fail
    go_ret2
    exact ⟨rfl, Below.refl _ _⟩
set_option maxHeartbeats 400000 in
theorem new_form (A1 A2 : Option Addr) (n1 n2 c1 c2 : Nat) (zs ws : List (Int × Int)) (w : World) (hA1 : RngAt w A1 zs) (hA2 : RngAt w A2 ws) (hl1 : zs.length = n1) (hl2 : ws.length = n2) (h1 : n1 ≤ 200) (h2 : n2 ≤ 200)
    (ho : (rightB zs && rightB ws) = false) :
    Calls Tryd.prog 29 #[.slice A1 n1 c1, .slice A2 n2 c2] w fun e w' => e = .returned (.tuple #[.pointer none, .int .i64 4]) ∧ Below w.heap.size w w' := by
  have HL1 := Lib.hid hl1; clear hl1
  have HL2 := Lib.hid hl2; clear hl2
  cases hz : rightB zs
  · have HZ := Lib.hid hz; clear hz ho
    go_enter Tryd.func29, Tryd.ntmps29
    go_wp2_with fail
    refine (right_any A1 n1 c1 zs _ hA1 HL1.out (by omega)).mono ?_
    rintro e w1 ⟨rfl, hb1⟩
    rw [HZ.out]
    go_wp2_with fail
    go_ret2
    exact ⟨rfl, hb1⟩
  · have hw : rightB ws = false := by rw [hz] at ho; simpa using ho
    have HZ := Lib.hid hz; clear hz ho
    have HW := Lib.hid hw; clear hw
    go_enter Tryd.func29, Tryd.ntmps29
    go_wp2_with fail
    refine (right_any A1 n1 c1 zs _ hA1 HL1.out (by omega)).mono ?_
    rintro e w1 ⟨rfl, hb1⟩
    rw [HZ.out]
    go_wp2_with fail
    refine (right_any A2 n2 c2 ws _ (hA2.below hb1) HL2.out (by omega)).mono ?_
    rintro e w2 ⟨rfl, hb2⟩
    rw [HW.out]
    go_wp2_with fail
    go_ret2
    exact ⟨rfl, hb1.trans (hb2.mono hb1.size)⟩
set_option maxHeartbeats 400000 in
theorem new_ok (A1 A2 : Option Addr) (n1 n2 c1 c2 : Nat) (zs ws : List (Int × Int)) (w : World) (hA1 : RngAt w A1 zs) (hA2 : RngAt w A2 ws) (hl1 : zs.length = n1) (hl2 : ws.length = n2) (h1 : n1 ≤ 200) (h2 : n2 ≤ 200)
    (hz : rightB zs = true) (hw : rightB ws = true) :
    Calls Tryd.prog 29 #[.slice A1 n1 c1, .slice A2 n2 c2] w fun e w' => ∃ tb, e = .returned (.tuple #[.pointer (some ⟨tb, 0, none⟩), .int .i64 0]) ∧ Below w.heap.size w w' ∧ w.heap.size ≤ tb ∧ TabAt w' tb zs ws ∧ TabFrom w' w.heap.size tb zs ws := by
  have HL1 := Lib.hid hl1; clear hl1
  have HL2 := Lib.hid hl2; clear hl2
  have HZ := Lib.hid hz; clear hz
  have HW := Lib.hid hw; clear hw
  go_enter Tryd.func29, Tryd.ntmps29
  go_wp2_with fail
  refine (right_any A1 n1 c1 zs _ hA1 HL1.out (by omega)).mono ?_
  rintro e w1 ⟨rfl, hb1⟩
  rw [HZ.out]
  go_wp2_with fail
  refine (right_any A2 n2 c2 ws _ (hA2.below hb1) HL2.out (by omega)).mono ?_
  rintro e w2 ⟨rfl, hb2⟩
  rw [HW.out]
  go_wp2_with fail
  refine (clone_any A1 n1 c1 zs _ ((hA1.below hb1).below hb2) HL1.out (by omega)).mono ?_
  rintro e w3 ⟨B1, d1, rfl, hb3, hB1, hf1⟩
  go_wp2_with fail
  refine (clone_any A2 n2 c2 ws _ (((hA2.below hb1).below hb2).below hb3) HL2.out (by omega)).mono ?_
  rintro e w4 ⟨B2, d2, rfl, hb4, hB2, hf2⟩
  go_wp2_with fail
  go_ret2
  have a2 := hb1.trans (hb2.mono hb1.size)
  have a3 := a2.trans (hb3.mono a2.size)
  have a4 := a3.trans (hb4.mono a3.size)
  have hbl := Below.refl w4.heap.size w4
  have hnew : (w4.alloc (.cells #[.slice B1 n1 d1, .slice B2 n2 d2] 74)).heap[w4.heap.size]? = some (.cells #[.slice B1 zs.length d1, .slice B2 ws.length d2] 74 (0, 0)) := by
    rw [HL1.out, HL2.out]
    exact heap_alloc_new w4 _
  have r1 := (hB1.below hb4).below (hbl.alloc (Nat.le_refl _) (.cells #[.slice B1 n1 d1, .slice B2 n2 d2] 74))
  have r2 := hB2.below (hbl.alloc (Nat.le_refl _) (.cells #[.slice B1 n1 d1, .slice B2 n2 d2] 74))
  have l1 : zs.length ≤ 1000000 := by rw [HL1.out]; omega
  have l2 : ws.length ≤ 1000000 := by rw [HL2.out]; omega
  refine ⟨_, rfl, a4.alloc a4.size _, a4.size, TabAt.of_block hnew r1 r2 l1 l2 (Srt.of_right HZ.out) (Srt.of_right HW.out), B1, B2, d1, d2, a4.size, block_lt hnew, ?_, ?_, r1, r2, l1, l2, Srt.of_right HZ.out, Srt.of_right HW.out, fun a h => Nat.le_trans a2.size (hf1 a h), fun a h => Nat.le_trans a3.size (hf2 a h)⟩
  · rw [cell_of_row _ _ 0 _ _ _ hnew]; rfl
  · rw [cell_of_row _ _ 1 _ _ _ hnew]; rfl
end Go.Proofs.YtapamkefcfnbpaaDoor
