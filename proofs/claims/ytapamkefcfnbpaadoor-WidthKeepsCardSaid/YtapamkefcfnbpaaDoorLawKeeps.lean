/- The walk of the law that a table keeps nothing of what it was made of. -/
import Derived.Test.YtapamkefcfnbpaaDoorNew
import Derived.Test.YtapamkefcfnbpaaDoorThree
import Derived.Laws.AppendOwnNone
namespace Go.Proofs.YtapamkefcfnbpaaDoor
open Go.RowKit
/-- The row of the call's own that is written: so many cells, none of them frozen. -/
def Mine (w : World) (g m : Nat) : Prop := ∃ cur : Array Value, w.heap[g]? = some (.cells cur 51 (0, 0)) ∧ cur.size = m
theorem Mine.cell {w : World} {g m : Nat} (h : Mine w g m) {i : Nat} (hi : i < m) : ∃ v, w.cell? ⟨g, i, none⟩ = some v := by
  obtain ⟨cur, hc, hs⟩ := h
  exact ⟨cur[i], by rw [cell_of_row w g i cur _ _ hc]; exact Array.getElem?_eq_getElem (by omega)⟩
theorem Mine.frozen {w : World} {g m : Nat} (h : Mine w g m) (i : Nat) : w.frozen? ⟨g, i, none⟩ = false := by
  obtain ⟨cur, hc, hs⟩ := h
  simp [World.frozen?, hc]
theorem Mine.set_ {w : World} {g m : Nat} (h : Mine w g m) (i : Nat) (v : Value) : Mine (w.setCell ⟨g, i, none⟩ v) g m := by
  obtain ⟨cur, hc, hs⟩ := h
  exact ⟨cur.setIfInBounds i v, by simp [World.setCell, Array.getElem?_modify, hc], by simpa using hs⟩
theorem Mine.below {w w' : World} {g m : Nat} (h : Mine w g m) (hb : Below w.heap.size w w') : Mine w' g m := by
  obtain ⟨cur, hc, hs⟩ := h
  exact ⟨cur, (hb.block g (block_lt hc)).trans hc, hs⟩
theorem Mine.lt {w : World} {g m : Nat} (h : Mine w g m) : g < w.heap.size := by
  obtain ⟨cur, hc, hs⟩ := h
  exact block_lt hc
theorem cell_set_far (w : World) (g i : Nat) (v : Value) (b o : Nat) (h : g ≠ b) : (w.setCell ⟨g, i, none⟩ v).cell? ⟨b, o, none⟩ = w.cell? ⟨b, o, none⟩ :=
  World.cell?_setCell_other w ⟨g, i, none⟩ ⟨b, o, none⟩ v (fun e => h (by injection e))
/-- The row of the call's own behind a slice, where it has an element. -/
def OwnRow (w : World) (B : Option Addr) (n d base top : Nat) : Prop := 0 < n → ∃ g, B = some ⟨g, 0, none⟩ ∧ base ≤ g ∧ g < top ∧ n ≤ d ∧ Mine w g (d * 2)
theorem OwnRow.of_own {w : World} {base n d : Nat} {B : Option Addr} {xs : List Value} (h : w.ownsRow base 51 2 (.slice B n d) n xs) : OwnRow w B n d base w.heap.size := by
  intro hn
  rcases h.2 with ⟨hv, hn0⟩ | ⟨g, cap, cur, hv, hbg, hh, hnc, _, hsz, _⟩
  · omega
  · injection hv with e1 e2 e3
    subst e1; subst e3
    exact ⟨g, rfl, hbg, block_lt hh, hnc, cur, hh, hsz⟩
theorem OwnRow.below {w w' : World} {B : Option Addr} {n d base top : Nat} (h : OwnRow w B n d base top) (hb : Below w.heap.size w w') : OwnRow w' B n d base top := by
  intro hn
  obtain ⟨g, e, h1, h2, h3, h4⟩ := h hn
  exact ⟨g, e, h1, h2, h3, h4.below hb⟩
theorem append_none {w : World} {n : Nat} {rs : List (Int × Int)} (h : RngAt w none rs) (hl : rs.length = n) : n = 0 ∧ rs = [] := by
  rcases Nat.eq_zero_or_pos n with h0 | h0
  · exact ⟨h0, List.eq_nil_of_length_eq_zero (by omega)⟩
  · obtain ⟨_, _, e, _⟩ := h (by omega)
    cases e
set_option maxHeartbeats 2000000 in
set_option maxRecDepth 100000 in
theorem widthKeeps_some (a : Addr) (A2 : Option Addr) (n1 n2 c1 c2 : Nat) (zs ws : List (Int × Int)) (r : Int) (w : World) (h : Tabs w) (hA1 : RngAt w (some a) zs) (hA2 : RngAt w A2 ws) (hl1 : zs.length = n1) (hl2 : ws.length = n2)
    (h1 : n1 ≤ 1000) (h2 : n2 ≤ 1000) :
    Calls Tryd.prog 12 #[.slice (some a) n1 c1, .slice A2 n2 c2, .int .i32 r] w fun e w' => e = .returned (.bool true) ∧ Below w.heap.size w w' := by
    obtain ⟨i0, hi0, hz0, hz1, hz2⟩ := info_parts range_info
    have H := Lib.hid h; clear h
    have HL1 := Lib.hid hl1; clear hl1
    have HL2 := Lib.hid hl2; clear hl2
    have HA1 := Lib.hid hA1; clear hA1
    have HA2 := Lib.hid hA2; clear hA2
    go_enter Tryd.func12, Tryd.ntmps12
    go_wp2_with (at_builtin; refine wpList_append_own _ rfl (.tmp 21) (.tmp 22) _ rfl w.heap.size 51 i0 _ 2 8 Tryd.underlying39 hi0 hz0 hz1 hz2 rfl (by omega) (.slice none 0 0) 0 [] rfl (World.ownsRow_nil _ _ _ _) a n1 c1 (flat zs) rfl (by rw [flat_length, HL1.out]) HA1.out.news (flat_one zs) (by simp only [maxLen]; omega) (by omega) (Nat.le_refl _) ?_; intro V1 W1 hown1 hg1 hnil1; clear hnil1)
    have hbw : Below w.heap.size w W1 := (Below.refl _ _).grown hg1 (Nat.le_refl _) (fun k hk => by simp [Value.ownBlock] at hk)
    rw [Nat.zero_add, List.nil_append] at hown1
    obtain ⟨B1, d1, rfl, hB1, _, _⟩ := RngAt.of_own hown1
    have hO1 := OwnRow.of_own hown1
    clear hown1 hg1
    go_wp2_with fail
    by_cases g : 200 < n1 ∨ 200 < n2
    · refine (new_long B1 A2 n1 n2 d1 c2 _ (by omega) (by omega) g).mono ?_
      rintro e w2 ⟨rfl, hb2⟩
      have a2 := hbw.trans (hb2.mono hbw.size)
      go_wp2_with fail
      refine (three_any _ (H.out.below a2)).mono ?_
      rintro e w3 ⟨rfl, hb3⟩
      go_wp2_with fail
      go_ret
      exact ⟨rfl, a2.trans (hb3.mono a2.size)⟩
    · have g1 : n1 ≤ 200 := by omega
      have g2 : n2 ≤ 200 := by omega
      cases hr : (rightB zs && rightB ws)
      · refine (new_form B1 A2 n1 n2 d1 c2 zs ws _ hB1 (HA2.out.below hbw) HL1.out HL2.out g1 g2 hr).mono ?_
        rintro e w2 ⟨rfl, hb2⟩
        clear hr
        have a2 := hbw.trans (hb2.mono hbw.size)
        go_wp2_with fail
        refine (three_any _ (H.out.below a2)).mono ?_
        rintro e w3 ⟨rfl, hb3⟩
        go_wp2_with fail
        go_ret
        exact ⟨rfl, a2.trans (hb3.mono a2.size)⟩
      · rw [Bool.and_eq_true] at hr
        refine (new_ok B1 A2 n1 n2 d1 c2 zs ws _ hB1 (HA2.out.below hbw) HL1.out HL2.out g1 g2 hr.1 hr.2).mono ?_
        rintro e w2 ⟨tb, rfl, hb2, _, _, hT2⟩
        clear hr
        have a2 := hbw.trans (hb2.mono hbw.size)
        have HT2 := Lib.hid hT2; clear hT2
        have HO2 := Lib.hid (hO1.below hb2)
        have htop : W1.heap.size ≤ w2.heap.size := hb2.size
        generalize W1.heap.size = top at *
        clear hb2
        go_wp2_with fail
        refine (of_any tb zs ws r _ HT2.out.at_).mono ?_
        rintro e w3 ⟨rfl, hb3⟩
        have a3 := a2.trans (hb3.mono a2.size)
        have HT3 := Lib.hid (HT2.out.below hb3)
        have HO3 := Lib.hid (HO2.out.below hb3)
        clear HT2 HO2 hb3 a2
        go_wp2
        go_loopg [11, 50] n1 (fun k x i wr => ∃ j : Nat, i = .int .i64 j ∧ j ≤ n1 ∧ n1 - j ≤ k ∧ Below w.heap.size w wr ∧ TabFrom wr top tb zs ws ∧ OwnRow wr B1 n1 d1 w.heap.size top)
        case atStart => exact ⟨0, rfl, by omega, by omega, a3, HT3.out, HO3.out⟩
        case round =>
          obtain ⟨j, rfl, i1, i2, hb, hT, hO⟩ := hrel
          by_cases hlt : j < n1
          · obtain ⟨g, rfl, o1, o2, o3, hM⟩ := hO (by omega)
            obtain ⟨v0, k0⟩ := hM.cell (i := j * 2) (by omega)
            obtain ⟨v1, k1⟩ := (hM.set_ (j * 2) (.int .i32 r)).cell (i := j * 2 + 1) (by omega)
            have f0 := hM.frozen (j * 2)
            have f1 := (hM.set_ (j * 2) (.int .i32 r)).frozen (j * 2 + 1)
            have hM2 := (hM.set_ (j * 2) (.int .i32 r)).set_ (j * 2 + 1) (.int .i32 r)
            have HM2 := Lib.hid hM2; clear hM2
            go_wp2
            go_roundg (gk - 1)
            case measure => omega
            case rel =>
              exact ⟨j + 1, by go_num, by omega, by omega, (hb.setCell (p := ⟨g, j * 2, none⟩) o1 _).setCell (p := ⟨g, j * 2 + 1, none⟩) o1 _,
                hT.far (by simp [World.setCell]) (fun b o hbo => (cell_set_far _ g _ _ b o (by omega)).trans (cell_set_far _ g _ _ b o (by omega))), fun _ => ⟨g, rfl, o1, o2, o3, HM2.out⟩⟩
          · have HT := Lib.hid hT; clear hT
            go_wp2_with fail
            refine (of_any tb zs ws r _ HT.out.at_).mono ?_
            rintro e w5 ⟨rfl, hb5⟩
            have a5 := hb.trans (hb5.mono hb.size)
            go_wp2_with fail
            refine (three_any _ (H.out.below a5)).mono ?_
            rintro e w6 ⟨rfl, hb6⟩
            go_wp2_with fail
            go_ret
            exact ⟨rfl, a5.trans (hb6.mono a5.size)⟩
set_option maxHeartbeats 2000000 in
set_option maxRecDepth 100000 in
theorem widthKeeps_none (A2 : Option Addr) (n1 n2 c2 : Nat) (zs ws : List (Int × Int)) (r : Int) (w : World) (h : Tabs w) (hA1 : RngAt w none zs) (hA2 : RngAt w A2 ws) (hl1 : zs.length = n1) (hl2 : ws.length = n2)
    (h1 : n1 ≤ 1000) (h2 : n2 ≤ 1000) :
    Calls Tryd.prog 12 #[.slice none n1 0, .slice A2 n2 c2, .int .i32 r] w fun e w' => e = .returned (.bool true) ∧ Below w.heap.size w w' := by
    obtain ⟨i0, hi0, hz0, hz1, hz2⟩ := info_parts range_info
    have H := Lib.hid h; clear h
    have HL1 := Lib.hid hl1; clear hl1
    have HL2 := Lib.hid hl2; clear hl2
    obtain ⟨hn0, hzs⟩ := append_none hA1 HL1.out
    subst hn0
    have HA2 := Lib.hid hA2; clear hA2
    have hB1 := hA1
    go_enter Tryd.func12, Tryd.ntmps12
    go_wp2_with (at_builtin; refine wpList_append_own_none rfl (.tmp 21) (.tmp 22) _ rfl w.heap.size 51 i0 2 Tryd.underlying39 hi0 (.slice none 0 0) 0 [] rfl (World.ownsRow_nil _ _ _ _) rfl ?_)
    have hbw := Below.refl w.heap.size w
    have hO1 : OwnRow w none 0 0 w.heap.size w.heap.size := fun h => absurd h (by omega)
    go_wp2_with fail
    by_cases g : 200 < 0 ∨ 200 < n2
    · refine (new_long none A2 0 n2 0 c2 _ (by omega) (by omega) g).mono ?_
      rintro e w2 ⟨rfl, hb2⟩
      have a2 := hbw.trans (hb2.mono hbw.size)
      go_wp2_with fail
      refine (three_any _ (H.out.below a2)).mono ?_
      rintro e w3 ⟨rfl, hb3⟩
      go_wp2_with fail
      go_ret
      exact ⟨rfl, a2.trans (hb3.mono a2.size)⟩
    · have g1 : (0 : Nat) ≤ 200 := by omega
      have g2 : n2 ≤ 200 := by omega
      cases hr : (rightB zs && rightB ws)
      · refine (new_form none A2 0 n2 0 c2 zs ws _ hB1 (HA2.out.below hbw) HL1.out HL2.out g1 g2 hr).mono ?_
        rintro e w2 ⟨rfl, hb2⟩
        clear hr
        have a2 := hbw.trans (hb2.mono hbw.size)
        go_wp2_with fail
        refine (three_any _ (H.out.below a2)).mono ?_
        rintro e w3 ⟨rfl, hb3⟩
        go_wp2_with fail
        go_ret
        exact ⟨rfl, a2.trans (hb3.mono a2.size)⟩
      · rw [Bool.and_eq_true] at hr
        refine (new_ok none A2 0 n2 0 c2 zs ws _ hB1 (HA2.out.below hbw) HL1.out HL2.out g1 g2 hr.1 hr.2).mono ?_
        rintro e w2 ⟨tb, rfl, hb2, _, _, hT2⟩
        clear hr
        have a2 := hbw.trans (hb2.mono hbw.size)
        have HT2 := Lib.hid hT2; clear hT2
        have HO2 := Lib.hid (hO1.below hb2)
        have htop : w.heap.size ≤ w2.heap.size := hb2.size
        clear hb2
        go_wp2_with fail
        refine (of_any tb zs ws r _ HT2.out.at_).mono ?_
        rintro e w3 ⟨rfl, hb3⟩
        have a3 := a2.trans (hb3.mono a2.size)
        have HT3 := Lib.hid (HT2.out.below hb3)
        have HO3 := Lib.hid (HO2.out.below hb3)
        clear HT2 HO2 hb3 a2
        go_wp2
        go_loopg [11, 50] 0 (fun k x i wr => ∃ j : Nat, i = .int .i64 j ∧ j ≤ 0 ∧ 0 - j ≤ k ∧ Below w.heap.size w wr ∧ TabFrom wr w.heap.size tb zs ws ∧ OwnRow wr none 0 0 w.heap.size w.heap.size)
        case atStart => exact ⟨0, rfl, by omega, by omega, a3, HT3.out, HO3.out⟩
        case round =>
          obtain ⟨j, rfl, i1, i2, hb, hT, hO⟩ := hrel
          by_cases hlt : j < 0
          · exact absurd hlt (by omega)
          · have HT := Lib.hid hT; clear hT
            go_wp2_with fail
            refine (of_any tb zs ws r _ HT.out.at_).mono ?_
            rintro e w5 ⟨rfl, hb5⟩
            have a5 := hb.trans (hb5.mono hb.size)
            go_wp2_with fail
            refine (three_any _ (H.out.below a5)).mono ?_
            rintro e w6 ⟨rfl, hb6⟩
            go_wp2_with fail
            go_ret
            exact ⟨rfl, a5.trans (hb6.mono a5.size)⟩
set_option maxHeartbeats 400000 in
theorem widthKeeps_out (A1 A2 : Option Addr) (n1 n2 c1 c2 : Nat) (r : Int) (w : World) (h : Tabs w) (h1 : n1 ≤ maxLen) (h2 : n2 ≤ maxLen) (ho : 1000 < n1 ∨ 1000 < n2) :
    Calls Tryd.prog 12 #[.slice A1 n1 c1, .slice A2 n2 c2, .int .i32 r] w fun e w' => e = .returned (.bool true) ∧ Below w.heap.size w w' := by
  unfold maxLen at h1 h2
  have H := Lib.hid h; clear h
  by_cases g1 : 1000 < n1
  all_goals try have g2 : 1000 < n2 := by omega
  all_goals
    go_enter Tryd.func12, Tryd.ntmps12
    go_wp2_with fail
    refine (three_any _ H.out).mono ?_
    rintro e w1 ⟨rfl, hb1⟩
    go_wp2_with fail
    go_ret
    exact ⟨rfl, hb1⟩
theorem widthKeeps_walk (A1 : Option Addr) (n1 c1 : Nat) (zs : List (Int × Int)) (A2 : Option Addr) (n2 c2 : Nat) (ws : List (Int × Int)) (r : Int) (w : World) (h : Tabs w) (hA1 : RngAt w A1 zs) (hl1 : zs.length = n1) (hn1 : n1 ≤ maxLen) (hc1 : Caps A1 n1 c1)
    (_ : ∀ x ∈ zs, (Lit.int .i32 x.1).wf = true ∧ (Lit.int .i32 x.2).wf = true) (hA2 : RngAt w A2 ws) (hl2 : ws.length = n2) (hn2 : n2 ≤ maxLen) (_ : Caps A2 n2 c2) (_ : ∀ x ∈ ws, (Lit.int .i32 x.1).wf = true ∧ (Lit.int .i32 x.2).wf = true) (_ : (Lit.int .i32 r).wf = true) :
    Calls Tryd.prog 12 #[.slice A1 n1 c1, .slice A2 n2 c2, .int .i32 r] w fun e w' => e = .returned (.bool true) ∧ Below w.heap.size w w' := by
  by_cases g : 1000 < n1 ∨ 1000 < n2
  · exact widthKeeps_out A1 A2 n1 n2 c1 c2 r w h hn1 hn2 g
  · rcases A1 with _ | a
    · obtain rfl := hc1.2 rfl
      exact widthKeeps_none A2 n1 n2 c2 zs ws r w h hA1 hA2 hl1 hl2 (by omega) (by omega)
    · exact widthKeeps_some a A2 n1 n2 c1 c2 zs ws r w h hA1 hA2 hl1 hl2 (by omega) (by omega)
end Go.Proofs.YtapamkefcfnbpaaDoor
