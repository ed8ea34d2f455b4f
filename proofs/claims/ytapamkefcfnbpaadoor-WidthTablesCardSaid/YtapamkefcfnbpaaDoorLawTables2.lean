/- The walk of the law on tables of widths, where there is a table. -/
import Derived.Test.YtapamkefcfnbpaaDoorLawTables
namespace Go.Proofs.YtapamkefcfnbpaaDoor
open Go.RowKit
set_option maxHeartbeats 400000 in
theorem widthTables_out (A1 A2 : Option Addr) (n1 n2 c1 c2 : Nat) (r : Int) (w : World) (h : Tabs w) (h1 : n1 ≤ maxLen) (h2 : n2 ≤ maxLen) (ho : 1000 < n1 ∨ 1000 < n2) :
    Calls Tryd.prog 9 #[.slice A1 n1 c1, .slice A2 n2 c2, .int .i32 r] w fun e w' => e = .returned (.bool true) ∧ Below w.heap.size w w' := by
  unfold maxLen at h1 h2
  have H := Lib.hid h; clear h
  by_cases g1 : 1000 < n1
  all_goals try have g2 : 1000 < n2 := by omega
  all_goals
    go_enter Tryd.func9, Tryd.ntmps9
    go_wp2_with fail
    refine (three_any _ H.out).mono ?_
    rintro e w1 ⟨rfl, hb1⟩
    go_wp2_with fail
    go_ret
    exact ⟨rfl, hb1⟩
set_option maxHeartbeats 4000000 in
set_option maxRecDepth 100000 in
theorem widthTables_ok (A1 A2 : Option Addr) (n1 n2 c1 c2 : Nat) (zs ws : List (Int × Int)) (r : Int) (w : World) (h : Tabs w) (hA1 : RngAt w A1 zs) (hA2 : RngAt w A2 ws) (hl1 : zs.length = n1) (hl2 : ws.length = n2)
    (h1 : n1 ≤ 200) (h2 : n2 ≤ 200) (hz : rightB zs = true) (hw : rightB ws = true) :
    Calls Tryd.prog 9 #[.slice A1 n1 c1, .slice A2 n2 c2, .int .i32 r] w fun e w' => e = .returned (.bool true) ∧ Below w.heap.size w w' := by
  have H := Lib.hid h; clear h
  have HL1 := Lib.hid hl1; clear hl1
  have HL2 := Lib.hid hl2; clear hl2
  have HZ := Lib.hid hz; clear hz
  have HW := Lib.hid hw; clear hw
  have HA1 := Lib.hid hA1; clear hA1
  have HA2 := Lib.hid hA2; clear hA2
  go_enter Tryd.func9, Tryd.ntmps9
  go_wp2_with fail
  refine (new_ok A1 A2 n1 n2 c1 c2 zs ws _ HA1.out HA2.out HL1.out HL2.out h1 h2 HZ.out HW.out).mono ?_
  rintro e w1 ⟨tb, rfl, hb1, htb, ht1, _⟩
  go_wp2_with fail
  refine (refs_any A1 n1 c1 zs _ (HA1.out.below hb1) HL1.out (by omega)).mono ?_
  rintro e w2 ⟨B1, d1, rfl, hb2, hB1⟩
  go_wp2_with fail
  refine (refs_any A2 n2 c2 ws _ ((HA2.out.below hb1).below hb2) HL2.out (by omega)).mono ?_
  rintro e w3 ⟨B2, d2, rfl, hb3, hB2⟩
  have a2 := hb1.trans (hb2.mono hb1.size)
  have a3 := a2.trans (hb3.mono a2.size)
  have a4 := a3.alloc a3.size (.cells #[.slice B1 n1 d1, .slice B2 n2 d2] 48)
  have b4 := (Below.refl w3.heap.size w3).alloc (Nat.le_refl _) (.cells #[.slice B1 n1 d1, .slice B2 n2 d2] 48)
  have HT4 := Lib.hid (((ht1.below hb2).below hb3).below b4)
  have HR4 : Hid (RTab (w3.alloc (.cells #[.slice B1 n1 d1, .slice B2 n2 d2] 48)) w3.heap.size zs ws) :=
    Lib.hid (RTab.of_block (t := 48) (A1 := B1) (A2 := B2) (c1 := d1) (c2 := d2) (by rw [HL1.out, HL2.out]; exact heap_alloc_new w3 _) ((hB1.below hb3).below b4) (hB2.below b4) (by rw [HL1.out]; omega) (by rw [HL2.out]; omega))
  go_wp2_with fail
  refine (rright_any B1 n1 d1 zs _ ((hB1.below hb3).below b4) HL1.out (by omega)).mono ?_
  rintro e w5 ⟨rfl, hb5⟩
  rw [HZ.out]
  have a5 := a4.trans (hb5.mono a4.size)
  obtain ⟨hc5, hf5⟩ := old_cells hb5
  have hz5 : w3.heap.size < (w3.alloc (.cells #[.slice B1 n1 d1, .slice B2 n2 d2] 48)).heap.size := by simp
  go_wp2_with fail
  refine (rright_any B2 n2 d2 ws _ ((hB2.below b4).below hb5) HL2.out (by omega)).mono ?_
  rintro e w7 ⟨rfl, hb7⟩
  rw [HW.out]
  have a7 := a5.trans (hb7.mono a5.size)
  have HT7 := Lib.hid ((HT4.out.below hb5).below hb7)
  have HR7 := Lib.hid ((HR4.out.below hb5).below hb7)
  clear HT4 HR4 hc5 hf5 hz5
  go_wp2_with fail
  refine (of_any tb zs ws r _ HT7.out).mono ?_
  rintro e w8 ⟨rfl, hb8⟩
  go_wp2_with fail
  refine (rof_any w3.heap.size zs ws r _ (HR7.out.below hb8)).mono ?_
  rintro e w9 ⟨rfl, hb9⟩
  have a8 := a7.trans (hb8.mono a7.size)
  have a9 := a8.trans (hb9.mono a8.size)
  have HT9 := Lib.hid ((HT7.out.below hb8).below hb9)
  have HR9 := Lib.hid ((HR7.out.below hb8).below hb9)
  clear HT7 HR7
  go_wp2_with fail
  clear a2 a3 a4 b4 a5 a7 a8 htb ht1
  go_loopg [92] n1 (fun k i wr => ∃ j : Nat, i = .int .i64 j ∧ j ≤ n1 ∧ n1 - j ≤ k ∧ Below w9.heap.size w9 wr)
  case atStart => exact ⟨0, rfl, by omega, by omega, Below.refl _ _⟩
  case round =>
    obtain ⟨j, rfl, i1, i2, hb⟩ := hrel
    by_cases hlt : j < n1
    · have hm : j < zs.length := by rw [HL1.out]; omega
      obtain ⟨b, off, rfl, hbs, hc⟩ := (HA1.out.below a9) (by omega)
      obtain ⟨q1, q2⟩ := hc _ hm
      clear hc
      obtain ⟨H1, H2⟩ := old_cells hb
      have HM := Lib.hid hm; clear hm
      go_wp2
      have hS : RS wr.heap.size (rlo zs j) (rhi zs j) wr (wr.alloc (.cells #[.int .i32 (rlo zs j), .int .i32 (rhi zs j)] 51)) := RS.new wr _ _ _
      go_region_held3 (fun W' => W'.cell? ⟨wr.heap.size, 0, none⟩ = some (.int .i32 (rlo zs j)) ∧ W'.cell? ⟨wr.heap.size, 1, none⟩ = some (.int .i32 (rhi zs j)) ∧ RS wr.heap.size (rlo zs j) (rhi zs j) wr W') (first | exact RS.all (RS.drew hS) | exact RS.again ‹_› ‹_›) (first
        | (go_at_call 32; refine (of_any tb zs ws _ _ ?_).mono ?_; exact TabAt.below (HT9.out.below hb) (RS.bel ‹_›); rintro e w2 ⟨rfl, hb2⟩)
        | (go_at_call 33; refine (rof_any w3.heap.size zs ws _ _ ?_).mono ?_; exact RTab.below (HR9.out.below hb) (RS.bel ‹_›); rintro e w2 ⟨rfl, hb2⟩))
      go_wp2
      go_roundg (gk - 1)
      case measure => omega
      case rel => exact ⟨j + 1, by go_num, by omega, by omega, hb.trans ((RS.bel ‹_›).mono hb.size)⟩
    · have hT10 := HT9.out.below hb
      have hR10 := HR9.out.below hb
      have a10 := a9.trans (hb.mono a9.size)
      clear HT9 HR9 a9
      have HT9 := Lib.hid hT10; clear hT10
      have HR9 := Lib.hid hR10; clear hR10
      obtain ⟨wq, rfl⟩ : ∃ wq : World, wq = wr := ⟨_, rfl⟩
      clear hb
      go_wp2
      go_loopg [119] n2 (fun k i wr => ∃ j : Nat, i = .int .i64 j ∧ j ≤ n2 ∧ n2 - j ≤ k ∧ Below wq.heap.size wq wr)
      case atStart => exact ⟨0, rfl, by omega, by omega, Below.refl _ _⟩
      case round =>
        obtain ⟨j, rfl, i1, i2, hb⟩ := hrel
        by_cases hlt : j < n2
        · have hm : j < ws.length := by rw [HL2.out]; omega
          obtain ⟨b, off, rfl, hbs, hc⟩ := (HA2.out.below a10) (by omega)
          obtain ⟨q1, q2⟩ := hc _ hm
          clear hc
          obtain ⟨H1, H2⟩ := old_cells hb
          have HM := Lib.hid hm; clear hm
          go_wp2
          have hS : RS wr.heap.size (rlo ws j) (rhi ws j) wr (wr.alloc (.cells #[.int .i32 (rlo ws j), .int .i32 (rhi ws j)] 51)) := RS.new wr _ _ _
          go_region_held3 (fun W' => W'.cell? ⟨wr.heap.size, 0, none⟩ = some (.int .i32 (rlo ws j)) ∧ W'.cell? ⟨wr.heap.size, 1, none⟩ = some (.int .i32 (rhi ws j)) ∧ RS wr.heap.size (rlo ws j) (rhi ws j) wr W') (first | exact RS.all (RS.drew hS) | exact RS.again ‹_› ‹_›) (first
            | (go_at_call 32; refine (of_any tb zs ws _ _ ?_).mono ?_; exact TabAt.below (HT9.out.below hb) (RS.bel ‹_›); rintro e w2 ⟨rfl, hb2⟩)
            | (go_at_call 33; refine (rof_any w3.heap.size zs ws _ _ ?_).mono ?_; exact RTab.below (HR9.out.below hb) (RS.bel ‹_›); rintro e w2 ⟨rfl, hb2⟩))
          go_wp2
          go_roundg (gk - 1)
          case measure => omega
          case rel => exact ⟨j + 1, by go_num, by omega, by omega, hb.trans ((RS.bel ‹_›).mono hb.size)⟩
        · go_wp2_with fail
          refine (three_any _ ((H.out.below a10).below hb)).mono ?_
          rintro e w12 ⟨rfl, hb12⟩
          go_wp2_with fail
          go_ret
          have a11 := a10.trans (hb.mono a10.size)
          exact ⟨rfl, a11.trans (hb12.mono a11.size)⟩
theorem widthTables_walk (A1 : Option Addr) (n1 c1 : Nat) (zs : List (Int × Int)) (A2 : Option Addr) (n2 c2 : Nat) (ws : List (Int × Int)) (r : Int) (w : World) (h : Tabs w) (hA1 : RngAt w A1 zs) (hl1 : zs.length = n1) (hn1 : n1 ≤ maxLen) (_ : Caps A1 n1 c1)
    (_ : ∀ x ∈ zs, (Lit.int .i32 x.1).wf = true ∧ (Lit.int .i32 x.2).wf = true) (hA2 : RngAt w A2 ws) (hl2 : ws.length = n2) (hn2 : n2 ≤ maxLen) (_ : Caps A2 n2 c2) (_ : ∀ x ∈ ws, (Lit.int .i32 x.1).wf = true ∧ (Lit.int .i32 x.2).wf = true) (_ : (Lit.int .i32 r).wf = true) :
    Calls Tryd.prog 9 #[.slice A1 n1 c1, .slice A2 n2 c2, .int .i32 r] w fun e w' => e = .returned (.bool true) ∧ Below w.heap.size w w' := by
  by_cases g : 1000 < n1 ∨ 1000 < n2
  · exact widthTables_out A1 A2 n1 n2 c1 c2 r w h hn1 hn2 g
  · by_cases g' : 200 < n1 ∨ 200 < n2
    · exact widthTables_long A1 A2 n1 n2 c1 c2 zs ws r w h hA1 hA2 hl1 hl2 (by omega) (by omega) g'
    · cases hr : (rightB zs && rightB ws)
      · exact widthTables_form A1 A2 n1 n2 c1 c2 zs ws r w h hA1 hA2 hl1 hl2 (by omega) (by omega) hr
      · rw [Bool.and_eq_true] at hr
        exact widthTables_ok A1 A2 n1 n2 c1 c2 zs ws r w h hA1 hA2 hl1 hl2 (by omega) (by omega) hr.1 hr.2
end Go.Proofs.YtapamkefcfnbpaaDoor
