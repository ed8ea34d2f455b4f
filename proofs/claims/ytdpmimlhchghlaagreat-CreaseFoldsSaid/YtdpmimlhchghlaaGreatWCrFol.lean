/- Creases: the law CreaseFolds, walked. -/
import Derived.Test.YtdpmimlhchghlaaGreatCrW
import Derived.Test.YtdpmimlhchghlaaGreatCrX
import Derived.Test.YtdpmimlhchghlaaGreatTxO
import Derived.Test.YtdpmimlhchghlaaGreatFoS
import Derived.Test.YtdpmimlhchghlaaGreatFoO
namespace Go.Proofs.YtdpmimlhchghlaaGreat
open Go.RowKit Go.Sort
set_option linter.unusedVariables false
/-- What is hidden: its spans are apart, in order; what is in one is in a fold; each fold is in one. -/
structure HidOk16 (p h : List Fo) : Prop where
  lt : ∀ x ∈ h, x.f < x.t
  ap : h.Pairwise (fun a b => a.t ≤ b.f)
  cov : ∀ x ∈ h, ∀ a : Int, x.f ≤ a → a < x.t → ∃ y ∈ p, y.f ≤ a ∧ a < y.t
  inn : ∀ y ∈ p, ∃ x ∈ h, x.f ≤ y.f ∧ y.t ≤ x.t
  src : ∀ x ∈ h, ∃ y ∈ p, y.f = x.f
theorem hidOk16 : ∀ (n : Nat) (o : List Fo), o.length = n → FGood o → HidOk16 o (hidL o) := by
  intro n
  induction n with
  | zero =>
    intro o h _
    obtain rfl := List.eq_nil_of_length_eq_zero h
    exact ⟨fun x hx => by simp [hidL] at hx, by simp [hidL], fun x hx => by simp [hidL] at hx, fun x hx => by simp at hx, fun x hx => by simp [hidL] at hx⟩
  | succ n ih =>
    intro o h hg
    have h0 : o ≠ [] := fun e => by rw [e] at h; simp at h
    obtain ⟨c, x, rfl⟩ : ∃ c x, o = c ++ [x] := ⟨o.dropLast, o.getLast h0, (List.dropLast_concat_getLast h0).symm⟩
    have hc : c.length = n := by simpa using h
    have e : hidL (c ++ [x]) = hstep (hidL c) x := by unfold hidL; rw [List.foldl_append]; rfl
    have hgc : FGood c := ⟨fun y hy => hg.lt y (List.mem_append_left _ hy), (List.pairwise_append.1 hg.srt).1⟩
    have hle : ∀ y ∈ c, y.f ≤ x.f := fun y hy => (List.pairwise_append.1 hg.srt).2.2 y hy x (by simp)
    have hxt : x.f < x.t := hg.lt x (by simp)
    have H := ih c hc hgc
    rw [e]
    by_cases hc0 : c = []
    · subst hc0
      have e2 : hstep (hidL []) x = [x] := rfl
      rw [e2]
      refine ⟨fun y hy => ?_, by simp, fun y hy a h1 h2 => ⟨x, by simp, ?_⟩, fun y hy => ⟨x, by simp, ?_⟩, fun y hy => ⟨x, by simp, ?_⟩⟩
      · rw [List.mem_singleton.1 hy]; exact hxt
      · rw [List.mem_singleton.1 hy] at h1 h2; exact ⟨h1, h2⟩
      · have : y = x := by simpa using hy
        rw [this]; exact ⟨Int.le_refl _, Int.le_refl _⟩
      · rw [List.mem_singleton.1 hy]
    · obtain ⟨L, z, h1, _, _⟩ := hid_split _ c rfl hc0
      rw [h1] at H ⊢
      have hzt := H.lt z (by simp)
      have hzx : z.f ≤ x.f := by
        obtain ⟨y, hy, e3⟩ := H.src z (by simp)
        rw [← e3]; exact hle y hy
      have hap := List.pairwise_append.1 H.ap
      by_cases g : x.f < z.t
      · rw [hstep_in _ _ _ g]
        refine ⟨fun y hy => ?_, ?_, fun y hy a h2 h3 => ?_, fun y hy => ?_, fun y hy => ?_⟩
        · rcases List.mem_append.1 hy with hy | hy
          · exact H.lt y (List.mem_append_left _ hy)
          · rw [List.mem_singleton.1 hy]; simp only; omega
        · refine List.pairwise_append.2 ⟨hap.1, by simp, fun a ha b hb => ?_⟩
          rw [List.mem_singleton.1 hb]
          exact hap.2.2 a ha z (by simp)
        · rcases List.mem_append.1 hy with hy | hy
          · obtain ⟨y', m1, m2⟩ := H.cov y (List.mem_append_left _ hy) a h2 h3
            exact ⟨y', List.mem_append_left _ m1, m2⟩
          · rw [List.mem_singleton.1 hy] at h2 h3
            simp only at h2 h3
            by_cases g2 : a < z.t
            · obtain ⟨y', m1, m2⟩ := H.cov z (by simp) a h2 g2
              exact ⟨y', List.mem_append_left _ m1, m2⟩
            · exact ⟨x, by simp, by omega, by omega⟩
        · rcases List.mem_append.1 hy with hy | hy
          · obtain ⟨x', m1, m2, m3⟩ := H.inn y hy
            rcases List.mem_append.1 m1 with m1 | m1
            · exact ⟨x', List.mem_append_left _ m1, m2, m3⟩
            · rw [List.mem_singleton.1 m1] at m2 m3
              exact ⟨⟨z.f, max z.t x.t⟩, by simp, m2, by simp only; omega⟩
          · have : y = x := by simpa using hy
            rw [this]
            exact ⟨⟨z.f, max z.t x.t⟩, by simp, hzx, by simp only; omega⟩
        · rcases List.mem_append.1 hy with hy | hy
          · obtain ⟨y', m1, m2⟩ := H.src y (List.mem_append_left _ hy)
            exact ⟨y', List.mem_append_left _ m1, m2⟩
          · obtain ⟨y', m1, m2⟩ := H.src z (by simp)
            rw [List.mem_singleton.1 hy]
            exact ⟨y', List.mem_append_left _ m1, m2⟩
      · rw [hstep_out _ _ _ g]
        refine ⟨fun y hy => ?_, ?_, fun y hy a h2 h3 => ?_, fun y hy => ?_, fun y hy => ?_⟩
        · rcases List.mem_append.1 hy with hy | hy
          · exact H.lt y hy
          · rw [List.mem_singleton.1 hy]; exact hxt
        · refine List.pairwise_append.2 ⟨H.ap, by simp, fun a ha b hb => ?_⟩
          rw [List.mem_singleton.1 hb]
          rcases List.mem_append.1 ha with ha | ha
          · have := hap.2.2 a ha z (by simp)
            omega
          · rw [List.mem_singleton.1 ha]; omega
        · rcases List.mem_append.1 hy with hy | hy
          · obtain ⟨y', m1, m2⟩ := H.cov y hy a h2 h3
            exact ⟨y', List.mem_append_left _ m1, m2⟩
          · rw [List.mem_singleton.1 hy] at h2 h3
            exact ⟨x, by simp, h2, h3⟩
        · rcases List.mem_append.1 hy with hy | hy
          · obtain ⟨x', m1, m2⟩ := H.inn y hy
            exact ⟨x', List.mem_append_left _ m1, m2⟩
          · have : y = x := by simpa using hy
            rw [this]
            exact ⟨x, by simp, Int.le_refl _, Int.le_refl _⟩
        · rcases List.mem_append.1 hy with hy | hy
          · obtain ⟨y', m1, m2⟩ := H.src y hy
            exact ⟨y', List.mem_append_left _ m1, m2⟩
          · exact ⟨x, by simp, by rw [List.mem_singleton.1 hy]⟩
/-- A fold as a pair. -/
def fp16 (a : Fo) : Int × Int := (a.f, a.t)
theorem kfl_fp16 : ∀ l : List Fo, kfl encF l = kfl wencS (l.map fp16)
  | [] => rfl
  | a :: l => by rw [kfl_cons, kfl_fp16 l, List.map_cons, kfl_cons]; rfl
theorem rt_of_ap {n : Int} : ∀ (l : List Fo) (f : Int), (∀ x ∈ l, f ≤ x.f ∧ x.f < x.t ∧ x.t ≤ n) → l.Pairwise (fun a b => a.t ≤ b.f) → RtOk f (l.map fp16) n
  | [], _, _, _ => trivial
  | a :: l, f, h, hp => by
    obtain ⟨p1, p2⟩ := List.pairwise_cons.1 hp
    obtain ⟨h1, h2, h3⟩ := h a (by simp)
    exact ⟨h1, h2, h3, rt_of_ap l a.t (fun x hx => by have := h x (List.mem_cons_of_mem _ hx); have := p1 x hx; omega) p2⟩
theorem hid_right {n : Int} {l : List Fo} (h : fwrong n l = 0) : RtOk 0 ((hidL (ord flt l)).map fp16) n ∧ (hidL (ord flt l)).length ≤ 60 := by
  have hmem := fwrong_mem h
  have hok := hidOk16 _ (ord flt l) rfl (fgood_ord h)
  have hol : (ord flt l).length = l.length := (ord_perm flt flt_swo l).length_eq
  have hln := (fwrong_len h).1
  refine ⟨rt_of_ap _ 0 (fun x hx => ?_) hok.ap, ?_⟩
  · have e1 := hok.lt x hx
    obtain ⟨y, hy, e2⟩ := hok.src x hx
    have e3 := hmem y ((ord_perm flt flt_swo l).mem_iff.1 hy)
    obtain ⟨z, hz, e4⟩ := hok.cov x hx (x.t - 1) (by omega) (by omega)
    have e5 := hmem z ((ord_perm flt flt_swo l).mem_iff.1 hz)
    omega
  · by_cases e : ord flt l = []
    · rw [e]; simp [hidL]
    · obtain ⟨L, y, h1, h2, _⟩ := hid_split _ _ rfl e
      rw [h1, List.length_append]; simp; omega
set_option maxHeartbeats 16000000 in
set_option maxRecDepth 100000 in
theorem creaseFolds_walk (t : Txt) (A2 : Option Addr) (n2 c2 : Nat) (l2 : List Fo) (w : World) (hT : TxtOk w t) (hI2 : RowsAt encF 2 w A2 l2) (hl2 : l2.length = n2) (hn2 : n2 ≤ maxLen) (hc2 : Caps A2 n2 c2) (_hO2 : ∀ s ∈ l2, FoOk s) :
    Calls Tryz.prog 7 #[.agg #[.int .i64 t.n, .slice t.A t.m t.c, .slice t.B t.k t.d], .slice A2 n2 c2] w fun e w' => e = .returned (.bool true) ∧ Below w.heap.size w w' := by
  obtain ⟨n, A, m, c, l, B, k, d, o⟩ := t
  obtain ⟨wf, la, mx, caps, rows, ok, lb, mxb, capsb, rowsb, okb⟩ := hT
  simp only at wf la mx caps rows ok lb mxb capsb rowsb okb ⊢
  unfold maxLen at hn2
  have x1 : Below w.heap.size w (w.alloc (.cells #[.int .i64 n, .slice A m c, .slice B k d] 25)) := (Below.refl _ _).alloc (Nat.le_refl _) _
  have r1 : RawAt 25 (w.alloc (.cells #[.int .i64 n, .slice A m c, .slice B k d] 25)) w.heap.size #[.int .i64 n, .slice A m c, .slice B k d] := heap_alloc_new w _
  obtain ⟨W1, hW1⟩ : ∃ W1, W1 = w.alloc (.cells #[.int .i64 n, .slice A m c, .slice B k d] 25) := ⟨_, rfl⟩
  rw [← hW1] at x1 r1
  have HW1 := Lib.hid hW1
  have X1 := Lib.hid x1
  have R1 := Lib.hid r1
  have y0 : W1.cell? ⟨w.heap.size, 0, none⟩ = some (.int .i64 n) := RawAt.cell r1 0
  have y1 : W1.cell? ⟨w.heap.size, 1, none⟩ = some (.slice A m c) := RawAt.cell r1 1
  have y2 : W1.cell? ⟨w.heap.size, 2, none⟩ = some (.slice B k d) := RawAt.cell r1 2
  clear hW1 x1 r1
  have CLO := Lib.hid fun (b : Bool) (hb : b = true ↔ ¬ Short16 n l o) => long16_any n A m c l B k d o b W1 (rows.below X1.out) caps la mx (fun x hx => (ok x hx).2.2.2.2) lb mxb hb
  have C6 := Lib.hid fun W => csix_any W
  by_cases g : Short16 n l o
  · have CLF := Lib.hid (CLO.out false ⟨fun h => absurd h (by simp), fun h => absurd g h⟩)
    obtain ⟨g0, g1, g2, g3, g4, g5⟩ := g
    obtain ⟨N, rfl⟩ : ∃ N : Nat, n = N := ⟨n.toNat, by omega⟩
    by_cases q60 : 60 < n2
    · have k60 : decide ((60 : Int) < (n2 : Int)) = true := decide_eq_true (by omega)
      have k60n : decide (60 < n2) = true := decide_eq_true q60
      clear CLO wf la mx caps rows ok lb mxb capsb rowsb okb hI2
      go_enter Tryz.func7, Tryz.ntmps7
      go_wp2_with fail
      rw [← HW1.out]
      go_wp2_with fail
      with_reducible refine (CLF.out).mono ?_
      rintro e w2 ⟨rfl, b2⟩
      have HQ2 := Lib.hid b2
      have R2 := Lib.hid (RawAt.below R1.out HQ2.out R1.out.lt)
      have z0 : w2.cell? ⟨w.heap.size, 0, none⟩ = some (.int .i64 N) := RawAt.cell R2.out 0
      have z1 : w2.cell? ⟨w.heap.size, 1, none⟩ = some (.slice A m c) := RawAt.cell R2.out 1
      have z2 : w2.cell? ⟨w.heap.size, 2, none⟩ = some (.slice B k d) := RawAt.cell R2.out 2
      clear b2
      go_wp2_with fail
      with_reducible refine (C6.out _).mono ?_
      rintro e w9 ⟨rfl, b9⟩
      have HQ9 := Lib.hid (X1.out.trans ((HQ2.out.trans (b9.mono HQ2.out.size)).mono X1.out.size))
      clear b9
      go_wp2
      go_ret
      exact ⟨rfl, HQ9.out⟩
    · have k60 : decide ((60 : Int) < (n2 : Int)) = false := decide_eq_false (by omega)
      have k60n : decide (60 < n2) = false := decide_eq_false q60
      obtain ⟨r, hr⟩ : ∃ r, r = fwrong (N : Int) l2 := ⟨_, rfl⟩
      have CF := Lib.hid fun (W : World) (hW : Below W1.heap.size W1 W) => rNew15 N A2 n2 c2 l2 W ((hI2.below X1.out).below hW) hc2 hl2 r hr.symm
      by_cases hz : r = 0
      · subst hz
        have hgood := fgood_ord hr.symm
        obtain ⟨hrt, hln⟩ := hid_right hr.symm
        have hol : (ord flt l2).length = n2 := by rw [(ord_perm flt flt_swo l2).length_eq]; exact hl2
        have hx : ∀ (W : World), Below W1.heap.size W1 W → ∀ (Ah : Option Addr) (hh : List (Int × Int)) (M : Nat), RowsAt wencS 2 W Ah hh → hh.length = M → M ≤ 60 → Tx16 W N A m c l Ah M hh := fun W hW Ah hh M h1 h2 h3 =>
          ⟨(rows.below X1.out).below hW, caps, la, g4, g5, by omega, by rw [← la]; exact g2, h1, h2, by omega⟩
        have h0 : Tx16 W1 N A m c l none 0 [] := hx W1 (Below.refl _ _) none [] 0 (fun h => absurd h (Nat.lt_irrefl 0)) rfl (by omega)
        have HX := Lib.hid hx
        have HWF := Lib.hid fun (a : In) (ha : a ∈ l) => (ok a ha).1
        have hzi := h0.zis
        have HZ := Lib.hid hzi.1
        have CW := Lib.hid fun (W : World) (hW : Below W1.heap.size W1 W) => by
          have := woven16_any (B := B) (k := k) (hh := o) (d := d) (w := W) ⟨(rows.below X1.out).below hW, caps, la, g4, g5, by omega, by rw [← la]; exact g2, (rowsb.below X1.out).below hW, lb, by rw [← lb]; exact g3⟩ HWF.out
          exact this
        have CN := Lib.hid fun (a : Addr) (h : Nat) (Ah : Option Addr) (ch : Nat) (hh : List (Int × Int)) (M : Nat) (W : World) (hT : WvAt W (some a) (wvP 0 (oI l) N) h) (hR : RowsAt wencS 2 W Ah hh) (hM : hh.length = M) (hM6 : M ≤ 60) => cNew_any Ah M ch hh W hT h0.set.wv hR hM (by omega) (by rw [← hzi.1]; omega)
        have CI := Lib.hid fun (a : Addr) (h : Nat) (Ah : Option Addr) (ch : Nat) (hh : List (Int × Int)) (M : Nat) (W : World) (hW : Below W1.heap.size W1 W) (hR : RowsAt wencS 2 W Ah hh) (hM : hh.length = M) (hM6 : M ≤ 60) (hrt : RtOk 0 hh N) (ht : CrAt W (some a) (crP 0 (hh.map (cpl (oI l))) (zI N l)) h) => is16_yes ch (HX.out W hW Ah hh M hR hM hM6) hrt ht
        have CH := Lib.hid fun (Af : Option Addr) (cf : Nat) (W : World) (hA : RowsAt encF 2 W Af (ord flt l2)) (hcap : Caps Af n2 cf) => rHidden15 (N : Int) Af n2 cf 0 (ord flt l2) W hA hcap hol (by omega) hgood
        rw [kfl_fp16] at CH
        have hML : ((hidL (ord flt l2)).map fp16).length = (hidL (ord flt l2)).length := List.length_map ..
        generalize (hidL (ord flt l2)).map fp16 = HH at *
        generalize (hidL (ord flt l2)).length = M at *
        have HRT := Lib.hid hrt
        have HML := Lib.hid hML
        have HL2 := Lib.hid hl2
        clear CLO rows rowsb ok okb caps capsb g2 g3 g4 g5 hzi wf hx h0 hrt hML hol hgood hI2 hl2 hc2 hr _hO2
        go_enter Tryz.func7, Tryz.ntmps7
        go_wp2_with fail
        rw [← HW1.out]
        go_wp2_with fail
        with_reducible refine (CLF.out).mono ?_
        rintro e w2 ⟨rfl, b2⟩
        have HQ2 := Lib.hid b2
        have R2 := Lib.hid (RawAt.below R1.out HQ2.out R1.out.lt)
        have z0 : w2.cell? ⟨w.heap.size, 0, none⟩ = some (.int .i64 N) := RawAt.cell R2.out 0
        have z1 : w2.cell? ⟨w.heap.size, 1, none⟩ = some (.slice A m c) := RawAt.cell R2.out 1
        have z2 : w2.cell? ⟨w.heap.size, 2, none⟩ = some (.slice B k d) := RawAt.cell R2.out 2
        clear b2
        go_wp2_with fail
        with_reducible refine (CF.out _ HQ2.out).mono ?_
        rintro e w3 ⟨nn, Af, mf, cf, rfl, hres, b3⟩
        obtain ⟨e1, e2, hRf, hcf⟩ := hres (by first | exact trivial | rfl)
        rw [HL2.out] at e2
        have e1 := e1.symm
        subst e1
        have e2 := e2.symm
        subst e2
        have HQ3 := Lib.hid (HQ2.out.trans (b3.mono HQ2.out.size))
        have x5 : Below w3.heap.size w3 (w3.alloc (.cells #[.int .i64 N, .slice Af n2 cf, .int .i64 0] 63)) := (Below.refl _ _).alloc (Nat.le_refl _) _
        have r5 : RawAt 63 (w3.alloc (.cells #[.int .i64 N, .slice Af n2 cf, .int .i64 0] 63)) w3.heap.size #[.int .i64 N, .slice Af n2 cf, .int .i64 0] := heap_alloc_new w3 _
        have HQ5 := Lib.hid (HQ3.out.trans (x5.mono HQ3.out.size))
        have HRF := Lib.hid (hRf.below x5)
        have HCF := Lib.hid hcf
        obtain ⟨W5, hW5⟩ : ∃ W5, W5 = w3.alloc (.cells #[.int .i64 N, .slice Af n2 cf, .int .i64 0] 63) := ⟨_, rfl⟩
        rw [← hW5] at HQ5 HRF r5
        have HW5 := Lib.hid hW5
        have R5 := Lib.hid r5
        have v2 : W5.cell? ⟨w3.heap.size, 2, none⟩ = some (.int .i64 0) := RawAt.cell r5 2
        clear hres hRf hcf b3 x5 r5 hW5 CF z0 z1 z2
        go_wp2_with fail
        rw [← HW5.out]
        go_wp2_with fail
        generalize w3.heap.size = bS at *
        have MK : Hid (∀ V : World, Below W5.heap.size W5 V → (fun V : World => (V.cell? ⟨w.heap.size, 0, none⟩ = some (.int .i64 N) ∧ V.cell? ⟨w.heap.size, 1, none⟩ = some (.slice A m c) ∧ V.cell? ⟨w.heap.size, 2, none⟩ = some (.slice B k d)) ∧ V.cell? ⟨bS, 0, none⟩ = some (.int .i64 N) ∧ V.cell? ⟨bS, 1, none⟩ = some (.slice Af n2 cf) ∧ V.cell? ⟨bS, 2, none⟩ = some (.int .i64 0)) V) := Lib.hid fun V hV => by
          have q := RawAt.below R1.out (HQ5.out.trans (hV.mono HQ5.out.size)) R1.out.lt
          have q2 := RawAt.below R5.out hV R5.out.lt
          exact ⟨⟨RawAt.cell q 0, RawAt.cell q 1, RawAt.cell q 2⟩, RawAt.cell q2 0, RawAt.cell q2 1, RawAt.cell q2 2⟩
        have hW2 : Below W5.heap.size W5 W5.drew := (Below.refl _ _).drew
        refine wp_region_noPanic ?_
        refine wp_region_held_drew (S := (fun V => (V.cell? ⟨w.heap.size, 0, none⟩ = some (.int .i64 N) ∧ V.cell? ⟨w.heap.size, 1, none⟩ = some (.slice A m c) ∧ V.cell? ⟨w.heap.size, 2, none⟩ = some (.slice B k d)) ∧ V.cell? ⟨bS, 0, none⟩ = some (.int .i64 N) ∧ V.cell? ⟨bS, 1, none⟩ = some (.slice Af n2 cf) ∧ V.cell? ⟨bS, 2, none⟩ = some (.int .i64 0))) (by kernel_rfl) (MK.out _ hW2) (fun hHeld => ?_)
        refine wpAnyH_take (i := 0) (v := ?_) rfl (by kernel_rfl) (by kernel_rfl) (by kernel_rfl) (fun _ _ _ h => h) (Or.inl ⟨by rfl, ?_⟩) hHeld ?_
        rotate_left
        · intro w hSw
          (try dsimp only at hSw)
          go_simp
          try with_reducible rfl
        go_simp
        refine wpAnyH_take (i := 2) (v := ?_) rfl (by kernel_rfl) (by kernel_rfl) (by kernel_rfl) (fun _ _ _ h => h) (Or.inl ⟨by rfl, ?_⟩) hHeld ?_
        rotate_left
        · intro w hSw
          (try dsimp only at hSw)
          go_simp
          try with_reducible rfl
        go_simp
        refine wpAnyH_ready (rs := [1]) (by kernel_rfl) (by simp) ?_
        refine AllReadyH.cons rfl (fun K hK => ?_) ?_
        rotate_left
        · exact AllReadyH.nil
        go_simp
        go_wp2_with (first | (go_at_call 11; ((with_reducible refine (CW.out _ (HQ5.out.trans (hW2.mono HQ5.out.size))).mono ?_); rintro e w6 ⟨a6, h6, rfl, hT6, b6⟩); have hW2 := hW2.trans (b6.mono hW2.size)) | (go_at_call 32; ((with_reducible refine (CH.out Af cf _ (HRF.out.below hW2) HCF.out).mono ?_); rintro e w7 ⟨v7, rfl, o7, b7⟩); obtain ⟨A7, c7, rfl, hR7, _, _⟩ := rows_of_own wencS_len (by omega) o7; have hW2 := hW2.trans (b7.mono hW2.size)) | (go_at_call 12; ((with_reducible refine (CN.out a6 h6 A7 c7 HH M _ (hT6.below b7) hR7 HML.out hln).mono ?_); rintro e w8 ⟨hn, b8⟩); rcases hn with ⟨_, a8, h8, rfl, hC⟩ | ⟨hno, _⟩; rotate_left; exact absurd HRT.out hno; rw [← HZ.out] at hC; have hW2 := hW2.trans (b8.mono hW2.size)) | (go_at_call 14; ((with_reducible refine (CI.out a8 h8 A7 c7 HH M _ (HQ5.out.trans (hW2.mono HQ5.out.size)) hR7 HML.out hln HRT.out (hC8.out.below b7)).mono ?_); rintro e w10 ⟨rfl, b10⟩); have hW2 := hW2.trans (b10.mono hW2.size)) | (go_at_call 10; ((with_reducible refine (C6.out _).mono ?_); rintro e w11 ⟨rfl, b11⟩); have hW2 := hW2.trans (b11.mono hW2.size)))
        refine hK.out _ _ (by with_reducible exact MK.out _ hW2) (fun hHeld => ?_)
        clear hK K
        go_simp
        refine wpAnyH_ready (rs := [3]) (by kernel_rfl) (by simp) ?_
        refine AllReadyH.cons rfl (fun K hK => ?_) ?_
        rotate_left
        · exact AllReadyH.nil
        go_simp
        go_wp2_with (first | (go_at_call 11; ((with_reducible refine (CW.out _ (HQ5.out.trans (hW2.mono HQ5.out.size))).mono ?_); rintro e w6 ⟨a6, h6, rfl, hT6, b6⟩); have hW2 := hW2.trans (b6.mono hW2.size)) | (go_at_call 32; ((with_reducible refine (CH.out Af cf _ (HRF.out.below hW2) HCF.out).mono ?_); rintro e w7 ⟨v7, rfl, o7, b7⟩); obtain ⟨A7, c7, rfl, hR7, _, _⟩ := rows_of_own wencS_len (by omega) o7; have hW2 := hW2.trans (b7.mono hW2.size)) | (go_at_call 12; ((with_reducible refine (CN.out a6 h6 A7 c7 HH M _ (hT6.below b7) hR7 HML.out hln).mono ?_); rintro e w8 ⟨hn, b8⟩); rcases hn with ⟨_, a8, h8, rfl, hC⟩ | ⟨hno, _⟩; rotate_left; exact absurd HRT.out hno; rw [← HZ.out] at hC; have hW2 := hW2.trans (b8.mono hW2.size)) | (go_at_call 14; ((with_reducible refine (CI.out a8 h8 A7 c7 HH M _ (HQ5.out.trans (hW2.mono HQ5.out.size)) hR7 HML.out hln HRT.out (hC8.out.below b7)).mono ?_); rintro e w10 ⟨rfl, b10⟩); have hW2 := hW2.trans (b10.mono hW2.size)) | (go_at_call 10; ((with_reducible refine (C6.out _).mono ?_); rintro e w11 ⟨rfl, b11⟩); have hW2 := hW2.trans (b11.mono hW2.size)))
        refine hK.out _ _ (by with_reducible exact MK.out _ hW2) (fun hHeld => ?_)
        clear hK K
        go_simp
        refine wpAnyH_ready (rs := [4]) (by kernel_rfl) (by simp) ?_
        refine AllReadyH.cons rfl (fun K hK => ?_) ?_
        rotate_left
        · exact AllReadyH.nil
        go_simp
        go_wp2_with (first | (go_at_call 11; ((with_reducible refine (CW.out _ (HQ5.out.trans (hW2.mono HQ5.out.size))).mono ?_); rintro e w6 ⟨a6, h6, rfl, hT6, b6⟩); have hW2 := hW2.trans (b6.mono hW2.size)) | (go_at_call 32; ((with_reducible refine (CH.out Af cf _ (HRF.out.below hW2) HCF.out).mono ?_); rintro e w7 ⟨v7, rfl, o7, b7⟩); obtain ⟨A7, c7, rfl, hR7, _, _⟩ := rows_of_own wencS_len (by omega) o7; have hW2 := hW2.trans (b7.mono hW2.size)) | (go_at_call 12; ((with_reducible refine (CN.out a6 h6 A7 c7 HH M _ (hT6.below b7) hR7 HML.out hln).mono ?_); rintro e w8 ⟨hn, b8⟩); rcases hn with ⟨_, a8, h8, rfl, hC⟩ | ⟨hno, _⟩; rotate_left; exact absurd HRT.out hno; rw [← HZ.out] at hC; have hW2 := hW2.trans (b8.mono hW2.size)) | (go_at_call 14; ((with_reducible refine (CI.out a8 h8 A7 c7 HH M _ (HQ5.out.trans (hW2.mono HQ5.out.size)) hR7 HML.out hln HRT.out (hC8.out.below b7)).mono ?_); rintro e w10 ⟨rfl, b10⟩); have hW2 := hW2.trans (b10.mono hW2.size)) | (go_at_call 10; ((with_reducible refine (C6.out _).mono ?_); rintro e w11 ⟨rfl, b11⟩); have hW2 := hW2.trans (b11.mono hW2.size)))
        refine hK.out _ _ (by with_reducible exact MK.out _ hW2) (fun hHeld => ?_)
        clear hK K
        go_simp
        refine wpAnyH_take (i := 5) (v := ?_) rfl (by kernel_rfl) (by kernel_rfl) (by kernel_rfl) (fun _ _ _ h => h) (Or.inl ⟨by rfl, ?_⟩) hHeld ?_
        rotate_left
        · intro w hSw
          (try dsimp only at hSw)
          go_simp
          try with_reducible rfl
        go_simp
        refine wpAnyH_take (i := 6) (v := ?_) rfl (by kernel_rfl) (by kernel_rfl) (by kernel_rfl) (fun _ _ _ h => h) (Or.inl ⟨by rfl, ?_⟩) hHeld ?_
        rotate_left
        · intro w hSw
          (try dsimp only at hSw)
          go_simp
          try with_reducible rfl
        go_simp
        refine wpAnyH_take (i := 7) (v := ?_) rfl (by kernel_rfl) (by kernel_rfl) (by kernel_rfl) (fun _ _ _ h => h) (Or.inl ⟨by rfl, ?_⟩) hHeld ?_
        rotate_left
        · intro w hSw
          (try dsimp only at hSw)
          go_simp
          try with_reducible rfl
        go_simp
        refine wpAnyH_take (i := 8) (v := ?_) rfl (by kernel_rfl) (by kernel_rfl) (by kernel_rfl) (fun _ _ _ h => h) (Or.inl ⟨by rfl, ?_⟩) hHeld ?_
        rotate_left
        · intro w hSw
          (try dsimp only at hSw)
          go_simp
          try with_reducible rfl
        go_simp
        refine wpAnyH_take (i := 9) (v := ?_) rfl (by kernel_rfl) (by kernel_rfl) (by kernel_rfl) (fun _ _ _ h => h) (Or.inl ⟨by rfl, ?_⟩) hHeld ?_
        rotate_left
        · intro w hSw
          (try dsimp only at hSw)
          go_simp
          try with_reducible rfl
        go_simp
        refine wpAnyH_done (by kernel_rfl) ?_ _
        refine NoPanic.normal ?_
        have hC8 := Lib.hid hC
        have hW9 := hW2
        clear hC hT6 o7 hR7 b6 b7 b8 hW2
        have hC8 := Lib.hid (hC8.out.below ((Below.refl w8.heap.size w8).drew))
        have hW2 : Below W5.heap.size W5 w8.drew := hW9.drew
        go_wp2_with fail
        refine wp_region_noPanic ?_
        refine wp_region_held_drew (S := (fun V => (V.cell? ⟨w.heap.size, 0, none⟩ = some (.int .i64 N) ∧ V.cell? ⟨w.heap.size, 1, none⟩ = some (.slice A m c) ∧ V.cell? ⟨w.heap.size, 2, none⟩ = some (.slice B k d)) ∧ V.cell? ⟨bS, 0, none⟩ = some (.int .i64 N) ∧ V.cell? ⟨bS, 1, none⟩ = some (.slice Af n2 cf) ∧ V.cell? ⟨bS, 2, none⟩ = some (.int .i64 0))) (by kernel_rfl) (MK.out _ hW2) (fun hHeld => ?_)
        refine wpAnyH_take (i := 0) (v := ?_) rfl (by kernel_rfl) (by kernel_rfl) (by kernel_rfl) (fun _ _ _ h => h) (Or.inl ⟨by rfl, ?_⟩) hHeld ?_
        rotate_left
        · intro w hSw
          (try dsimp only at hSw)
          go_simp
          try with_reducible rfl
        go_simp
        refine wpAnyH_take (i := 1) (v := ?_) rfl (by kernel_rfl) (by kernel_rfl) (by kernel_rfl) (fun _ _ _ h => h) (Or.inl ⟨by rfl, ?_⟩) hHeld ?_
        rotate_left
        · intro w hSw
          (try dsimp only at hSw)
          go_simp
          try with_reducible rfl
        go_simp
        refine wpAnyH_take (i := 2) (v := ?_) rfl (by kernel_rfl) (by kernel_rfl) (by kernel_rfl) (fun _ _ _ h => h) (Or.inl ⟨by rfl, ?_⟩) hHeld ?_
        rotate_left
        · intro w hSw
          (try dsimp only at hSw)
          go_simp
          try with_reducible rfl
        go_simp
        refine wpAnyH_take (i := 3) (v := ?_) rfl (by kernel_rfl) (by kernel_rfl) (by kernel_rfl) (fun _ _ _ h => h) (Or.inl ⟨by rfl, ?_⟩) hHeld ?_
        rotate_left
        · intro w hSw
          (try dsimp only at hSw)
          go_simp
          try with_reducible rfl
        go_simp
        refine wpAnyH_take (i := 4) (v := ?_) rfl (by kernel_rfl) (by kernel_rfl) (by kernel_rfl) (fun _ _ _ h => h) (Or.inl ⟨by rfl, ?_⟩) hHeld ?_
        rotate_left
        · intro w hSw
          (try dsimp only at hSw)
          go_simp
          try with_reducible rfl
        go_simp
        refine wpAnyH_take (i := 5) (v := ?_) rfl (by kernel_rfl) (by kernel_rfl) (by kernel_rfl) (fun _ _ _ h => h) (Or.inl ⟨by rfl, ?_⟩) hHeld ?_
        rotate_left
        · intro w hSw
          (try dsimp only at hSw)
          go_simp
          try with_reducible rfl
        go_simp
        refine wpAnyH_take (i := 6) (v := ?_) rfl (by kernel_rfl) (by kernel_rfl) (by kernel_rfl) (fun _ _ _ h => h) (Or.inl ⟨by rfl, ?_⟩) hHeld ?_
        rotate_left
        · intro w hSw
          (try dsimp only at hSw)
          go_simp
          try with_reducible rfl
        go_simp
        refine wpAnyH_take (i := 7) (v := ?_) rfl (by kernel_rfl) (by kernel_rfl) (by kernel_rfl) (fun _ _ _ h => h) (Or.inl ⟨by rfl, ?_⟩) hHeld ?_
        rotate_left
        · intro w hSw
          (try dsimp only at hSw)
          go_simp
          try with_reducible rfl
        go_simp
        refine wpAnyH_take (i := 8) (v := ?_) rfl (by kernel_rfl) (by kernel_rfl) (by kernel_rfl) (fun _ _ _ h => h) (Or.inl ⟨by rfl, ?_⟩) hHeld ?_
        rotate_left
        · intro w hSw
          (try dsimp only at hSw)
          go_simp
          try with_reducible rfl
        go_simp
        refine wpAnyH_ready (rs := [9]) (by kernel_rfl) (by simp) ?_
        refine AllReadyH.cons rfl (fun K hK => ?_) ?_
        rotate_left
        · exact AllReadyH.nil
        go_simp
        go_wp2_with (first | (go_at_call 11; ((with_reducible refine (CW.out _ (HQ5.out.trans (hW2.mono HQ5.out.size))).mono ?_); rintro e w6 ⟨a6, h6, rfl, hT6, b6⟩); have hW2 := hW2.trans (b6.mono hW2.size)) | (go_at_call 32; ((with_reducible refine (CH.out Af cf _ (HRF.out.below hW2) HCF.out).mono ?_); rintro e w7 ⟨v7, rfl, o7, b7⟩); obtain ⟨A7, c7, rfl, hR7, _, _⟩ := rows_of_own wencS_len (by omega) o7; have hW2 := hW2.trans (b7.mono hW2.size)) | (go_at_call 12; ((with_reducible refine (CN.out a6 h6 A7 c7 HH M _ (hT6.below b7) hR7 HML.out hln).mono ?_); rintro e w8 ⟨hn, b8⟩); rcases hn with ⟨_, a8, h8, rfl, hC⟩ | ⟨hno, _⟩; rotate_left; exact absurd HRT.out hno; rw [← HZ.out] at hC; have hW2 := hW2.trans (b8.mono hW2.size)) | (go_at_call 14; ((with_reducible refine (CI.out a8 h8 A7 c7 HH M _ (HQ5.out.trans (hW2.mono HQ5.out.size)) hR7 HML.out hln HRT.out (hC8.out.below b7)).mono ?_); rintro e w10 ⟨rfl, b10⟩); have hW2 := hW2.trans (b10.mono hW2.size)) | (go_at_call 10; ((with_reducible refine (C6.out _).mono ?_); rintro e w11 ⟨rfl, b11⟩); have hW2 := hW2.trans (b11.mono hW2.size)))
        refine hK.out _ _ (by with_reducible exact MK.out _ hW2) (fun hHeld => ?_)
        clear hK K
        go_simp
        refine wpAnyH_take (i := 10) (v := ?_) rfl (by kernel_rfl) (by kernel_rfl) (by kernel_rfl) (fun _ _ _ h => h) (Or.inl ⟨by rfl, ?_⟩) hHeld ?_
        rotate_left
        · intro w hSw
          (try dsimp only at hSw)
          go_simp
          try with_reducible rfl
        go_simp
        refine wpAnyH_ready (rs := [11]) (by kernel_rfl) (by simp) ?_
        refine AllReadyH.cons rfl (fun K hK => ?_) ?_
        rotate_left
        · exact AllReadyH.nil
        go_simp
        go_wp2_with (first | (go_at_call 11; ((with_reducible refine (CW.out _ (HQ5.out.trans (hW2.mono HQ5.out.size))).mono ?_); rintro e w6 ⟨a6, h6, rfl, hT6, b6⟩); have hW2 := hW2.trans (b6.mono hW2.size)) | (go_at_call 32; ((with_reducible refine (CH.out Af cf _ (HRF.out.below hW2) HCF.out).mono ?_); rintro e w7 ⟨v7, rfl, o7, b7⟩); obtain ⟨A7, c7, rfl, hR7, _, _⟩ := rows_of_own wencS_len (by omega) o7; have hW2 := hW2.trans (b7.mono hW2.size)) | (go_at_call 12; ((with_reducible refine (CN.out a6 h6 A7 c7 HH M _ (hT6.below b7) hR7 HML.out hln).mono ?_); rintro e w8 ⟨hn, b8⟩); rcases hn with ⟨_, a8, h8, rfl, hC⟩ | ⟨hno, _⟩; rotate_left; exact absurd HRT.out hno; rw [← HZ.out] at hC; have hW2 := hW2.trans (b8.mono hW2.size)) | (go_at_call 14; ((with_reducible refine (CI.out a8 h8 A7 c7 HH M _ (HQ5.out.trans (hW2.mono HQ5.out.size)) hR7 HML.out hln HRT.out (hC8.out.below b7)).mono ?_); rintro e w10 ⟨rfl, b10⟩); have hW2 := hW2.trans (b10.mono hW2.size)) | (go_at_call 10; ((with_reducible refine (C6.out _).mono ?_); rintro e w11 ⟨rfl, b11⟩); have hW2 := hW2.trans (b11.mono hW2.size)))
        refine hK.out _ _ (by with_reducible exact MK.out _ hW2) (fun hHeld => ?_)
        clear hK K
        go_simp
        refine wpAnyH_take (i := 12) (v := ?_) rfl (by kernel_rfl) (by kernel_rfl) (by kernel_rfl) (fun _ _ _ h => h) (Or.inl ⟨by rfl, ?_⟩) hHeld ?_
        rotate_left
        · intro w hSw
          (try dsimp only at hSw)
          go_simp
          try with_reducible rfl
        go_simp
        refine wpAnyH_take (i := 13) (v := ?_) rfl (by kernel_rfl) (by kernel_rfl) (by kernel_rfl) (fun _ _ _ h => h) (Or.inl ⟨by rfl, ?_⟩) hHeld ?_
        rotate_left
        · intro w hSw
          (try dsimp only at hSw)
          go_simp
          try with_reducible rfl
        go_simp
        refine wpAnyH_ready (rs := [14]) (by kernel_rfl) (by simp) ?_
        refine AllReadyH.cons rfl (fun K hK => ?_) ?_
        rotate_left
        · exact AllReadyH.nil
        go_simp
        go_wp2_with (first | (go_at_call 11; ((with_reducible refine (CW.out _ (HQ5.out.trans (hW2.mono HQ5.out.size))).mono ?_); rintro e w6 ⟨a6, h6, rfl, hT6, b6⟩); have hW2 := hW2.trans (b6.mono hW2.size)) | (go_at_call 32; ((with_reducible refine (CH.out Af cf _ (HRF.out.below hW2) HCF.out).mono ?_); rintro e w7 ⟨v7, rfl, o7, b7⟩); obtain ⟨A7, c7, rfl, hR7, _, _⟩ := rows_of_own wencS_len (by omega) o7; have hW2 := hW2.trans (b7.mono hW2.size)) | (go_at_call 12; ((with_reducible refine (CN.out a6 h6 A7 c7 HH M _ (hT6.below b7) hR7 HML.out hln).mono ?_); rintro e w8 ⟨hn, b8⟩); rcases hn with ⟨_, a8, h8, rfl, hC⟩ | ⟨hno, _⟩; rotate_left; exact absurd HRT.out hno; rw [← HZ.out] at hC; have hW2 := hW2.trans (b8.mono hW2.size)) | (go_at_call 14; ((with_reducible refine (CI.out a8 h8 A7 c7 HH M _ (HQ5.out.trans (hW2.mono HQ5.out.size)) hR7 HML.out hln HRT.out (hC8.out.below b7)).mono ?_); rintro e w10 ⟨rfl, b10⟩); have hW2 := hW2.trans (b10.mono hW2.size)) | (go_at_call 10; ((with_reducible refine (C6.out _).mono ?_); rintro e w11 ⟨rfl, b11⟩); have hW2 := hW2.trans (b11.mono hW2.size)))
        refine hK.out _ _ (by with_reducible exact MK.out _ hW2) (fun hHeld => ?_)
        clear hK K
        go_simp
        refine wpAnyH_take (i := 15) (v := ?_) rfl (by kernel_rfl) (by kernel_rfl) (by kernel_rfl) (fun _ _ _ h => h) (Or.inl ⟨by rfl, ?_⟩) hHeld ?_
        rotate_left
        · intro w hSw
          (try dsimp only at hSw)
          go_simp
          try with_reducible rfl
        go_simp
        refine wpAnyH_take (i := 16) (v := ?_) rfl (by kernel_rfl) (by kernel_rfl) (by kernel_rfl) (fun _ _ _ h => h) (Or.inl ⟨by rfl, ?_⟩) hHeld ?_
        rotate_left
        · intro w hSw
          (try dsimp only at hSw)
          go_simp
          try with_reducible rfl
        go_simp
        refine wpAnyH_done (by kernel_rfl) ?_ _
        refine NoPanic.normal ?_
        have HQX := Lib.hid (X1.out.trans ((HQ5.out.trans (hW2.mono HQ5.out.size)).mono X1.out.size))
        clear hW2
        go_wp2
        go_ret
        exact ⟨rfl, HQX.out⟩
      · have kr : (r != 0) = true := by simpa using hz
        clear CLO rows rowsb ok okb caps capsb g2 g3 g4 g5 wf hI2 hc2 hl2 hr
        go_enter Tryz.func7, Tryz.ntmps7
        go_wp2_with fail
        rw [← HW1.out]
        go_wp2_with fail
        with_reducible refine (CLF.out).mono ?_
        rintro e w2 ⟨rfl, b2⟩
        have HQ2 := Lib.hid b2
        have R2 := Lib.hid (RawAt.below R1.out HQ2.out R1.out.lt)
        have z0 : w2.cell? ⟨w.heap.size, 0, none⟩ = some (.int .i64 N) := RawAt.cell R2.out 0
        have z1 : w2.cell? ⟨w.heap.size, 1, none⟩ = some (.slice A m c) := RawAt.cell R2.out 1
        have z2 : w2.cell? ⟨w.heap.size, 2, none⟩ = some (.slice B k d) := RawAt.cell R2.out 2
        clear b2
        go_wp2_with fail
        with_reducible refine (CF.out _ HQ2.out).mono ?_
        rintro e w3 ⟨nn, Af, mf, cf, rfl, hres, b3⟩
        have HQ3 := Lib.hid (HQ2.out.trans (b3.mono HQ2.out.size))
        have x5 : Below w3.heap.size w3 (w3.alloc (.cells #[.int .i64 nn, .slice Af mf cf, .int .i64 r] 63)) := (Below.refl _ _).alloc (Nat.le_refl _) _
        have HQ5 := Lib.hid (HQ3.out.trans (x5.mono HQ3.out.size))
        clear hres b3 x5 CF
        go_wp2_with fail
        with_reducible refine (C6.out _).mono ?_
        rintro e w9 ⟨rfl, b9⟩
        have HQ9 := Lib.hid (X1.out.trans ((HQ5.out.trans (b9.mono HQ5.out.size)).mono X1.out.size))
        clear b9
        go_wp2
        go_ret
        exact ⟨rfl, HQ9.out⟩
  · have CLF := Lib.hid (CLO.out true ⟨fun _ => g, fun _ => rfl⟩)
    clear CLO
    go_enter Tryz.func7, Tryz.ntmps7
    go_wp2_with fail
    rw [← HW1.out]
    go_wp2_with fail
    with_reducible refine (CLF.out).mono ?_
    rintro e w2 ⟨rfl, b2⟩
    have HQ2 := Lib.hid b2
    clear b2
    go_wp2_with fail
    with_reducible refine (C6.out _).mono ?_
    rintro e w9 ⟨rfl, b9⟩
    have HQ9 := Lib.hid (X1.out.trans ((HQ2.out.trans (b9.mono HQ2.out.size)).mono X1.out.size))
    clear b9
    go_wp2
    go_ret
    exact ⟨rfl, HQ9.out⟩
end Go.Proofs.YtdpmimlhchghlaaGreat
