/- The walk of the law on anchors that go back. -/
import Derived.Test.YtncbhbjhfmbbkaaAWStays
import Derived.Test.YtncbhbjhfmbbkaaAnK
import Derived.Test.YtncbhbjhfmbbkaaPtQ
import Derived.Deep.CutBlock
namespace Go.Proofs.Ytncbhbjhfmbbkaa
open Go.RowKit Go.Sort
set_option linter.unusedVariables false
/-- Anchors of both biases at a place. -/
def lb2 (x : Int) : List An := [⟨0, x, 0⟩, ⟨1, x, 1⟩]
theorem lb2_len (x : Int) : (lb2 x).length = 2 := rfl
theorem lb2_apart (x : Int) : Apart (lb2 x) := by unfold Apart lb2; simp
theorem lb2_ord (x : Int) : ord alt (lb2 x) = lb2 x := (ord_uniq alt alt_swo (List.Perm.refl _) (by unfold lb2; simp [alt]) (by
  intro a ha b hb h1 h2
  unfold lb2 at ha hb
  simp only [List.mem_cons, List.not_mem_nil, or_false] at ha hb
  rcases ha with rfl | rfl <;> rcases hb with rfl | rfl <;> simp [alt] at h1 h2 ⊢)).symm
theorem mp_lows {M : Int} : ∀ {p q : Int} {l : List Ch}, nrm M p q false l → ∀ (y bj : Int), p < y → q < mp p q l y bj
  | p, q, [], _, y, bj, h => by unfold mp; omega
  | p, q, c :: l, hn, y, bj, h => by
    obtain ⟨⟨c1, c2, c3, c4, c5, c6, c7, c8, c9, c10⟩, hl⟩ := hn
    have := c10 rfl
    unfold mp
    split
    · omega
    · split
      · split <;> omega
      · have := mp_low hl y bj (by omega)
        omega
theorem mp_back {M : Int} : ∀ {p q : Int} {fi : Bool} {l : List Ch}, nrm M p q fi l → ∀ (y bi bj : Int), (∀ c ∈ l, y < c.oa ∨ c.ob < y) → mp q p (cinv l) (mp p q l y bi) bj = y
  | p, q, fi, [], _, y, bi, bj, h => by show (mp p q [] y bi) + (p - q) = y; unfold mp; omega
  | p, q, fi, c :: l, hn, y, bi, bj, h => by
    obtain ⟨⟨c1, c2, c3, c4, c5, c6, c7, c8, c9, c10⟩, hl⟩ := hn
    have hc := h c (by simp)
    show mp q p (⟨c.na, c.nb, c.oa, c.ob⟩ :: cinv l) (mp p q (c :: l) y bi) bj = y
    by_cases g : y < c.oa
    · have e : mp p q (c :: l) y bi = y + (q - p) := by unfold mp; rw [if_pos g]
      rw [e]
      unfold mp
      rw [if_pos (by simp only; omega)]
      omega
    · have e : mp p q (c :: l) y bi = mp c.ob c.nb l y bi := by conv => lhs; unfold mp
                                                                rw [if_neg g, if_neg (by omega)]
      have h2 := mp_lows hl y bi (by omega)
      have ih := mp_back hl y bi bj (fun d hd => h d (List.mem_cons_of_mem _ hd))
      rw [e]
      conv => lhs; unfold mp
      rw [if_neg (by simp only; omega), if_neg (by simp only; omega)]
      exact ih
theorem lst_cinv {M : Int} : ∀ {p q : Int} {fi : Bool} {l : List Ch}, nrm M p q fi l → lst q (cinv l) = lst p l + dlt l + (q - p)
  | p, q, fi, [], _ => by simp [lst, cinv, dlt]; omega
  | p, q, fi, c :: l, hn => by
    obtain ⟨⟨c1, c2, c3, c4, c5, c6, c7, c8, c9, c10⟩, hl⟩ := hn
    have ih := lst_cinv hl
    show lst c.nb (cinv l) = lst c.ob l + dlt (c :: l) + (q - p)
    rw [ih, dlt_cons]
    omega
theorem olast_le {n : Int} {p : List Ch} (h0 : 0 ≤ n) (h : lst 0 p ≤ n) : ¬ n < olast p := by
  cases p with
  | nil => show ¬ n < 0; omega
  | cons c l => rw [show lst 0 (c :: l) = lst c.ob l from rfl, lst_olast] at h; omega
/-- What a shift answers when it isn't refused. -/
theorem shIs_zero {n : Int} {p : List Ch} {o : List An} (h : ShIs n p o 0) : nrm M40 0 0 true p ∧ ¬ n < olast p := by
  by_cases hn : nrm M40 0 0 true p
  · refine ⟨hn, fun g => absurd (h.2.1 hn g) (by decide)⟩
  · exact absurd (h.1 hn) (by decide)
/-- Back: the shift by the patch turned about is not refused. -/
theorem shIs_back {n : Int} {p : List Ch} {l : List An} (z0 : 0 ≤ n) (z40 : n ≤ 1099511627776) (h : ShIs n p l 0) (hl : l.length ≤ 200) (ha : Apart l) (hk : ∀ a ∈ l, aOk n a) : n + dlt p ≤ 1099511627776 ∧ 0 ≤ n + dlt p ∧ (∀ a ∈ ord alt (ashift p l), aOk (n + dlt p) a) ∧ ShIs (n + dlt p) (cinv p) (ord alt (ashift p l)) 0 := by
  obtain ⟨hn, ho⟩ := shIs_zero h
  have e := h.2.2 hn ho
  have hr := e
  rw [ashift_wrong z0 hn ho hl ha hk] at e
  have h4 : n + dlt p ≤ 1099511627776 := by
    by_cases g : 1099511627776 < n + dlt p
    · rw [if_pos g] at e; cases e
    · omega
  have hlst := lst_le z0 ho
  have hz := (mp_high hn n 0 0 z0 hlst z0).2
  have hz' : 0 ≤ n + dlt p := by omega
  obtain ⟨_, _, hl2, ha2, hk2⟩ := awrong_zero hr.symm
  have hci := cinv_nrm hn
  have hlc := lst_cinv hn
  have hoc : ¬ n + dlt p < olast (cinv p) := olast_le hz' (by omega)
  have hk3 : ∀ a ∈ ord alt (ashift p l), aOk (n + dlt p) a := fun a h => hk2 a ((ord_perm alt alt_swo _).mem_iff.1 h)
  refine ⟨h4, hz', hk3, fun g => absurd hci g, fun _ g => absurd g hoc, fun _ _ => ?_⟩
  rw [ashift_wrong hz' hci hoc (by rw [(ord_perm alt alt_swo _).length_eq]; exact hl2) (apart_ord ha2) hk3, dlt_inv, if_neg (by omega)]
theorem back_same {n : Int} {p : List Ch} {x : Int} (h : ShIs n p (lb2 x) 0) (hx : ∀ c ∈ p, x < c.oa ∨ c.ob < x) : ord alt (ashift (cinv p) (ord alt (ashift p (lb2 x)))) = lb2 x := by
  obtain ⟨hn, _⟩ := shIs_zero h
  rw [ord_ashift (apart_ashift (lb2_apart x))]
  have e : ashift (cinv p) (ashift p (lb2 x)) = lb2 x := by
    unfold ashift lb2
    simp only [List.map_cons, List.map_nil]
    rw [mp_back hn x 0 0 hx, mp_back hn x 1 1 hx]
  rw [e, lb2_ord]
set_option maxHeartbeats 32000000 in
set_option maxRecDepth 100000 in
theorem anchorBack_walk (a x : Int) (PA : Option Addr) (pm pc : Nat) (p : List Ch) (w : World) (_wf : (Lit.int .i64 a).wf = true) (_wx : (Lit.int .i64 x).wf = true) (hJ : ChsAt w PA p) (hp : p.length = pm) (_hn2 : pm ≤ maxLen) (_hc2 : Caps PA pm pc) :
    Calls Try.prog 6 #[.int .i64 a, .int .i64 x, .slice PA pm pc] w fun e w' => e = .returned (.bool true) ∧ Below w.heap.size w w' := by
  have CB := Lib.hid fun W => aBoth_any W
  have HJ := Lib.hid hJ
  have HP := Lib.hid hp
  have ST := an_slt
  clear hJ hp _wf _wx _hn2 _hc2
  by_cases g2 : 100 < pm
  · have k1' : decide (100 < pm) = true := decide_eq_true g2
    have k2' : decide ((100 : Int) < (pm : Int)) = true := decide_eq_true (by omega)
    go_enter Try.func6, Try.ntmps6
    go_wp2_with fail
    with_reducible refine (CB.out _).mono ?_
    rintro e w40 ⟨rfl, b40⟩
    have Q40 := Lib.hid (b40)
    clear b40
    go_wp2
    go_ret
    exact ⟨by simp, Q40.out⟩
  · have k1' : decide (100 < pm) = false := decide_eq_false g2
    have k2' : decide ((100 : Int) < (pm : Int)) = false := decide_eq_false (by omega)
    go_enter Try.func6, Try.ntmps6
    go_wp2_with fail
    go_loopg [7, 8] 2 (fun g v i wr => ∃ (k : Nat), i = .int .i64 k ∧ k ≤ 2 ∧ 2 - k ≤ g ∧ Hid (Below w.heap.size w wr) ∧ Hid (wr.ownsRow w.heap.size 36 3 v k (kfl encA ((lb2 x).take k))))
    case atStart => exact ⟨0, rfl, by omega, by omega, Lib.hid (Below.refl _ _), Lib.hid (World.ownsRow_nil _ _ _ _)⟩
    case round =>
      obtain ⟨k, rfl, h1, h2, hb, hown⟩ := hrel
      by_cases hlt : k < 2
      · have hkl : k < (lb2 x).length := hlt
        have htk : (lb2 x).take (k + 1) = (lb2 x).take k ++ [⟨k, x, k⟩] := by
          rw [List.take_succ_eq_append_getElem hkl]
          have : k = 0 ∨ k = 1 := by omega
          rcases this with rfl | rfl <;> rfl
        have HTK := Lib.hid htk
        have i1 : (0 : Int) ≤ k := by omega
        have i2 : (k : Int) < 2 := by omega
        obtain ⟨A3, c3, rfl⟩ := own_form hown.out
        have hlt4 := hown.out.lt
        have x3 : Below wr.heap.size wr (wr.alloc (.cells #[.int .i64 k, .int .i64 x, .int .i64 k] 36)) := (Below.refl _ _).alloc (Nat.le_refl _) _
        have R3 : RawAt 36 (wr.alloc (.cells #[.int .i64 k, .int .i64 x, .int .i64 k] 36)) wr.heap.size #[.int .i64 k, .int .i64 x, .int .i64 k] := heap_alloc_new wr _
        have HS3 := Lib.hid (rows_of_block (enc := encA) (k := 3) encA_len R3 (l := [⟨k, x, k⟩]) rfl)
        have HB3 := Lib.hid (hb.out.trans (x3.mono hb.out.size))
        have HO3 := Lib.hid (own_below hown.out x3)
        clear htk hown hb x3 R3
        go_wp2_with (at_builtin; refine wpList_appK (enc := encA) ST encA_len (by omega) rfl (.tmp 25) (.tmp 30) rfl (base := w.heap.size) (v := .slice A3 k c3) rfl HO3.out _ 1 1 [⟨k, x, k⟩] rfl HS3.out ⟨Nat.le_refl _, fun h => by cases h⟩ rfl (kfl_one' encA_one _) (by simp only [maxLen]; omega) (by omega) HB3.out.size ?_; intro v5 w5 hown5 hg5 hor5)
        have hb5 := Lib.hid (HB3.out.grown hg5 HB3.out.size (fun j hj => (hlt4 j hj).1))
        have hO5 : Hid (w5.ownsRow w.heap.size 36 3 v5 (k + 1) (kfl encA ((lb2 x).take (k + 1)))) := Lib.hid (by rw [HTK.out, kfl_append]; exact hown5)
        clear hown5 hg5 hor5 HO3 HS3 HB3
        go_wp2
        go_roundg (gk - 1)
        case measure => omega
        case rel => exact ⟨k + 1, by go_num, by omega, by omega, hb5, hO5⟩
      · obtain rfl : k = 2 := by omega
        have ho2 := hown.out
        rw [show (lb2 x).take 2 = lb2 x from rfl] at ho2
        obtain ⟨A0, c0, rfl, hR0, _, hC0⟩ := rows_of_own (o := lb2 x) encA_len (by omega) ho2
        generalize wr = W0 at *
        have B0 := Lib.hid hb.out
        have HI := Lib.hid hR0
        have HC := Lib.hid hC0
        clear ho2 hown hb hR0 hC0 h1 h2 hlt
        obtain ⟨r, hr⟩ : ∃ r, awrong a (lb2 x) = r := ⟨_, rfl⟩
        have hids : ∀ y ∈ lb2 x, (Lit.int .i64 y.id).wf = true := by
          intro y hy
          unfold lb2 at hy
          simp only [List.mem_cons, List.not_mem_nil, or_false] at hy
          rcases hy with rfl | rfl
          · exact show (Lit.int .i64 0).wf = true by decide
          · exact show (Lit.int .i64 1).wf = true by decide
        have CN := Lib.hid (aNew_any a A0 2 c0 (lb2 x) W0 HI.out HC.out rfl hids r hr)
        have CRF := Lib.hid fun (W : World) (hW : Below W0.heap.size W0 W) => arefs_any A0 2 c0 (lb2 x) W (HI.out.below hW) rfl (by omega)
        have CWR := Lib.hid fun (A' : Option Addr) (c' : Nat) (W : World) (h1 : RowsAt encA 3 W A' (lb2 x)) (h2 : Caps A' 2 c') => rWrong_any a A' 2 c' (lb2 x) W h1 h2 rfl r hr
        by_cases hr0 : r = 0
        · subst hr0
          obtain ⟨z0, z40, z200, hap, hok⟩ := awrong_zero hr
          obtain ⟨rs, hrs⟩ := shIs_ex a p (lb2 x)
          have CS := Lib.hid fun (W : World) (sb : Nat) (hW : Below W0.heap.size W0 W) (hS : ASet W sb a (lb2 x)) => aShift_any hS PA pm pc p (HJ.out.below (B0.out.trans (hW.mono B0.out.size))) HP.out (by omega) z0 z40 hok hids (by rw [lb2_len]; omega) rs hrs _ rfl
          have HOK := Lib.hid hok
          have HRS := Lib.hid hrs
          clear hr hap hrs z200 hok
          go_wp2_with fail
          with_reducible refine (CN.out).mono ?_
          rintro e3 w3 ⟨p3, rfl, _, hp3, b3⟩
          obtain ⟨s3, rfl, h3⟩ := hp3 trivial
          rw [lb2_ord] at h3
          have B3 := Lib.hid b3
          have CS3 := Lib.hid (CS.out w3 s3 B3.out h3)
          clear b3 h3 hp3 CN CS
          go_wp2_with fail
          with_reducible refine (CS3.out).mono ?_
          rintro e4 w4 ⟨p4, rfl, hq4, hp4, b4⟩
          have B4 := Lib.hid (B3.out.trans (b4.mono B3.out.size))
          have HQ4 := Lib.hid hq4
          have HP4 := Lib.hid hp4
          clear b4 B3 CS3 hq4 hp4
          by_cases hs0 : rs = 0
          · subst hs0
            obtain ⟨s4, rfl, h4⟩ := HP4.out rfl
            obtain ⟨y1, y2, y3, y4⟩ := shIs_back z0 z40 HRS.out (by rw [lb2_len]; omega) (lb2_apart x) HOK.out
            have hn := (shIs_zero HRS.out).1
            have H4 := Lib.hid h4
            have HBS := Lib.hid fun (hx : ∀ c ∈ p, x < c.oa ∨ c.ob < x) => back_same HRS.out hx
            have CIV := Lib.hid fun (W : World) (hW : Below W0.heap.size W0 W) => pInvert_any PA pm pc p W (HJ.out.below (B0.out.trans (hW.mono B0.out.size))) HP.out (by omega)
            have hids2 : ∀ y ∈ ord alt (ashift p (lb2 x)), (Lit.int .i64 y.id).wf = true := by
              intro y hy
              obtain ⟨u, hu, rfl⟩ := List.mem_map.1 ((ord_perm alt alt_swo _).mem_iff.1 hy)
              exact hids u hu
            have hlo : (ord alt (ashift p (lb2 x))).length ≤ 100000 := by rw [(ord_perm alt alt_swo _).length_eq, ashift_len, lb2_len]; omega
            have CSB := Lib.hid fun (A' : Option Addr) (c' : Nat) (W : World) (hW : Below w4.heap.size w4 W) (h : ChsAt W A' (cinv p)) => aShift_any (H4.out.below hW) A' pm c' (cinv p) h (by unfold cinv; rw [List.length_map]; exact HP.out) (by omega) y2 y1 y3 hids2 hlo 0 y4 _ rfl
            clear HP4 HQ4 HRS y1 y2 y3 y4 h4 hids2 hlo CWR HOK hids hn
            go_wp2_with fail
            go_loopg [63] pm (fun g i wr => ∃ (j : Nat), i = .int .i64 j ∧ j ≤ pm ∧ pm - j ≤ g ∧ Hid (Below w4.heap.size w4 wr) ∧ Hid (∀ c ∈ p.take j, x < c.oa ∨ c.ob < x))
            case atStart => exact ⟨0, rfl, by omega, by omega, Lib.hid (Below.refl _ _), Lib.hid (fun c h => by simp at h)⟩
            case round =>
              obtain ⟨j, rfl, h1, h2, hb, hx⟩ := hrel
              by_cases hlt : j < pm
              · have hjl : j < p.length := by rw [HP.out]; exact hlt
                have HB := Lib.hid (B0.out.trans ((B4.out.trans (hb.out.mono B4.out.size)).mono B0.out.size))
                obtain ⟨bA, off, rfl, hbA, d0, d1, d2, d3⟩ := (HJ.out.below HB.out).at1 hjl
                have hst := Lib.hid (cth_take hjl)
                generalize cth p j = y at *
                have i1 : (0 : Int) ≤ j := by omega
                have i2 : (j : Int) < pm := by omega
                have x3 : Below wr.heap.size wr (wr.alloc (.cells #[.int .i64 y.oa, .int .i64 y.ob, .int .i64 y.na, .int .i64 y.nb] 51)) := (Below.refl _ _).alloc (Nat.le_refl _) _
                have HB3 := Lib.hid (hb.out.trans (x3.mono hb.out.size))
                have HW3 := Lib.hid (HB.out.trans (x3.mono HB.out.size))
                clear x3 hb
                by_cases g1 : y.oa ≤ x
                · have k1 : decide (y.oa ≤ x) = true := decide_eq_true g1
                  by_cases g2 : x ≤ y.ob
                  · have k2 : decide (x ≤ y.ob) = true := decide_eq_true g2
                    clear g1 g2 hx hst
                    go_wp2_with fail
                    with_reducible refine (CB.out _).mono ?_
                    rintro e w40 ⟨rfl, b40⟩
                    have Q40 := Lib.hid (HW3.out.trans (b40.mono HW3.out.size))
                    clear b40
                    go_wp2
                    go_ret
                    exact ⟨by simp, Q40.out⟩
                  · have k2 : decide (x ≤ y.ob) = false := decide_eq_false g2
                    have HX := Lib.hid (show ∀ c ∈ p.take (j + 1), x < c.oa ∨ c.ob < x by
                      rw [hst.out]
                      intro c hc
                      rcases List.mem_append.1 hc with hc | hc
                      · exact hx.out c hc
                      · obtain rfl := List.mem_singleton.1 hc
                        omega)
                    clear hx hst g1 g2
                    go_wp2
                    go_roundg (gk - 1)
                    case measure => omega
                    case rel => exact ⟨j + 1, by go_num, by omega, by omega, HB3, HX⟩
                · have k1 : decide (y.oa ≤ x) = false := decide_eq_false g1
                  have HX := Lib.hid (show ∀ c ∈ p.take (j + 1), x < c.oa ∨ c.ob < x by
                    rw [hst.out]
                    intro c hc
                    rcases List.mem_append.1 hc with hc | hc
                    · exact hx.out c hc
                    · obtain rfl := List.mem_singleton.1 hc
                      omega)
                  clear hx hst g1
                  go_wp2
                  go_roundg (gk - 1)
                  case measure => omega
                  case rel => exact ⟨j + 1, by go_num, by omega, by omega, HB3, HX⟩
              · obtain rfl : pm = j := by omega
                have e2 : p.take pm = p := List.take_of_length_le (by rw [HP.out]; exact Nat.le_refl _)
                have hx2 := hx.out
                rw [e2] at hx2
                have hbs := HBS.out hx2
                have HB := Lib.hid (B4.out.trans (hb.out.mono B4.out.size))
                have HQ := Lib.hid hb.out
                clear hb hx hx2 e2 HBS B4
                go_wp2_with fail
                with_reducible refine (CIV.out _ HB.out).mono ?_
                rintro e5 w5 ⟨A5, c5, rfl, hI5, hC5, b5⟩
                have CS5 := Lib.hid (CSB.out A5 c5 w5 (HQ.out.trans (b5.mono HQ.out.size)) hI5)
                rw [hbs] at CS5
                have B5 := Lib.hid (HB.out.trans (b5.mono HB.out.size))
                clear hI5 hC5 b5 HB HQ CIV CSB
                go_wp2_with fail
                with_reducible refine (CS5.out).mono ?_
                rintro e6 w6 ⟨p6, rfl, _, hp6, b6⟩
                obtain ⟨s6, rfl, h6⟩ := hp6 trivial
                have B6 := Lib.hid (B5.out.trans (b6.mono B5.out.size))
                have CAL := Lib.hid (aAll_any h6 (by rw [lb2_len]; omega))
                clear hp6 b6 h6 B5 CS5
                go_wp2_with fail
                with_reducible refine (CAL.out).mono ?_
                rintro e7 w7 ⟨v7, rfl, o7, b7⟩
                obtain ⟨A7, c7, rfl, hR7, _, _⟩ := rows_of_own (o := lb2 x) encA_len (by omega) o7
                have HR7 := Lib.hid hR7
                have B7 := Lib.hid (B6.out.trans (b7.mono B6.out.size))
                clear o7 hR7 b7 B6 CAL
                go_wp2_with fail
                with_reducible refine (CRF.out _ B7.out).mono ?_
                rintro e8 w8 ⟨v8, rfl, o8, b8⟩
                obtain ⟨A8, c8, rfl, hR8, _, _⟩ := rows_of_own (o := lb2 x) encA_len (by omega) o8
                have B8 := Lib.hid (B7.out.trans (b8.mono B7.out.size))
                have CSM := Lib.hid (asame_any A7 A8 2 c7 c8 (lb2 x) w8 (HR7.out.below b8) hR8 rfl (by omega))
                clear o8 hR8 b8 B7 HR7 CRF
                go_wp2_with fail
                with_reducible refine (CSM.out).mono ?_
                rintro e9 w9 ⟨rfl, b9⟩
                have B9 := Lib.hid (B0.out.trans ((B8.out.trans (b9.mono B8.out.size)).mono B0.out.size))
                clear b9 B8 CSM
                go_wp2_with fail
                with_reducible refine (CB.out _).mono ?_
                rintro e w40 ⟨rfl, b40⟩
                have Q40 := Lib.hid (B9.out.trans (b40.mono B9.out.size))
                clear b40
                go_wp2
                go_ret
                exact ⟨by simp, Q40.out⟩
          · have k5 : (rs != 0) = true := by simp [hs0]
            have k6 : (rs == 0) = false := by simp [hs0]
            have B4' := B4
            clear HP4 HQ4 HRS HOK hids
            go_wp2_with fail
            with_reducible refine (CRF.out _ B4.out).mono ?_
            rintro e21 w21 ⟨v21, rfl, o21, b21⟩
            obtain ⟨A21, c21, rfl, hR21, _, hC21⟩ := rows_of_own encA_len (by omega) o21
            have CW21 := Lib.hid (CWR.out A21 c21 w21 hR21 hC21)
            have Q21 := Lib.hid (B4.out.trans (b21.mono B4.out.size))
            clear o21 hR21 hC21 b21 CRF CWR
            go_wp2_with fail
            with_reducible refine (CW21.out).mono ?_
            rintro e22 w22 ⟨rfl, b22⟩
            have Q22 := Lib.hid (Q21.out.trans (b22.mono Q21.out.size))
            clear b22 Q21 CW21
            have Q23 := Lib.hid (B0.out.trans (Q22.out.mono B0.out.size))
            go_wp2_with fail
            with_reducible refine (CB.out _).mono ?_
            rintro e w40 ⟨rfl, b40⟩
            have Q40 := Lib.hid (Q23.out.trans (b40.mono Q23.out.size))
            clear b40
            go_wp2
            go_ret
            exact ⟨by simp, Q40.out⟩
        · have k5 : (r != 0) = true := by simp [hr0]
          have k6 : (r == 0) = false := by simp [hr0]
          have HR0 := Lib.hid hr0
          obtain ⟨rs, hrs⟩ := shIs_ex 0 p []
          have CS := Lib.hid fun (W : World) (hW : Below W0.heap.size W0 W) => aShift_nil PA pm pc p (HJ.out.below (B0.out.trans (hW.mono B0.out.size))) HP.out (by omega) rs hrs _ rfl
          clear hr hr0 hrs hids
          go_wp2_with fail
          with_reducible refine (CN.out).mono ?_
          rintro e3 w3 ⟨p3, rfl, hp3, _, b3⟩
          obtain rfl := hp3 HR0.out
          have B3 := Lib.hid b3
          clear b3 hp3 CN
          go_wp2_with fail
          with_reducible refine (CS.out _ B3.out).mono ?_
          rintro e4 w4 ⟨p4, rfl, _, _, b4⟩
          have B4 := Lib.hid (B3.out.trans (b4.mono B3.out.size))
          clear b4 B3 CS
          go_wp2_with fail
          with_reducible refine (CRF.out _ B4.out).mono ?_
          rintro e21 w21 ⟨v21, rfl, o21, b21⟩
          obtain ⟨A21, c21, rfl, hR21, _, hC21⟩ := rows_of_own encA_len (by omega) o21
          have CW21 := Lib.hid (CWR.out A21 c21 w21 hR21 hC21)
          have Q21 := Lib.hid (B4.out.trans (b21.mono B4.out.size))
          clear o21 hR21 hC21 b21 CRF CWR
          go_wp2_with fail
          with_reducible refine (CW21.out).mono ?_
          rintro e22 w22 ⟨rfl, b22⟩
          have Q22 := Lib.hid (Q21.out.trans (b22.mono Q21.out.size))
          clear b22 Q21 CW21
          have Q23 := Lib.hid (B0.out.trans (Q22.out.mono B0.out.size))
          go_wp2_with fail
          with_reducible refine (CB.out _).mono ?_
          rintro e w40 ⟨rfl, b40⟩
          have Q40 := Lib.hid (Q23.out.trans (b40.mono Q23.out.size))
          clear b40
          go_wp2
          go_ret
          exact ⟨by simp, Q40.out⟩
end Go.Proofs.Ytncbhbjhfmbbkaa
