/- The walk of the law on anchors that stay. -/
import Derived.Test.YtncbhbjhfmbbkaaAnG
import Derived.Test.YtncbhbjhfmbbkaaAnI
namespace Go.Proofs.Ytncbhbjhfmbbkaa
open Go.RowKit Go.Sort
set_option linter.unusedVariables false
theorem mp_ge {M : Int} : ∀ {p q : Int} {fi : Bool} {l : List Ch}, nrm M p q fi l → ∀ (y bj : Int), p ≤ y → q ≤ mp p q l y bj
  | p, q, fi, [], _, y, bj, h => by unfold mp; omega
  | p, q, fi, c :: l, hn, y, bj, h => by
    obtain ⟨⟨c1, c2, c3, c4, c5, c6, c7, c8, c9, c10⟩, hl⟩ := hn
    unfold mp
    split
    · omega
    · split
      · split <;> omega
      · have := mp_ge hl y bj (by omega)
        omega
theorem mp_mono {M : Int} : ∀ {p q : Int} {fi : Bool} {l : List Ch}, nrm M p q fi l → ∀ (x y bi bj : Int), x ≤ y → bi ≤ bj → 0 ≤ bi → mp p q l x bi ≤ mp p q l y bj
  | p, q, fi, [], _, x, y, bi, bj, h, hb, h0 => by unfold mp; omega
  | p, q, fi, c :: l, hn, x, y, bi, bj, h, hb, h0 => by
    obtain ⟨⟨c1, c2, c3, c4, c5, c6, c7, c8, c9, c10⟩, hl⟩ := hn
    unfold mp
    by_cases g1 : x < c.oa
    · rw [if_pos g1]
      by_cases g2 : y < c.oa
      · rw [if_pos g2]; omega
      · rw [if_neg g2]
        by_cases g3 : y ≤ c.ob
        · rw [if_pos g3]; split <;> omega
        · rw [if_neg g3]
          have := mp_ge hl y bj (by omega)
          omega
    · rw [if_neg g1, if_neg (show ¬ y < c.oa by omega)]
      by_cases g2 : x ≤ c.ob
      · rw [if_pos g2]
        by_cases g3 : y ≤ c.ob
        · rw [if_pos g3]; split <;> split <;> omega
        · rw [if_neg g3]
          have := mp_ge hl y bj (by omega)
          split <;> omega
      · rw [if_neg g2, if_neg (show ¬ y ≤ c.ob by omega)]
        exact mp_mono hl x y bi bj h hb h0
theorem shIs_ex (n : Int) (p : List Ch) (o : List An) : ∃ r, ShIs n p o r := by
  by_cases hn : nrm M40 0 0 true p
  · by_cases hb : n < olast p
    · exact ⟨1, ⟨fun h => absurd hn h, fun _ _ => rfl, fun _ h => absurd hb h⟩⟩
    · exact ⟨awrong (n + dlt p) (ashift p o), ⟨fun h => absurd hn h, fun _ h => absurd h hb, fun _ _ => rfl⟩⟩
  · exact ⟨4, ⟨fun _ => rfl, fun h => absurd h hn, fun h => absurd h hn⟩⟩
theorem awrong_zero {n : Int} {l : List An} (h : awrong n l = 0) : 0 ≤ n ∧ n ≤ 1099511627776 ∧ l.length ≤ 200 ∧ Apart l ∧ ∀ a ∈ l, aOk n a := by
  unfold awrong at h
  split at h
  · cases h
  · rename_i h1
    split at h
    · cases h
    · obtain ⟨g1, g2⟩ := aw_apart h List.Pairwise.nil
      exact ⟨by omega, by omega, by omega, by simpa using g1, g2⟩
/-- Where an anchor of a set is behind a shift. -/
theorem shift_mem {p : List Ch} {l : List An} {a : An} (h : a ∈ l) : (⟨a.id, mp 0 0 p a.pl a.bi, a.bi⟩ : An) ∈ ord alt (ashift p (ord alt l)) := by
  rw [(ord_perm alt alt_swo _).mem_iff]
  exact List.mem_map.2 ⟨a, (ord_perm alt alt_swo l).mem_iff.2 h, rfl⟩
set_option maxHeartbeats 16000000 in
set_option maxRecDepth 100000 in
theorem anchorStays_walk (a : Int) (A : Option Addr) (m c : Nat) (l : List An) (PA : Option Addr) (pm pc : Nat) (p : List Ch) (w : World) (_wf : (Lit.int .i64 a).wf = true) (hI : RowsAt encA 3 w A l) (hl : l.length = m) (_hn : m ≤ maxLen) (hc : Caps A m c) (hO : ∀ x ∈ l, (Lit.int .i64 x.id).wf = true) (hJ : ChsAt w PA p) (hp : p.length = pm) (_hn2 : pm ≤ maxLen) (_hc2 : Caps PA pm pc) :
    Calls Try.prog 5 #[.int .i64 a, .slice A m c, .slice PA pm pc] w fun e w' => e = .returned (.bool true) ∧ Below w.heap.size w w' := by
  have CB := Lib.hid fun W => aBoth_any W
  have HI := Lib.hid hI
  have HL := Lib.hid hl
  have HC := Lib.hid hc
  have HO := Lib.hid hO
  have HJ := Lib.hid hJ
  have HP := Lib.hid hp
  clear hI hl hc hO hJ hp _wf _hn _hn2 _hc2
  by_cases g1 : 60 < m
  · have k1 : decide (60 < m) = true := decide_eq_true g1
    have k2 : decide ((60 : Int) < (m : Int)) = true := decide_eq_true (by omega)
    go_enter Try.func5, Try.ntmps5
    go_wp2_with fail
    with_reducible refine (CB.out _).mono ?_
    rintro e w1 ⟨rfl, h2⟩
    go_wp2
    go_ret
    exact ⟨rfl, h2⟩
  · have k1 : decide (60 < m) = false := decide_eq_false g1
    have k2 : decide ((60 : Int) < (m : Int)) = false := decide_eq_false (by omega)
    by_cases g2 : 100 < pm
    · have k3 : decide (100 < pm) = true := decide_eq_true g2
      have k4 : decide ((100 : Int) < (pm : Int)) = true := decide_eq_true (by omega)
      go_enter Try.func5, Try.ntmps5
      go_wp2_with fail
      with_reducible refine (CB.out _).mono ?_
      rintro e w1 ⟨rfl, h2⟩
      go_wp2
      go_ret
      exact ⟨rfl, h2⟩
    · have k3 : decide (100 < pm) = false := decide_eq_false g2
      have k4 : decide ((100 : Int) < (pm : Int)) = false := decide_eq_false (by omega)
      obtain ⟨r, hr⟩ : ∃ r, awrong a l = r := ⟨_, rfl⟩
      have CN := Lib.hid (aNew_any a A m c l w HI.out HC.out HL.out HO.out r hr)
      have CRF := Lib.hid fun (W : World) (hW : Below w.heap.size w W) => arefs_any A m c l W (HI.out.below hW) HL.out (by omega)
      have CWR := Lib.hid fun (A' : Option Addr) (c' : Nat) (W : World) (h1 : RowsAt encA 3 W A' l) (h2 : Caps A' m c') => rWrong_any a A' m c' l W h1 h2 HL.out r hr
      by_cases hr0 : r = 0
      · subst hr0
        obtain ⟨z0, z40, _, hap, hok⟩ := awrong_zero hr
        have HOP := Lib.hid (ord_perm alt alt_swo l)
        have hol : (ord alt l).length ≤ 100000 := by rw [HOP.out.length_eq, HL.out]; omega
        obtain ⟨rs, hrs⟩ := shIs_ex a p (ord alt l)
        have CS := Lib.hid fun (W : World) (sb : Nat) (hW : Below w.heap.size w W) (hS : ASet W sb a (ord alt l)) => aShift_any hS PA pm pc p (HJ.out.below hW) HP.out (by omega) z0 z40 (fun x hx => hok x (HOP.out.mem_iff.1 hx)) (fun x hx => HO.out x (HOP.out.mem_iff.1 hx)) hol rs hrs _ rfl
        have HOK := Lib.hid hok
        have HRS := Lib.hid hrs
        clear hr hap hok hol hrs
        by_cases hs0 : rs = 0
        · subst hs0
          have hnr : nrm M40 0 0 true p := Classical.byContradiction fun h => absurd (HRS.out.1 h) (by decide)
          have HNR := Lib.hid hnr
          clear hnr HRS CWR CRF
          go_enter Try.func5, Try.ntmps5
          go_wp2_with fail
          with_reducible refine (CN.out).mono ?_
          rintro e1 w1 ⟨p1, rfl, _, hp1, b1⟩
          obtain ⟨s1, rfl, h1⟩ := hp1 trivial
          have CS1 := Lib.hid (CS.out w1 s1 b1 h1)
          clear hp1 CN h1 CS
          go_wp2_with fail
          with_reducible refine (CS1.out).mono ?_
          rintro e2 w2 ⟨p2, rfl, _, hp2, b2⟩
          obtain ⟨s2, rfl, h2⟩ := hp2 trivial
          have Q2 := Lib.hid (b1.trans (b2.mono b1.size))
          have H2 := Lib.hid h2
          generalize a + dlt p = nd at *
          clear hp2 CS1 h2 b1 b2
          go_wp2_with fail
          go_loopg [59] m (fun g i wr => ∃ (k : Nat), i = .int .i64 k ∧ k ≤ m ∧ m - k ≤ g ∧ Hid (Below w2.heap.size w2 wr))
          case atStart => exact ⟨0, rfl, by omega, by omega, Lib.hid (Below.refl _ _)⟩
          case round =>
            obtain ⟨k, rfl, h1, h2, hb⟩ := hrel
            obtain ⟨gO, hgO⟩ : ∃ g, g = gk := ⟨_, rfl⟩
            subst hgO
            by_cases hlt : k < m
            · have hkl : k < l.length := by rw [HL.out]; exact hlt
              have HBW := Lib.hid (Q2.out.trans (hb.out.mono Q2.out.size))
              obtain ⟨bA, off, rfl, hbA, hce⟩ := (HI.out.below HBW.out).at1 hkl
              have hmx := List.getElem_mem hkl
              have f0 := hce 0 (by omega)
              have f1 := hce 1 (by omega)
              have f2 := hce 2 (by omega)
              rw [Nat.add_zero] at f0
              clear hce
              generalize l[k] = x at *
              simp [encA] at f0 f1 f2
              have HMX := Lib.hid hmx
              have HOX := Lib.hid (HOK.out x hmx)
              have i1 : (0 : Int) ≤ k := by omega
              have i2 : (k : Int) < m := by omega
              have x3 : Below wr.heap.size wr (wr.alloc (.cells #[.int .i64 x.id, .int .i64 x.pl, .int .i64 x.bi] 36)) := (Below.refl _ _).alloc (Nat.le_refl _) _
              have R3 : RawAt 36 (wr.alloc (.cells #[.int .i64 x.id, .int .i64 x.pl, .int .i64 x.bi] 36)) wr.heap.size #[.int .i64 x.id, .int .i64 x.pl, .int .i64 x.bi] := heap_alloc_new wr _
              have e0 := RawAt.cell R3 0
              simp at e0
              have HR3 := Lib.hid R3
              have HB3 := Lib.hid (hb.out.trans (x3.mono hb.out.size))
              have CG := Lib.hid (aGet_yes (H2.out.below HB3.out) x.id (HO.out x hmx) (shift_mem hmx) rfl)
              clear hmx R3 x3 hb
              obtain ⟨zx, hzx⟩ : ∃ z, mp 0 0 p x.pl x.bi = z := ⟨_, rfl⟩
              have HZX := Lib.hid hzx
              rw [hzx] at CG
              clear hzx
              go_wp2_with fail
              with_reducible refine (CG.out).mono ?_
              rintro e4 w4 ⟨rfl, b4⟩
              have x5 : Below w4.heap.size w4 (w4.alloc (.cells #[.int .i64 x.id, .int .i64 zx, .int .i64 x.bi] 36)) := (Below.refl _ _).alloc (Nat.le_refl _) _
              have R5 : RawAt 36 (w4.alloc (.cells #[.int .i64 x.id, .int .i64 zx, .int .i64 x.bi] 36)) w4.heap.size #[.int .i64 x.id, .int .i64 zx, .int .i64 x.bi] := heap_alloc_new w4 _
              have HR5 := Lib.hid R5
              have HB5 := Lib.hid (HB3.out.trans ((b4.trans (x5.mono b4.size)).mono HB3.out.size))
              have HR3 := Lib.hid (RawAt.below (RawAt.below HR3.out b4 HR3.out.lt) x5 (Nat.lt_of_lt_of_le HR3.out.lt b4.size))
              clear b4 x5 R5 HB3 CG HBW
              go_wp2_with fail
              generalize wr.heap.size = bx at *
              generalize w4.heap.size = bz at *
              go_loopg [74] m (fun g i wr2 => ∃ (j : Nat), i = .int .i64 j ∧ j ≤ m ∧ m - j ≤ g ∧ Hid (Below w2.heap.size w2 wr2) ∧ Hid (RawAt 36 wr2 bx #[.int .i64 x.id, .int .i64 x.pl, .int .i64 x.bi]) ∧ Hid (RawAt 36 wr2 bz #[.int .i64 x.id, .int .i64 zx, .int .i64 x.bi]))
              case atStart => exact ⟨0, rfl, by omega, by omega, HB5, HR3, HR5⟩
              case round =>
                obtain ⟨j, rfl, j1, j2, hb, hrx, hrz⟩ := hrel
                clear HB5 HR3 HR5
                by_cases hlt2 : j < m
                · have hjl : j < l.length := by rw [HL.out]; exact hlt2
                  have HBW := Lib.hid (Q2.out.trans (hb.out.mono Q2.out.size))
                  obtain ⟨bA2, off2, hA2, hbA2, hce2⟩ := (HI.out.below HBW.out).at1 hjl
                  injection hA2 with hA2
                  injection hA2 with hA3 hA4
                  subst hA3
                  subst hA4
                  have hmy := List.getElem_mem hjl
                  have y0 := hce2 0 (by omega)
                  have y1 := hce2 1 (by omega)
                  have y2 := hce2 2 (by omega)
                  rw [Nat.add_zero] at y0
                  clear hce2
                  generalize l[j] = y at *
                  simp [encA] at y0 y1 y2
                  have i3 : (0 : Int) ≤ j := by omega
                  have i4 : (j : Int) < m := by omega
                  have x6 : Below wr.heap.size wr (wr.alloc (.cells #[.int .i64 y.id, .int .i64 y.pl, .int .i64 y.bi] 36)) := (Below.refl _ _).alloc (Nat.le_refl _) _
                  have R6 : RawAt 36 (wr.alloc (.cells #[.int .i64 y.id, .int .i64 y.pl, .int .i64 y.bi] 36)) wr.heap.size #[.int .i64 y.id, .int .i64 y.pl, .int .i64 y.bi] := heap_alloc_new wr _
                  have g0 := RawAt.cell R6 0
                  simp at g0
                  have HR6 := Lib.hid R6
                  have HX6 := Lib.hid (RawAt.below hrx.out x6 hrx.out.lt)
                  have HZ6 := Lib.hid (RawAt.below hrz.out x6 hrz.out.lt)
                  have HB6 := Lib.hid (hb.out.trans (x6.mono hb.out.size))
                  have CG2 := Lib.hid (aGet_yes (H2.out.below HB6.out) y.id (HO.out y hmy) (shift_mem hmy) rfl)
                  have HMON : Hid (x.pl ≤ y.pl → x.bi ≤ y.bi → zx ≤ mp 0 0 p y.pl y.bi) := Lib.hid (fun h1 h2 => by rw [← HZX.out]; exact mp_mono HNR.out _ _ _ _ h1 h2 (by rcases HOX.out.2.2 with h | h <;> omega))
                  clear hmy R6 x6 hb hrx hrz HBW
                  generalize mp 0 0 p y.pl y.bi = zy at *
                  go_wp2_with fail
                  with_reducible refine (CG2.out).mono ?_
                  rintro e7 w7 ⟨rfl, b7⟩
                  have x8 : Below w7.heap.size w7 (w7.alloc (.cells #[.int .i64 y.id, .int .i64 zy, .int .i64 y.bi] 36)) := (Below.refl _ _).alloc (Nat.le_refl _) _
                  have R8 : RawAt 36 (w7.alloc (.cells #[.int .i64 y.id, .int .i64 zy, .int .i64 y.bi] 36)) w7.heap.size #[.int .i64 y.id, .int .i64 zy, .int .i64 y.bi] := heap_alloc_new w7 _
                  have y8 := b7.trans (x8.mono b7.size)
                  have R6' := RawAt.below HR6.out y8 HR6.out.lt
                  have X8 := RawAt.below HX6.out y8 HX6.out.lt
                  have Z8 := RawAt.below HZ6.out y8 HZ6.out.lt
                  have u1 := RawAt.cell R6' 1
                  have u2 := RawAt.cell R6' 2
                  have u3 := RawAt.cell X8 1
                  have u4 := RawAt.cell X8 2
                  have u5 := RawAt.cell Z8 1
                  have u6 := RawAt.cell R8 1
                  simp at u1 u2 u3 u4 u5 u6
                  have HB8 := Lib.hid (HB6.out.trans (y8.mono HB6.out.size))
                  have HX8 := Lib.hid X8
                  have HZ8 := Lib.hid Z8
                  clear b7 x8 y8 R6' X8 Z8 R8 HB6 HR6 HX6 HZ6 CG2
                  by_cases q1 : x.pl ≤ y.pl
                  · have k7 : decide (x.pl ≤ y.pl) = true := decide_eq_true q1
                    by_cases q2 : x.bi ≤ y.bi
                    · have k8 : decide (x.bi ≤ y.bi) = true := decide_eq_true q2
                      have q3 := HMON.out q1 q2
                      have k9 : decide (zy < zx) = false := decide_eq_false (by omega)
                      clear q1 q2 q3 HMON
                      go_wp2
                      go_roundg (gk - 1)
                      case measure => omega
                      case rel => exact ⟨j + 1, by go_num, by omega, by omega, HB8, HX8, HZ8⟩
                    · have k8 : decide (x.bi ≤ y.bi) = false := decide_eq_false q2
                      clear q1 q2 HMON
                      go_wp2
                      go_roundg (gk - 1)
                      case measure => omega
                      case rel => exact ⟨j + 1, by go_num, by omega, by omega, HB8, HX8, HZ8⟩
                  · have k7 : decide (x.pl ≤ y.pl) = false := decide_eq_false q1
                    clear q1 HMON
                    go_wp2
                    go_roundg (gk - 1)
                    case measure => omega
                    case rel => exact ⟨j + 1, by go_num, by omega, by omega, HB8, HX8, HZ8⟩
                · clear hrx hrz
                  go_wp2
                  go_roundg (gO - 1)
                  case measure => omega
                  case rel => exact ⟨k + 1, by go_num, by omega, by omega, hb⟩
            · obtain rfl : m = k := by omega
              have q := Q2.out.trans (hb.out.mono Q2.out.size)
              clear hb
              go_wp2_with fail
              with_reducible refine (CB.out _).mono ?_
              rintro e5 w5 ⟨rfl, b5⟩
              have q5 := Lib.hid (q.trans (b5.mono q.size))
              go_wp2
              go_ret
              exact ⟨rfl, q5.out⟩
        · have k5 : (rs != 0) = true := by simp [hs0]
          have k6 : (rs == 0) = false := by simp [hs0]
          have HS0 := Lib.hid hs0
          clear hs0 HRS
          go_enter Try.func5, Try.ntmps5
          go_wp2_with fail
          with_reducible refine (CN.out).mono ?_
          rintro e1 w1 ⟨p1, rfl, _, hp1, b1⟩
          obtain ⟨s1, rfl, h1⟩ := hp1 trivial
          have CS1 := Lib.hid (CS.out w1 s1 b1 h1)
          clear hp1 CN h1 CS
          go_wp2_with fail
          with_reducible refine (CS1.out).mono ?_
          rintro e2 w2 ⟨p2, rfl, hp2, _, b2⟩
          obtain rfl := hp2 HS0.out
          have Q2 := Lib.hid (b1.trans (b2.mono b1.size))
          clear hp2 CS1 b1 b2
          go_wp2_with fail
          with_reducible refine (CRF.out _ Q2.out).mono ?_
          rintro e3 w3 ⟨v3, rfl, o3, b3⟩
          obtain ⟨A3, c3, rfl, hR3, _, hC3⟩ := rows_of_own encA_len (by omega) o3
          have CW3 := Lib.hid (CWR.out A3 c3 w3 hR3 hC3)
          have Q3 := Lib.hid (Q2.out.trans (b3.mono Q2.out.size))
          clear o3 hR3 hC3 b3 CRF CWR
          go_wp2_with fail
          with_reducible refine (CW3.out).mono ?_
          rintro e4 w4 ⟨rfl, b4⟩
          have Q4 := Lib.hid (Q3.out.trans (b4.mono Q3.out.size))
          clear b4 CW3
          go_wp2_with fail
          with_reducible refine (CB.out _).mono ?_
          rintro e5 w5 ⟨rfl, b5⟩
          have Q5 := Lib.hid (Q4.out.trans (b5.mono Q4.out.size))
          go_wp2
          go_ret
          exact ⟨rfl, Q5.out⟩
      · have k5 : (r != 0) = true := by simp [hr0]
        have k6 : (r == 0) = false := by simp [hr0]
        have HS0 := Lib.hid hr0
        obtain ⟨rs, hrs⟩ := shIs_ex 0 p []
        have CS := Lib.hid fun (W : World) (hW : Below w.heap.size w W) => aShift_nil (w := W) PA pm pc p (HJ.out.below hW) HP.out (by omega) rs hrs _ rfl
        clear hr0 hr hrs
        go_enter Try.func5, Try.ntmps5
        go_wp2_with fail
        with_reducible refine (CN.out).mono ?_
        rintro e1 w1 ⟨p1, rfl, hp1, _, b1⟩
        obtain rfl := hp1 HS0.out
        clear hp1 CN
        go_wp2_with fail
        with_reducible refine (CS.out _ b1).mono ?_
        rintro e2 w2 ⟨p2, rfl, _, _, b2⟩
        have Q2 := Lib.hid (b1.trans (b2.mono b1.size))
        clear CS b1 b2
        go_wp2_with fail
        with_reducible refine (CRF.out _ Q2.out).mono ?_
        rintro e3 w3 ⟨v3, rfl, o3, b3⟩
        obtain ⟨A3, c3, rfl, hR3, _, hC3⟩ := rows_of_own encA_len (by omega) o3
        have CW3 := Lib.hid (CWR.out A3 c3 w3 hR3 hC3)
        have Q3 := Lib.hid (Q2.out.trans (b3.mono Q2.out.size))
        clear o3 hR3 hC3 b3 CRF CWR
        go_wp2_with fail
        with_reducible refine (CW3.out).mono ?_
        rintro e4 w4 ⟨rfl, b4⟩
        have Q4 := Lib.hid (Q3.out.trans (b4.mono Q3.out.size))
        clear b4 CW3
        go_wp2_with fail
        with_reducible refine (CB.out _).mono ?_
        rintro e5 w5 ⟨rfl, b5⟩
        have Q5 := Lib.hid (Q4.out.trans (b5.mono Q4.out.size))
        go_wp2
        go_ret
        exact ⟨rfl, Q5.out⟩
end Go.Proofs.Ytncbhbjhfmbbkaa
