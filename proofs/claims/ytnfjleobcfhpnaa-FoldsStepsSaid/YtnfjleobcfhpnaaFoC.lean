/- Folds: the contracts of spans and New. -/
import Derived.Test.YtnfjleobcfhpnaaFoB
import Derived.Shelf.SlSortCmp.NoneTotal
namespace Go.Proofs.Ytnfjleobcfhpnaa
open Go.RowKit Go.Sort
set_option linter.unusedVariables false
theorem fSort_none (p : Option Addr) (cap : Nat) (w : World) : Calls Try.prog 37 #[.slice p 0 cap, .func (.func 38) #[] #[]] w fun e w' => e = .returned (.tuple #[]) ∧ w' = w := AnyF.slices_SortFunc_none Try.sortFo p cap _ w
theorem fbool_zero (w : World) : (zeroValue 4).run Try.prog w = .ok (.bool false) w := by kernel_rfl
/-- Is it a span of places of n runes? -/
def fsp (a : Fo) (n : Int) : Prop := 0 ≤ a.f ∧ a.f ≤ a.t ∧ a.t ≤ n
instance (a : Fo) (n : Int) : Decidable (fsp a n) := by unfold fsp; exact inferInstance
set_option maxHeartbeats 4000000 in
set_option maxRecDepth 100000 in
theorem fSpans_any (a : Fo) (n : Int) (w : World) : Calls Try.prog 35 #[.agg #[.int .i64 a.f, .int .i64 a.t], .int .i64 n] w fun e w' => e = .returned (.bool (decide (fsp a n))) ∧ Below w.heap.size w w' := by
  have x1 : Below w.heap.size w (w.alloc (.cells #[.int .i64 a.f, .int .i64 a.t] 33)) := (Below.refl _ _).alloc (Nat.le_refl _) _
  have R1 : RawAt 33 (w.alloc (.cells #[.int .i64 a.f, .int .i64 a.t] 33)) w.heap.size #[.int .i64 a.f, .int .i64 a.t] := heap_alloc_new w _
  have c0 := RawAt.cell R1 0
  have c1 := RawAt.cell R1 1
  simp at c0 c1
  obtain ⟨r, hr⟩ : ∃ r, decide (fsp a n) = r := ⟨_, rfl⟩
  have HR := Lib.hid hr
  rw [hr]
  have X1 := Lib.hid x1
  clear hr R1 x1
  by_cases g1 : 0 ≤ a.f
  · have k1 : decide (0 ≤ a.f) = true := decide_eq_true g1
    by_cases g2 : a.f ≤ a.t
    · have k2 : decide (a.f ≤ a.t) = true := decide_eq_true g2
      by_cases g3 : a.t ≤ n
      · have k3 : decide (a.t ≤ n) = true := decide_eq_true g3
        have e : r = true := by rw [← HR.out]; exact decide_eq_true ⟨g1, g2, g3⟩
        subst e
        clear HR g1 g2 g3
        go_enter Try.func35, Try.ntmps35
        go_wp2
        go_ret
        exact ⟨rfl, X1.out⟩
      · have k3 : decide (a.t ≤ n) = false := decide_eq_false g3
        have e : r = false := by rw [← HR.out]; exact decide_eq_false (fun h => g3 h.2.2)
        subst e
        clear HR g1 g2 g3
        go_enter Try.func35, Try.ntmps35
        go_wp2
        go_ret
        exact ⟨rfl, X1.out⟩
    · have k2 : decide (a.f ≤ a.t) = false := decide_eq_false g2
      have e : r = false := by rw [← HR.out]; exact decide_eq_false (fun h => g2 h.2.1)
      subst e
      clear HR g1 g2
      go_enter Try.func35, Try.ntmps35
      go_wp2
      go_ret
      exact ⟨rfl, X1.out⟩
  · have k1 : decide (0 ≤ a.f) = false := decide_eq_false g1
    have e : r = false := by rw [← HR.out]; exact decide_eq_false (fun h => g1 h.1)
    subst e
    clear HR g1
    go_enter Try.func35, Try.ntmps35
    go_wp2
    go_ret
    exact ⟨rfl, X1.out⟩
/-- What is wrong with folds behind others. -/
def fw (n : Int) : List Fo → List Fo → Int
  | _, [] => 0
  | seen, a :: l => if ¬ (fsp a n ∧ a.f ≠ a.t) then 1 else if a ∈ seen then 8 else fw n (seen ++ [a]) l
def fwrong (n : Int) (l : List Fo) : Int := if n < 0 ∨ 1099511627776 < n then 1 else if 60 < l.length then 5 else fw n [] l
/-- What the map has. -/
def fseen (l : List Fo) (x : WFo) : Option Value := if x.1 ∈ l then some (.bool true) else none
theorem fseen_snoc (l : List Fo) (k x : WFo) : (if x = k then some (.bool true) else fseen l x) = fseen (l ++ [k.1]) x := by
  unfold fseen
  by_cases e : x = k
  · subst e; simp
  · have : x.1 ≠ k.1 := fun h => e (Subtype.ext h)
    rw [if_neg e]
    by_cases h : x.1 ∈ l <;> simp [h, this]
set_option maxHeartbeats 16000000 in
set_option maxRecDepth 100000 in
theorem fNew_any (n : Int) (A : Option Addr) (m c : Nat) (l : List Fo) (w : World) (hA : RowsAt encF 2 w A l) (hcap : Caps A m c) (hl : l.length = m) (hwf : ∀ a ∈ l, (Lit.int .i64 a.f).wf = true ∧ (Lit.int .i64 a.t).wf = true) (r : Int) (hr : fwrong n l = r) :
    Calls Try.prog 11 #[.int .i64 n, .slice A m c] w fun e w' => ∃ p, e = .returned (.tuple #[p, .int .i64 r]) ∧ (r ≠ 0 → p = .pointer none) ∧ (r = 0 → ∃ sb, p = .pointer (some ⟨sb, 0, none⟩) ∧ FSet w' sb n (ord flt l)) ∧ Below w.heap.size w w' := by
  have hmm := @run_makeMap Try.prog
  have HR := Lib.hid hr
  have HL := Lib.hid hl
  have HC := Lib.hid hcap
  have HA := Lib.hid hA
  have HW := Lib.hid hwf
  clear hA hl hcap hr hwf
  by_cases g1 : n < 0
  · have k1 : decide (n < 0) = true := decide_eq_true g1
    have e : r = 1 := by rw [← HR.out]; unfold fwrong; rw [if_pos (.inl g1)]
    subst e
    clear hmm HR
    go_enter Try.func11, Try.ntmps11
    go_wp2
    go_ret2
    first | exact ⟨_, rfl, rfl, Below.refl _ _⟩ | exact ⟨_, rfl, fun _ => rfl, fun h => absurd h (by decide), Below.refl _ _⟩
  · have k1 : decide (n < 0) = false := decide_eq_false g1
    by_cases g2 : 1099511627776 < n
    · have k2 : decide (1099511627776 < n) = true := decide_eq_true g2
      have e : r = 1 := by rw [← HR.out]; unfold fwrong; rw [if_pos (.inr g2)]
      subst e
      clear hmm HR
      go_enter Try.func11, Try.ntmps11
      go_wp2
      go_ret2
      first | exact ⟨_, rfl, rfl, Below.refl _ _⟩ | exact ⟨_, rfl, fun _ => rfl, fun h => absurd h (by decide), Below.refl _ _⟩
    · have k2 : decide (1099511627776 < n) = false := decide_eq_false g2
      by_cases g3 : 60 < m
      · have k3 : decide (60 < m) = true := decide_eq_true g3
        have k4 : decide ((60 : Int) < (m : Int)) = true := decide_eq_true (by omega)
        have e : r = 5 := by rw [← HR.out]; unfold fwrong; rw [if_neg (by omega), if_pos (by rw [HL.out]; exact g3)]
        subst e
        clear hmm HR
        go_enter Try.func11, Try.ntmps11
        go_wp2
        go_ret2
        first | exact ⟨_, rfl, rfl, Below.refl _ _⟩ | exact ⟨_, rfl, fun _ => rfl, fun h => absurd h (by decide), Below.refl _ _⟩
      · skip
        have k3 : decide (60 < m) = false := decide_eq_false g3
        have k4 : decide ((60 : Int) < (m : Int)) = false := decide_eq_false (by omega)
        have e : r = fw n [] l := by rw [← HR.out]; unfold fwrong; rw [if_neg (by omega), if_neg (by rw [HL.out]; exact g3)]
        have HE := Lib.hid e
        clear e HR
        have CI := Lib.hid fun a W => fSpans_any a n W
        have x0 : Below w.heap.size w (w.alloc (.map #[] 0)) := (Below.refl _ _).alloc (Nat.le_refl _) _
        have M0 := Lib.hid (MapV.made (P := Try.prog) (K := 33) (kl := fkl) w)
        go_enter Try.func11, Try.ntmps11
        go_wp2_with fail
        go_loopg [22] m (fun g i wr => ∃ (k : Nat), i = .int .i64 k ∧ k ≤ m ∧ m - k ≤ g ∧ Hid (Below w.heap.size w wr) ∧ Hid (MapV Try.prog 33 fkl wr w.heap.size k (fseen (l.take k))) ∧ Hid (r = fw n (l.take k) (l.drop k)))
        case atStart => exact ⟨0, rfl, by omega, by omega, Lib.hid x0, Lib.hid (MapV.congr M0.out fun x => by simp [fseen]), Lib.hid (by simpa using HE.out)⟩
        case round =>
          obtain ⟨k, rfl, h1, h2, hb, hM, hck⟩ := hrel
          clear M0 x0 HE
          by_cases hlt : k < m
          · have hkl : k < l.length := by rw [HL.out]; exact hlt
            obtain ⟨bA, off, rfl, hbA, hce⟩ := (HA.out.below hb.out).at1 hkl
            have hwk := HW.out _ (List.getElem_mem hkl)
            have f0 := hce 0 (by omega)
            have f1 := hce 1 (by omega)
            rw [Nat.add_zero] at f0
            have hdr : l.drop k = l[k] :: l.drop (k + 1) := List.drop_eq_getElem_cons hkl
            have htk : l.take (k + 1) = l.take k ++ [l[k]] := by rw [List.take_succ_eq_append_getElem hkl]
            have hst := hck.out
            rw [hdr, fw] at hst
            rw [← htk] at hst
            have HST := Lib.hid hst
            have HTK := Lib.hid htk
            clear hst htk hdr hck
            generalize l[k] = o at *
            clear hce
            simp [encF] at f0 f1
            have i1 : (0 : Int) ≤ k := by omega
            have i2 : (k : Int) < m := by omega
            have HWK := Lib.hid hwk
            have x3 : Below wr.heap.size wr (wr.alloc (.cells #[.int .i64 o.f, .int .i64 o.t] 33)) := (Below.refl _ _).alloc (Nat.le_refl _) _
            have R3 : RawAt 33 (wr.alloc (.cells #[.int .i64 o.f, .int .i64 o.t] 33)) wr.heap.size #[.int .i64 o.f, .int .i64 o.t] := heap_alloc_new wr _
            have e0 := RawAt.cell R3 0
            have e1 := RawAt.cell R3 1
            simp at e0 e1
            have HR3 := Lib.hid R3
            have HB3 := Lib.hid (hb.out.trans (x3.mono hb.out.size))
            have HM3 := Lib.hid (hM.out.below x3)
            have CI1 := Lib.hid fun W => CI.out o W
            clear R3 hb hM x3 hwk
            by_cases g4 : fsp o n
            · have e4 : decide (fsp o n) = true := decide_eq_true g4
              rw [e4] at CI1
              clear e4
              by_cases g5 : o.f = o.t
              · have e : r = 1 := by rw [HST.out, if_pos (fun h => h.2 g5)]
                subst e
                have k5 : (o.f == o.t) = true := by simp [g5]
                have k6 : decide (o.f = o.t) = true := decide_eq_true g5
                clear HST g5 g4
                go_wp2_with fail
                with_reducible refine (CI1.out _).mono ?_
                rintro e w4 ⟨rfl, b4⟩
                have R4 := RawAt.below HR3.out b4 HR3.out.lt
                have q4 := HB3.out.trans (b4.mono HB3.out.size)
                have c0 := RawAt.cell R4 0
                have c1 := RawAt.cell R4 1
                simp at c0 c1
                go_wp2
                go_ret2
                first | exact ⟨_, rfl, rfl, q4⟩ | exact ⟨_, rfl, fun _ => rfl, fun h => absurd h (by decide), q4⟩
              · have k5 : (o.f == o.t) = false := by simp [g5]
                have k6 : decide (o.f = o.t) = false := decide_eq_false g5
                have HST2 : Hid (r = if o ∈ l.take k then 8 else fw n (l.take (k + 1)) (l.drop (k + 1))) := Lib.hid (by rw [HST.out, if_neg (fun h => h ⟨g4, g5⟩)])
                clear HST g4 g5
                go_wp2_with fail
                with_reducible refine (CI1.out _).mono ?_
                rintro e w4 ⟨rfl, b4⟩
                have HM4 := HM3.out.below b4
                have R4 := RawAt.below HR3.out b4 HR3.out.lt
                have q4 := HB3.out.trans (b4.mono HB3.out.size)
                have c0 := RawAt.cell R4 0
                have c1 := RawAt.cell R4 1
                simp at c0 c1
                have L4 := HM4.look1 fkey Try.underlying81 (fbool_zero _) ⟨o, HWK.out⟩ trivial
                by_cases g6 : o ∈ l.take k
                · have e : r = 8 := by rw [HST2.out, if_pos g6]
                  subst e
                  have L4 : (Instr.lookup 81 (.map (some w.heap.size)) (.agg #[.int .i64 o.f, .int .i64 o.t]) false).run Try.prog w4 = .ok (.bool true) w4 := by
                    have := L4
                    unfold fseen at this
                    rw [if_pos g6] at this
                    exact this
                  have HL4 := Lib.hid L4
                  clear L4 g6 HST2 HM4
                  go_wp2_with (at_lookup; refine wpList_lookV1 rfl (.tmp 37) (.tmp 38) _ rfl _ _ rfl rfl HL4.out ?_)
                  go_ret2
                  first | exact ⟨_, rfl, rfl, q4⟩ | exact ⟨_, rfl, fun _ => rfl, fun h => absurd h (by decide), q4⟩
                · have L4 : (Instr.lookup 81 (.map (some w.heap.size)) (.agg #[.int .i64 o.f, .int .i64 o.t]) false).run Try.prog w4 = .ok (.bool false) w4 := by
                    have := L4
                    unfold fseen at this
                    rw [if_neg g6] at this
                    exact this
                  have HN : Hid (r = fw n (l.take (k + 1)) (l.drop (k + 1))) := Lib.hid (by rw [HST2.out, if_neg g6])
                  have HL4 := Lib.hid L4
                  obtain ⟨w6, hrun, hM6, hg6⟩ := HM4.store fkey Try.underlying81 (by simp only [maxLen]; omega) ⟨o, HWK.out⟩ trivial (.bool true)
                  have HRUN := Lib.hid hrun
                  have HM6 : Hid (MapV Try.prog 33 fkl w6 w.heap.size (k + 1) (fseen (l.take (k + 1)))) := Lib.hid (MapV.congr hM6 fun x => by rw [HTK.out]; exact fseen_snoc _ _ _)
                  have HB6 := Lib.hid (q4.grown hg6 q4.size (fun j hj => by injection hj with hj; omega))
                  clear L4 HM4 q4 g6 HST2 hrun hM6 hg6 R4
                  go_wp2_with (first | (at_lookup; refine wpList_lookV1 rfl (.tmp 37) (.tmp 38) _ rfl _ _ rfl rfl HL4.out ?_) | (at_mapUpdate; refine wpList_storeV rfl (.tmp 40) (.tmp 41) (.const (.bool true)) _ rfl _ _ _ rfl rfl rfl HRUN.out ?_))
                  go_roundg (gk - 1)
                  case measure => omega
                  case rel => exact ⟨k + 1, by go_num, by omega, by omega, HB6, HM6, HN⟩
            · have e4 : decide (fsp o n) = false := decide_eq_false g4
              rw [e4] at CI1
              have e : r = 1 := by rw [HST.out, if_pos (fun h => g4 h.1)]
              subst e
              clear HST g4 e4
              go_wp2_with fail
              with_reducible refine (CI1.out _).mono ?_
              rintro e w4 ⟨rfl, b4⟩
              have q4 := HB3.out.trans (b4.mono HB3.out.size)
              go_wp2
              go_ret2
              first | exact ⟨_, rfl, rfl, q4⟩ | exact ⟨_, rfl, fun _ => rfl, fun h => absurd h (by decide), q4⟩
          · obtain rfl : k = m := by omega
            have e1 : l.take k = l := List.take_of_length_le (by rw [HL.out]; exact Nat.le_refl _)
            have e2 : l.drop k = [] := List.drop_of_length_le (by rw [HL.out]; exact Nat.le_refl _)
            have hck2 := hck.out
            rw [e1, e2, fw] at hck2
            subst hck2
            have CC := Lib.hid (fClone_any A k c l wr (HA.out.below hb.out) HC.out HL.out (by omega))
            have HB := Lib.hid hb.out
            have HLO : Hid ((ord flt l).length = k) := Lib.hid (by rw [(ord_perm flt flt_swo _).length_eq]; exact HL.out)
            clear hb hM hck e1 e2
            go_wp2_with fail
            with_reducible refine (CC.out).mono ?_
            rintro e w4 ⟨v4, rfl, o4, b4, _⟩
            have HB4 := Lib.hid (HB.out.trans (b4.mono HB.out.size))
            obtain ⟨A4, c4, rfl⟩ := own_formF o4
            obtain ⟨B, hBB⟩ : ∃ B, B = wr.heap.size := ⟨_, rfl⟩
            have hwB : w.heap.size ≤ B := by rw [hBB]; exact HB.out.size
            rw [← hBB] at o4
            clear b4 CC hBB HB
            rcases Nat.eq_zero_or_pos k with hk0 | hkp
            · subst hk0
              have hl0 : l = [] := List.eq_nil_of_length_eq_zero HL.out
              subst hl0
              have CS := Lib.hid (fSort_none A4 c4 w4)
              have O4 := Lib.hid o4
              clear o4
              go_wp2_with fail
              with_reducible refine (CS.out).mono ?_
              rintro e w5 ⟨rfl, rfl⟩
              have x6 : Below w5.heap.size w5 (w5.alloc (.cells #[.int .i64 n, .slice A4 0 c4] 87)) := (Below.refl _ _).alloc (Nat.le_refl _) _
              go_wp2
              go_ret2
              have hset : FSet (w5.alloc (.cells #[.int .i64 n, .slice A4 0 c4] 87)) w5.heap.size n (ord flt []) := ⟨_, heap_alloc_new w5 _, own_baseF (own_below O4.out x6) (Nat.zero_le _)⟩
              first | exact ⟨_, rfl, ⟨_, rfl, hset⟩, HB4.out.alloc HB4.out.size _⟩ | exact ⟨_, rfl, fun h => absurd rfl h, fun _ => ⟨_, rfl, hset⟩, HB4.out.alloc HB4.out.size _⟩
            · obtain ⟨g4, cap, hv⟩ := own_slice o4 hkp
              injection hv with hv1 _ hv2
              subst hv1
              subst hv2
              have CS := Lib.hid (fSort_any o4 (by omega))
              have hge : B ≤ g4 := (o4.lt g4 rfl).1
              clear o4
              go_wp2_with fail
              with_reducible refine (CS.out).mono ?_
              rintro e w5 ⟨rfl, o5, b5⟩
              have HB5 := Lib.hid (HB4.out.trans (b5.below.mono (by omega)))
              have HO5 := Lib.hid o5
              clear o5 b5 CS
              have x6 : Below w5.heap.size w5 (w5.alloc (.cells #[.int .i64 n, .slice (some ⟨g4, 0, none⟩) k c4] 87)) := (Below.refl _ _).alloc (Nat.le_refl _) _
              go_wp2
              go_ret2
              have hset : FSet (w5.alloc (.cells #[.int .i64 n, .slice (some ⟨g4, 0, none⟩) k c4] 87)) w5.heap.size n (ord flt l) := ⟨_, heap_alloc_new w5 _, by rw [HLO.out]; exact own_baseF (own_below HO5.out x6) (Nat.zero_le _)⟩
              first | exact ⟨_, rfl, ⟨_, rfl, hset⟩, HB5.out.alloc HB5.out.size _⟩ | exact ⟨_, rfl, fun h => absurd rfl h, fun _ => ⟨_, rfl, hset⟩, HB5.out.alloc HB5.out.size _⟩
end Go.Proofs.Ytnfjleobcfhpnaa
