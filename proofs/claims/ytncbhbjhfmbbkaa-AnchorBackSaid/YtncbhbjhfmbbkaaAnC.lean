/- Anchors: the contract of New. -/
import Derived.Test.YtncbhbjhfmbbkaaAnD
import Derived.Shelf.SlSortCmp.NoneTotal
namespace Go.Proofs.Ytncbhbjhfmbbkaa
open Go.RowKit Go.Sort
set_option linter.unusedVariables false
theorem aSort_none (p : Option Addr) (cap : Nat) (w : World) : Calls Try.prog 57 #[.slice p 0 cap, .func (.func 58) #[] #[]] w fun e w' => e = .returned (.tuple #[]) ∧ w' = w := AnyF.slices_SortFunc_none Try.sortAn p cap _ w
set_option maxHeartbeats 8000000 in
set_option maxRecDepth 100000 in
theorem aNew_any (n : Int) (A : Option Addr) (m c : Nat) (l : List An) (w : World) (hA : RowsAt encA 3 w A l) (hcap : Caps A m c) (hl : l.length = m) (hwf : ∀ a ∈ l, (Lit.int .i64 a.id).wf = true) (r : Int) (hr : awrong n l = r) :
    Calls Try.prog 17 #[.int .i64 n, .slice A m c] w fun e w' => ∃ p, e = .returned (.tuple #[p, .int .i64 r]) ∧ (r ≠ 0 → p = .pointer none) ∧ (r = 0 → ∃ sb, p = .pointer (some ⟨sb, 0, none⟩) ∧ ASet w' sb n (ord alt l)) ∧ Below w.heap.size w w' := by
  have hmm := @run_makeMap Try.prog
  have HR := Lib.hid hr
  have HL := Lib.hid hl
  have HC := Lib.hid hcap
  have HA := Lib.hid hA
  have HW := Lib.hid hwf
  clear hA hl hcap hr hwf
  by_cases g1 : n < 0
  · have k1 : decide (n < 0) = true := decide_eq_true g1
    have e : r = 1 := by rw [← HR.out]; unfold awrong; rw [if_pos (.inl g1)]
    subst e
    clear hmm HR
    go_enter Try.func17, Try.ntmps17
    go_wp2
    go_ret2
    first | exact ⟨_, rfl, rfl, Below.refl _ _⟩ | exact ⟨_, rfl, fun _ => rfl, fun h => absurd h (by decide), Below.refl _ _⟩
  · have k1 : decide (n < 0) = false := decide_eq_false g1
    by_cases g2 : 1099511627776 < n
    · have k2 : decide (1099511627776 < n) = true := decide_eq_true g2
      have e : r = 1 := by rw [← HR.out]; unfold awrong; rw [if_pos (.inr g2)]
      subst e
      clear hmm HR
      go_enter Try.func17, Try.ntmps17
      go_wp2
      go_ret2
      first | exact ⟨_, rfl, rfl, Below.refl _ _⟩ | exact ⟨_, rfl, fun _ => rfl, fun h => absurd h (by decide), Below.refl _ _⟩
    · have k2 : decide (1099511627776 < n) = false := decide_eq_false g2
      by_cases g3 : 200 < m
      · have k3 : decide (200 < m) = true := decide_eq_true g3
        have k4 : decide ((200 : Int) < (m : Int)) = true := decide_eq_true (by omega)
        have e : r = 5 := by rw [← HR.out]; unfold awrong; rw [if_neg (by omega), if_pos (by rw [HL.out]; exact g3)]
        subst e
        clear hmm HR
        go_enter Try.func17, Try.ntmps17
        go_wp2
        go_ret2
        first | exact ⟨_, rfl, rfl, Below.refl _ _⟩ | exact ⟨_, rfl, fun _ => rfl, fun h => absurd h (by decide), Below.refl _ _⟩
      · skip
        have k3 : decide (200 < m) = false := decide_eq_false g3
        have k4 : decide ((200 : Int) < (m : Int)) = false := decide_eq_false (by omega)
        have e : r = aw n [] l := by rw [← HR.out]; unfold awrong; rw [if_neg (by omega), if_neg (by rw [HL.out]; exact g3)]
        have HE := Lib.hid e
        have HAP : Hid (r = 0 → Apart l) := Lib.hid (fun h => by have := (aw_apart (n := n) (l := l) (seen := []) (by rw [← e]; exact h) List.Pairwise.nil).1; simpa using this)
        clear e HR
        have CI := Lib.hid fun a W b hb => aIn_any a n W b hb
        have x0 : Below w.heap.size w (w.alloc (.map #[] 0)) := (Below.refl _ _).alloc (Nat.le_refl _) _
        have M0 := Lib.hid (MapV.made (P := Try.prog) (K := 3) (kl := ikl) w)
        go_enter Try.func17, Try.ntmps17
        go_wp2_with fail
        go_loopg [24] m (fun g i wr => ∃ (k : Nat) (f : Int → Option Value), i = .int .i64 k ∧ k ≤ m ∧ m - k ≤ g ∧ Hid (Below w.heap.size w wr) ∧ Hid (MapV Try.prog 3 ikl wr w.heap.size k f) ∧ Hid (AMap f (l.take k)) ∧ Hid (r = aw n (l.take k) (l.drop k)))
        case atStart => exact ⟨0, fun _ => none, rfl, by omega, by omega, Lib.hid x0, M0, Lib.hid ⟨fun a h => absurd h (by simp), fun _ _ => rfl⟩, Lib.hid (by simpa using HE.out)⟩
        case round =>
          obtain ⟨k, f, rfl, h1, h2, hb, hM, hF, hck⟩ := hrel
          clear M0 x0 HE
          by_cases hlt : k < m
          · have hkl : k < l.length := by rw [HL.out]; exact hlt
            obtain ⟨bA, off, rfl, hbA, hce⟩ := (HA.out.below hb.out).at1 hkl
            have hwk := HW.out _ (List.getElem_mem hkl)
            have f0 := hce 0 (by omega)
            have f1 := hce 1 (by omega)
            have f2 := hce 2 (by omega)
            rw [Nat.add_zero] at f0
            have hdr : l.drop k = l[k] :: l.drop (k + 1) := List.drop_eq_getElem_cons hkl
            have htk : l.take (k + 1) = l.take k ++ [l[k]] := by rw [List.take_succ_eq_append_getElem hkl]
            have hst := hck.out
            rw [hdr, aw] at hst
            rw [← htk] at hst
            have HST := Lib.hid hst
            have HTK := Lib.hid htk
            clear hst htk hdr hck
            generalize l[k] = o at *
            clear hce
            simp [encA] at f0 f1 f2
            have i1 : (0 : Int) ≤ k := by omega
            have i2 : (k : Int) < m := by omega
            have HWK := Lib.hid hwk
            have x3 : Below wr.heap.size wr (wr.alloc (.cells #[.int .i64 o.id, .int .i64 o.pl, .int .i64 o.bi] 36)) := (Below.refl _ _).alloc (Nat.le_refl _) _
            have R3 : RawAt 36 (wr.alloc (.cells #[.int .i64 o.id, .int .i64 o.pl, .int .i64 o.bi] 36)) wr.heap.size #[.int .i64 o.id, .int .i64 o.pl, .int .i64 o.bi] := heap_alloc_new wr _
            have e0 := RawAt.cell R3 0
            have e1 := RawAt.cell R3 1
            have e2 := RawAt.cell R3 2
            simp at e0 e1 e2
            have HR3 := Lib.hid R3
            have HB3 := Lib.hid (hb.out.trans (x3.mono hb.out.size))
            have HM3 := Lib.hid (hM.out.below x3)
            clear R3 hb hM x3 hwk
            by_cases g4 : aOk n o
            · have C1 := Lib.hid fun W => CI.out o W true ⟨fun _ => g4, fun _ => rfl⟩
              have HST2 : Hid (r = if (l.take k).any (fun b => b.id == o.id) then 8 else aw n (l.take (k + 1)) (l.drop (k + 1))) := Lib.hid (by rw [HST.out, if_neg (fun h => h g4)])
              clear HST g4
              go_wp2_with fail
              with_reducible refine (C1.out _).mono ?_
              rintro e w4 ⟨rfl, b4⟩
              have HM4 := HM3.out.below b4
              have R4 := RawAt.below HR3.out b4 HR3.out.lt
              have q4 := HB3.out.trans (b4.mono HB3.out.size)
              have c0 := RawAt.cell R4 0
              have c1 := RawAt.cell R4 1
              have c2 := RawAt.cell R4 2
              simp at c0 c1 c2
              by_cases g5 : (l.take k).any (fun b => b.id == o.id) = true
              · obtain ⟨y, hy1, hy2⟩ := List.any_eq_true.1 g5
                have hy3 : y.id = o.id := by simpa using hy2
                have hfo : f o.id = some (aagg y) := by rw [← hy3]; exact hF.out.has y hy1
                have e : r = 8 := by rw [HST2.out, if_pos g5]
                subst e
                have L4 := HM4.look2 intK Try.underlying112 (an_zero _) o.id HWK.out
                rw [hfo] at L4
                simp only [Option.getD_some, Option.isSome_some, aagg] at L4
                have HL4 := Lib.hid L4
                clear L4 g5 hfo hy1 hy2 hy3 HST2
                go_wp2_with (at_lookup; refine wpList_lookV2 rfl (.tmp 33) (.tmp 35) _ rfl _ _ rfl rfl HL4.out ?_)
                go_ret2
                first | exact ⟨_, rfl, rfl, q4.alloc q4.size _⟩ | exact ⟨_, rfl, fun _ => rfl, fun h => absurd h (by decide), q4.alloc q4.size _⟩
              · have hne : ∀ b ∈ l.take k, b.id ≠ o.id := fun b hb he => g5 (List.any_eq_true.2 ⟨b, hb, by simp [he]⟩)
                have hfo : f o.id = none := hF.out.non _ hne
                have HN : Hid (r = aw n (l.take (k + 1)) (l.drop (k + 1))) := Lib.hid (by rw [HST2.out, if_neg g5])
                have HF' : Hid (AMap (fun x => if x = o.id then some (aagg o) else f x) (l.take (k + 1))) := Lib.hid (by rw [HTK.out]; exact hF.out.snoc hne)
                have L4 := HM4.look2 intK Try.underlying112 (an_zero _) o.id HWK.out
                rw [hfo] at L4
                simp only [Option.getD_none, Option.isSome_none] at L4
                have HL4 := Lib.hid L4
                have HMM := Lib.hid HM4
                have HQ4 := Lib.hid q4
                have x5 : Below w4.heap.size w4 (w4.alloc (.cells #[.int .i64 0, .int .i64 0, .int .i64 0] 36)) := (Below.refl _ _).alloc (Nat.le_refl _) _
                have R5 := RawAt.below R4 x5 R4.lt
                have d0 := RawAt.cell R5 0
                have d1 := RawAt.cell R5 1
                have d2 := RawAt.cell R5 2
                simp at d0 d1 d2
                have HM5 := Lib.hid (HM4.below x5)
                have HB5 := Lib.hid (q4.trans (x5.mono q4.size))
                obtain ⟨w6, hrun, hM6, hg6⟩ := HM5.out.store intK Try.underlying112 (by simp only [maxLen]; omega) o.id HWK.out (aagg o)
                have HRUN := Lib.hid hrun
                have HM6 := Lib.hid hM6
                have HB6 := Lib.hid (HB5.out.grown hg6 HB5.out.size (fun j hj => by injection hj with hj; omega))
                clear L4 HM4 q4 g5 hfo hne HST2 R5 x5 hrun hM6 hg6 R4
                go_wp2_with (first | (at_lookup; refine wpList_lookV2 rfl (.tmp 33) (.tmp 35) _ rfl _ _ rfl rfl HL4.out ?_) | (at_mapUpdate; refine wpList_storeV rfl (.tmp 40) (.tmp 42) (.tmp 43) _ rfl _ _ _ rfl rfl rfl HRUN.out ?_))
                go_roundg (gk - 1)
                case measure => omega
                case rel => exact ⟨k + 1, _, by go_num, by omega, by omega, HB6, HM6, HF', HN⟩
            · have C1 := Lib.hid fun W => CI.out o W false ⟨fun h => absurd h (by decide), fun h => absurd h g4⟩
              have e : r = 1 := by rw [HST.out, if_pos g4]
              subst e
              clear HST g4
              go_wp2_with fail
              with_reducible refine (C1.out _).mono ?_
              rintro e w4 ⟨rfl, b4⟩
              have q4 := HB3.out.trans (b4.mono HB3.out.size)
              go_wp2
              go_ret2
              first | exact ⟨_, rfl, rfl, q4⟩ | exact ⟨_, rfl, fun _ => rfl, fun h => absurd h (by decide), q4⟩
          · obtain rfl : k = m := by omega
            have e1 : l.take k = l := List.take_of_length_le (by rw [HL.out]; exact Nat.le_refl _)
            have e2 : l.drop k = [] := List.drop_of_length_le (by rw [HL.out]; exact Nat.le_refl _)
            have hck2 := hck.out
            rw [e1, e2, aw] at hck2
            subst hck2
            rw [e1] at hF
            have hap := HAP.out rfl
            have CC := Lib.hid (aClone_any A k c l wr (HA.out.below hb.out) HC.out HL.out (by omega))
            have HB := Lib.hid hb.out
            have HM := Lib.hid hM.out
            have HF := Lib.hid hF.out
            have HP := Lib.hid (ord_perm alt alt_swo l)
            have HLO : Hid ((ord alt l).length = k) := Lib.hid (by rw [(ord_perm alt alt_swo l).length_eq]; exact HL.out)
            clear hb hM hF hck e1 e2
            go_wp2_with fail
            with_reducible refine (CC.out).mono ?_
            rintro e w4 ⟨v4, rfl, o4, b4, _⟩
            rcases Nat.eq_zero_or_pos k with hk0 | hkp
            · subst hk0
              have hl0 : l = [] := List.eq_nil_of_length_eq_zero HL.out
              subst hl0
              obtain ⟨A4, c4, rfl⟩ := own_form o4
              have CS := Lib.hid (aSort_none A4 c4 w4)
              have O4 := Lib.hid o4
              have HM4 := Lib.hid (HM.out.below b4)
              have HB4 := Lib.hid (HB.out.trans (b4.mono HB.out.size))
              clear o4 CC
              go_wp2_with fail
              with_reducible refine (CS.out).mono ?_
              rintro e w5 ⟨rfl, rfl⟩
              have x6 : Below w5.heap.size w5 (w5.alloc (.cells #[.int .i64 n, .slice A4 0 c4, .map (some w.heap.size)] 118)) := (Below.refl _ _).alloc (Nat.le_refl _) _
              go_wp2
              go_ret2
              have hset : ASet (w5.alloc (.cells #[.int .i64 n, .slice A4 0 c4, .map (some w.heap.size)] 118)) w5.heap.size n (ord alt []) := ⟨_, w.heap.size, 0, f, heap_alloc_new w5 _, own_base (own_below O4.out x6) (Nat.zero_le _), HM4.out.below x6, HF.out.perm HP.out⟩
              first | exact ⟨_, rfl, ⟨_, rfl, hset⟩, HB4.out.alloc HB4.out.size _⟩ | exact ⟨_, rfl, fun h => absurd rfl h, fun _ => ⟨_, rfl, hset⟩, HB4.out.alloc HB4.out.size _⟩
            · obtain ⟨g4, c4, rfl⟩ := own_slice o4 hkp
              have CS := Lib.hid (aSort_any o4 (by omega) (apart_inj hap))
              have hge : wr.heap.size ≤ g4 := (o4.lt g4 rfl).1
              have HM4 := Lib.hid (HM.out.below b4)
              have HB4 := Lib.hid (HB.out.trans (b4.mono HB.out.size))
              have hmlt : w.heap.size < wr.heap.size := HM.out.lt
              clear o4 CC
              go_wp2_with fail
              with_reducible refine (CS.out).mono ?_
              rintro e w5 ⟨rfl, o5, b5⟩
              have hm5 : MapV Try.prog 3 ikl w5 w.heap.size k f := HM4.out.block (b5.rest _ HM4.out.lt (by omega))
              have HB5 := Lib.hid (HB4.out.trans (b5.below.mono (by have := HB.out.size; omega)))
              have HO5 := Lib.hid o5
              have HM5 := Lib.hid hm5
              clear o5 b5 hm5 CS
              have x6 : Below w5.heap.size w5 (w5.alloc (.cells #[.int .i64 n, .slice (some ⟨g4, 0, none⟩) k c4, .map (some w.heap.size)] 118)) := (Below.refl _ _).alloc (Nat.le_refl _) _
              go_wp2
              go_ret2
              have hset : ASet (w5.alloc (.cells #[.int .i64 n, .slice (some ⟨g4, 0, none⟩) k c4, .map (some w.heap.size)] 118)) w5.heap.size n (ord alt l) := ⟨_, w.heap.size, k, f, heap_alloc_new w5 _, by rw [HLO.out]; exact own_base (own_below HO5.out x6) (Nat.zero_le _), HM5.out.below x6, HF.out.perm HP.out⟩
              first | exact ⟨_, rfl, ⟨_, rfl, hset⟩, HB5.out.alloc HB5.out.size _⟩ | exact ⟨_, rfl, fun h => absurd rfl h, fun _ => ⟨_, rfl, hset⟩, HB5.out.alloc HB5.out.size _⟩
end Go.Proofs.Ytncbhbjhfmbbkaa
