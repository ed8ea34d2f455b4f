/- Inlays: the document's Decode, New and Splice told with the room of what they leave. -/
import Derived.Test.YtjkmkobnfhepaaaGreatInY
namespace Go.Proofs.YtjkmkobnfhepaaaGreat
open Go.RowKit Go.Sort
set_option linter.unusedVariables false
def NewResC (n : Int) (l : List In) (w : World) (r : Int) (e : Ending) (w' : World) : Prop := ∃ nn A2 m2 c2, e = .returned (.agg #[.int .i64 nn, .slice A2 m2 c2, .int .i64 r]) ∧ (r = 0 → nn = n ∧ m2 = l.length ∧ RowsAt encI 5 w' A2 (ord ilt (l.map icl)) ∧ Caps A2 m2 c2) ∧ Below w.heap.size w w'
set_option maxHeartbeats 16000000 in
set_option maxRecDepth 100000 in
theorem rNew13_c (n : Int) (A : Option Addr) (m c : Nat) (l : List In) (w : World) (hA : RowsAt encI 5 w A l) (hcap : Caps A m c) (hl : l.length = m) (htx : ∀ a ∈ l, a.tx.size ≤ 100000000) (r : Int) (hr : iwrong n l = r) :
    Calls Tryz.prog 7 #[.int .i64 n, .slice A m c] w (NewResC n l w r) := by
  have ST := in_slt
  have HR := Lib.hid hr
  have HL := Lib.hid hl
  have HC := Lib.hid hcap
  have HA := Lib.hid hA
  have HTX := Lib.hid htx
  clear hA hl hcap hr htx
  by_cases g1 : n < 0
  · have k1 : decide (n < 0) = true := decide_eq_true g1
    have e : r = 1 := by rw [← HR.out]; unfold iwrong; rw [if_pos (.inl g1)]
    subst e
    clear HR
    go_enter Tryz.func7, Tryz.ntmps7
    go_wp2
    refine bodyPost_ret (v := .agg #[.int .i64 0, .slice none 0 0, .int .i64 1]) (by simp [results, Tryz.results7, go_sem]) rfl ⟨0, none, 0, 0, rfl, fun h => absurd h (by decide), (Below.refl _ _).alloc (Nat.le_refl _) _⟩
  · have k1 : decide (n < 0) = false := decide_eq_false g1
    by_cases g2 : 1099511627776 < n
    · have k2 : decide (1099511627776 < n) = true := decide_eq_true g2
      have e : r = 1 := by rw [← HR.out]; unfold iwrong; rw [if_pos (.inr g2)]
      subst e
      clear HR
      go_enter Tryz.func7, Tryz.ntmps7
      go_wp2
      refine bodyPost_ret (v := .agg #[.int .i64 0, .slice none 0 0, .int .i64 1]) (by simp [results, Tryz.results7, go_sem]) rfl ⟨0, none, 0, 0, rfl, fun h => absurd h (by decide), (Below.refl _ _).alloc (Nat.le_refl _) _⟩
    · have k2 : decide (1099511627776 < n) = false := decide_eq_false g2
      by_cases g3 : 60 < m
      · have k3 : decide (60 < m) = true := decide_eq_true g3
        have k4 : decide ((60 : Int) < (m : Int)) = true := decide_eq_true (by omega)
        have e : r = 5 := by rw [← HR.out]; unfold iwrong; rw [if_neg (by omega), if_pos (by rw [HL.out]; exact g3)]
        subst e
        clear HR
        go_enter Tryz.func7, Tryz.ntmps7
        go_wp2
        refine bodyPost_ret (v := .agg #[.int .i64 0, .slice none 0 0, .int .i64 5]) (by simp [results, Tryz.results7, go_sem]) rfl ⟨0, none, 0, 0, rfl, fun h => absurd h (by decide), (Below.refl _ _).alloc (Nat.le_refl _) _⟩
      · have k3 : decide (60 < m) = false := decide_eq_false g3
        have k4 : decide ((60 : Int) < (m : Int)) = false := decide_eq_false (by omega)
        have e : r = iw n [] l := by rw [← HR.out]; unfold iwrong; rw [if_neg (by omega), if_neg (by rw [HL.out]; exact g3)]
        have x1 : Below w.heap.size w (w.alloc (.cells #[.int .i64 0, .slice none 0 0, .int .i64 0] 35)) := (Below.refl _ _).alloc (Nat.le_refl _) _
        have r1 : RawAt 35 (w.alloc (.cells #[.int .i64 0, .slice none 0 0, .int .i64 0] 35)) w.heap.size #[.int .i64 0, .slice none 0 0, .int .i64 0] := heap_alloc_new w _
        have hz1 : w.heap.size < (w.alloc (.cells #[.int .i64 0, .slice none 0 0, .int .i64 0] 35)).heap.size := by simp
        obtain ⟨W1, hW1⟩ : ∃ W1, W1 = w.alloc (.cells #[.int .i64 0, .slice none 0 0, .int .i64 0] 35) := ⟨_, rfl⟩
        rw [← hW1] at x1 r1 hz1
        have HR2 := Lib.hid e
        have HW1 := Lib.hid hW1
        have X1 := Lib.hid x1
        have R1 := Lib.hid r1
        have HZ1 := Lib.hid hz1
        clear HR e hW1 x1 r1 hz1
        go_enter Tryz.func7, Tryz.ntmps7
        go_wp2_with fail
        rw [← HW1.out]
        go_loopg [5, 26] m (fun g v i wr => ∃ (k : Nat), i = .int .i64 k ∧ k ≤ m ∧ m - k ≤ g ∧ Hid (Below W1.heap.size W1 wr) ∧ Hid (wr.ownsRow W1.heap.size 56 5 v k (kfl encI (ord ilt ((l.take k).map icl)))) ∧ Hid (r = iw n (l.take k) (l.drop k)))
        case atStart => exact ⟨0, rfl, by omega, by omega, Lib.hid (Below.refl _ _), Lib.hid (World.ownsRow_nil _ _ _ _), HR2⟩
        case round =>
          clear HR2 HW1
          obtain ⟨k, rfl, h1, h2, hb, hown, hst⟩ := hrel
          obtain ⟨gO, hgO⟩ : ∃ g, g = gk := ⟨_, rfl⟩
          subst hgO
          by_cases hlt : k < m
          · have hkl : k < l.length := by rw [HL.out]; exact hlt
            obtain ⟨bA, off, rfl, hbA, d0, d1, d2, d3, d4⟩ := (HA.out.below (X1.out.trans (hb.out.mono X1.out.size))).in5 hkl
            have hts := HTX.out _ (List.getElem_mem hkl)
            have hst2 := hst.out
            rw [iw_step n hkl] at hst2
            have htk : l.take (k + 1) = l.take k ++ [l[k]] := by rw [List.take_succ_eq_append_getElem hkl]
            have HTK := Lib.hid htk
            have HST := Lib.hid hst2
            clear htk hst2 hst
            generalize l[k] = a at *
            have i1 : (0 : Int) ≤ k := by omega
            have i2 : (k : Int) < m := by omega
            have i3 : k ≤ c := Nat.le_trans h1 HC.out.1
            have i4 : (k : Int) ≤ c := by omega
            have x3 : Below wr.heap.size wr (wr.alloc (.cells #[.int .i64 a.id, .int .i64 a.pl, .int .i64 a.bi, .int .i64 a.ky, .string a.tx] 56)) := (Below.refl _ _).alloc (Nat.le_refl _) _
            have R3 : RawAt 56 (wr.alloc (.cells #[.int .i64 a.id, .int .i64 a.pl, .int .i64 a.bi, .int .i64 a.ky, .string a.tx] 56)) wr.heap.size #[.int .i64 a.id, .int .i64 a.pl, .int .i64 a.bi, .int .i64 a.ky, .string a.tx] := heap_alloc_new wr _
            have HB3 := Lib.hid (hb.out.trans (x3.mono hb.out.size))
            have HO3 := Lib.hid (own_below hown.out x3)
            have HRT := Lib.hid (rows_takeN (HA.out.below (X1.out.trans (HB3.out.mono X1.out.size))) k)
            have hlk : (l.take k).length = k := by rw [List.length_take, Nat.min_eq_left (by omega)]
            have hZb : W1.heap.size ≤ wr.heap.size := hb.out.size
            have hkz : W1.heap.size < wr.heap.size + 1 := by omega
            obtain ⟨W3, hW3⟩ : ∃ W3, W3 = wr.alloc (.cells #[.int .i64 a.id, .int .i64 a.pl, .int .i64 a.bi, .int .i64 a.ky, .string a.tx] 56) := ⟨_, rfl⟩
            rw [← hW3] at HB3 HO3 HRT R3 x3
            have HW3 := Lib.hid hW3
            have HR3 := Lib.hid R3
            have MK : Hid (∀ W : World, Below W3.heap.size W3 W → W.cell? ⟨wr.heap.size, 0, none⟩ = some (.int .i64 a.id) ∧ W.cell? ⟨wr.heap.size, 1, none⟩ = some (.int .i64 a.pl) ∧ W.cell? ⟨wr.heap.size, 2, none⟩ = some (.int .i64 a.bi) ∧ W.cell? ⟨wr.heap.size, 3, none⟩ = some (.int .i64 a.ky) ∧ W.cell? ⟨wr.heap.size, 4, none⟩ = some (.string a.tx)) := Lib.hid fun W hW => by
              have q := RawAt.below HR3.out hW HR3.out.lt
              have e0 := RawAt.cell q 0
              have e1 := RawAt.cell q 1
              have e2 := RawAt.cell q 2
              have e3 := RawAt.cell q 3
              have e4 := RawAt.cell q 4
              simp at e0 e1 e2 e3 e4
              exact ⟨e0, e1, e2, e3, e4⟩
            have hW2 : Below W3.heap.size W3 W3.drew := (Below.refl _ _).drew
            have HIA : Hid (Below wr.heap.size wr W3) := Lib.hid x3
            have HNE : Hid (∀ g, u5.ownBlock = some g → g ≠ wr.heap.size) := Lib.hid fun g hg => Nat.ne_of_lt (hown.out.lt g hg).2
            clear hb hown hW3 R3 x3 hkz
            by_cases hz : wr13 n (l.take k) a = 0
            · have HST2 : Hid (r = iw n (l.take (k + 1)) (l.drop (k + 1))) := Lib.hid (by rw [HST.out, if_neg (fun h => h hz)])
              have CWR := Lib.hid fun (W : World) (hW : Below W3.heap.size W3 W) => rwrong13_any n (some ⟨bA, off, none⟩) k c (l.take k) a W (HRT.out.below hW) hlk (by omega) hts 0 hz.symm
              clear HST hz HRT
              go_wp2_with fail
              rw [← HW3.out]
              refine wp_region_noPanic ?_
              refine wp_region_held_drew (S := (fun W => W.cell? ⟨wr.heap.size, 0, none⟩ = some (.int .i64 a.id) ∧ W.cell? ⟨wr.heap.size, 1, none⟩ = some (.int .i64 a.pl) ∧ W.cell? ⟨wr.heap.size, 2, none⟩ = some (.int .i64 a.bi) ∧ W.cell? ⟨wr.heap.size, 3, none⟩ = some (.int .i64 a.ky) ∧ W.cell? ⟨wr.heap.size, 4, none⟩ = some (.string a.tx))) (by kernel_rfl) (MK.out _ hW2) (fun hHeld => ?_)
              refine wpAnyH_take (i := 0) (v := ?_) rfl (by kernel_rfl) (by kernel_rfl) (by kernel_rfl) (fun _ _ _ h => h) (Or.inl ⟨by rfl, ?_⟩) hHeld ?_
              rotate_left
              · intro w hSw; (try dsimp only at hSw); go_simp; try with_reducible rfl
              go_simp
              refine wpAnyH_take (i := 1) (v := ?_) rfl (by kernel_rfl) (by kernel_rfl) (by kernel_rfl) (fun _ _ _ h => h) (Or.inl ⟨by rfl, ?_⟩) hHeld ?_
              rotate_left
              · intro w hSw; (try dsimp only at hSw); go_simp; try with_reducible rfl
              go_simp
              refine wpAnyH_take (i := 2) (v := ?_) rfl (by kernel_rfl) (by kernel_rfl) (by kernel_rfl) (fun _ _ _ h => h) (Or.inl ⟨by rfl, ?_⟩) hHeld ?_
              rotate_left
              · intro w hSw; (try dsimp only at hSw); go_simp; try with_reducible rfl
              go_simp
              refine wpAnyH_take (i := 3) (v := ?_) rfl (by kernel_rfl) (by kernel_rfl) (by kernel_rfl) (fun _ _ _ h => h) (Or.inl ⟨by rfl, ?_⟩) hHeld ?_
              rotate_left
              · intro w hSw; (try dsimp only at hSw); go_simp; try with_reducible rfl
              go_simp
              refine wpAnyH_take (i := 4) (v := ?_) rfl (by kernel_rfl) (by kernel_rfl) (by kernel_rfl) (fun _ _ _ h => h) (Or.inl ⟨by rfl, ?_⟩) hHeld ?_
              rotate_left
              · intro w hSw; (try dsimp only at hSw); go_simp; try with_reducible rfl
              go_simp
              refine wpAnyH_ready (rs := [5]) (by kernel_rfl) (by simp) ?_
              refine AllReadyH.cons rfl (fun K hK => ?_) ?_
              rotate_left
              · exact AllReadyH.nil
              go_simp
              go_wp2_with (first | (go_at_call 25; ((with_reducible refine (CWR.out _ hW2).mono ?_); rintro e w4 ⟨rfl, hb4⟩); have hW2 := hW2.trans (hb4.mono hW2.size)))
              refine hK.out _ _ (MK.out _ hW2) (fun hHeld => ?_)
              clear hK K
              go_simp
              refine wpAnyH_take (i := 6) (v := ?_) rfl (by kernel_rfl) (by kernel_rfl) (by kernel_rfl) (fun _ _ _ h => h) (Or.inl ⟨by rfl, ?_⟩) hHeld ?_
              rotate_left
              · intro w hSw; (try dsimp only at hSw); go_simp; try with_reducible rfl
              go_simp
              refine wpAnyH_done (by kernel_rfl) ?_ _
              refine NoPanic.normal ?_
              have HB4 := Lib.hid (HB3.out.trans (hW2.mono HB3.out.size))
              have HO4 := Lib.hid (own_below HO3.out hW2)
              have HR4 := Lib.hid (RawAt.below HR3.out hW2 HR3.out.lt)
              have e4 := RawAt.cell HR4.out 4
              simp at e4
              have hdl := dec_len a.tx
              have CD := Lib.hid fun (W : World) => rdecode_any a.tx W (by omega)
              generalize hdle : (dec a.tx).length = dl at CD hdl
              have HDL := Lib.hid hdle
              obtain ⟨ca, hca⟩ : ∃ x, x = icl a := ⟨_, rfl⟩
              have HCA := Lib.hid hca
              have HTC : Hid ((⟨(encAll (dec a.tx)).toArray⟩ : ByteArray) = ca.tx) := Lib.hid (by rw [hca]; rfl)
              obtain ⟨o, ho⟩ : ∃ o, o = ord ilt ((l.take k).map icl) := ⟨_, rfl⟩
              have HO := Lib.hid ho
              rw [← ho] at HO4
              clear hW2 hHeld CWR MK hdle hca ho HO3 HB3
              go_wp2_with fail
              with_reducible refine (CD.out _).mono ?_
              rintro e w5 ⟨A5, c5, rfl, b5, I5, _⟩
              have CE := Lib.hid (rencode_any A5 dl c5 (dec a.tx) w5 I5 HDL.out (by omega))
              rw [HTC.out] at CE
              have HB5 := Lib.hid (HB4.out.trans (b5.mono HB4.out.size))
              have HO5 := Lib.hid (own_below HO4.out b5)
              have HR5 := Lib.hid (RawAt.below HR4.out b5 HR4.out.lt)
              clear b5 I5 CD HB4 HO4 HR4 e4
              go_wp2_with fail
              with_reducible refine (CE.out).mono ?_
              rintro e w6 ⟨rfl, b6⟩
              have HB6 := Lib.hid (HB5.out.trans (b6.mono HB5.out.size))
              have HO6 := Lib.hid (own_below HO5.out b6)
              have HR6 := Lib.hid (RawAt.below HR5.out b6 HR5.out.lt)
              have e4 := RawAt.cell HR6.out 4
              have f4 := RawAt.free HR6.out 4
              simp at e4
              have hRV : RawAt 56 (w6.setCell ⟨wr.heap.size, 4, none⟩ (.string ca.tx)) wr.heap.size #[.int .i64 ca.id, .int .i64 ca.pl, .int .i64 ca.bi, .int .i64 ca.ky, .string ca.tx] := (HR6.out.set_ 4 (.string ca.tx)).of_eq (by rw [HCA.out]; rfl)
              have hBV := HB6.out.setCell (p := ⟨wr.heap.size, 4, none⟩) hZb (.string ca.tx)
              have hOV := own_set_ne HO6.out (b := wr.heap.size) HNE.out 4 (.string ca.tx)
              obtain ⟨V, hV⟩ : ∃ V, V = w6.setCell ⟨wr.heap.size, 4, none⟩ (.string ca.tx) := ⟨_, rfl⟩
              rw [← hV] at hRV hBV hOV
              have HV := Lib.hid hV
              have HRV := Lib.hid hRV
              have HBV := Lib.hid hBV
              obtain ⟨A3, c3, h3, hR3, hol, _⟩ := rows_of_own encI_len (by omega) hOV
              subst h3
              have HRO := Lib.hid hR3
              have HOL := Lib.hid hol
              have hwB : W1.heap.size ≤ V.heap.size := hBV.size
              clear b6 CE HB5 HO5 HR5 HB6 HO6 HR6 hRV hBV hOV hV hR3 hol HTC HDL hdl
              go_wp2_with fail
              rw [← HV.out]
              clear e4 f4 HV HW3 HR3 HIA HNE
              generalize hbx : wr.heap.size = bX at *
              clear hbx
              have hbXV := HRV.out.lt
              go_loopg [9, 10, 48] k (fun g v pt i wr2 => ∃ (j : Nat), i = .int .i64 j ∧ j ≤ k ∧ k - j ≤ g ∧ pt = .bool (igo ca (o.take j)).2 ∧ Hid (Below V.heap.size V wr2) ∧ Hid (wr2.ownsRow V.heap.size 56 5 v (igo ca (o.take j)).1.length (kfl encI (igo ca (o.take j)).1)))
              case atStart => exact ⟨0, rfl, by omega, by omega, rfl, Lib.hid (Below.refl _ _), Lib.hid (World.ownsRow_nil _ _ _ _)⟩
              case round =>
                obtain ⟨j, rfl, j1, j2, rfl, hbw, hown⟩ := hrel
                have hwB2 := hbw.out.size
                have hlt4 := hown.out.lt
                by_cases hlt2 : j < k
                · have hjl : j < o.length := by rw [HOL.out]; exact hlt2
                  obtain ⟨bO, off2, rfl, hbO, u0, u1, u2, u3, u4⟩ := (HRO.out.below hbw.out).in5 hjl
                  have hts : igo ca (o.take (j + 1)) = igo ca (o.take j ++ [o[j]]) := by rw [List.take_succ_eq_append_getElem hjl]
                  rw [igo_snoc] at hts
                  have hql := igo_len ca (o.take j)
                  rw [List.length_take] at hql
                  generalize o[j] = b at *
                  have HN := Lib.hid hts
                  clear hts
                  obtain ⟨A5, c5, rfl⟩ := own_formI hown.out
                  generalize (igo ca (o.take j)).1 = L0 at *
                  generalize (igo ca (o.take j)).2 = pb at *
                  generalize hq0 : L0.length = q at *
                  have HQ0 := Lib.hid hq0
                  clear hq0
                  have i3 : (0 : Int) ≤ j := by omega
                  have i4' : (j : Int) < k := by omega
                  have x6 : Below wr.heap.size wr (wr.alloc (.cells #[.int .i64 b.id, .int .i64 b.pl, .int .i64 b.bi, .int .i64 b.ky, .string b.tx] 56)) := (Below.refl _ _).alloc (Nat.le_refl _) _
                  have R6 : RawAt 56 (wr.alloc (.cells #[.int .i64 b.id, .int .i64 b.pl, .int .i64 b.bi, .int .i64 b.ky, .string b.tx] 56)) wr.heap.size #[.int .i64 b.id, .int .i64 b.pl, .int .i64 b.bi, .int .i64 b.ky, .string b.tx] := heap_alloc_new wr _
                  have HRA6 := Lib.hid (RawAt.below HRV.out (hbw.out.trans (x6.mono hbw.out.size)) HRV.out.lt)
                  have HR6 := Lib.hid R6
                  have HW6 := Lib.hid (hbw.out.trans (x6.mono hbw.out.size))
                  have HO6 := Lib.hid (own_below hown.out x6)
                  have hz6 : (wr.alloc (.cells #[.int .i64 b.id, .int .i64 b.pl, .int .i64 b.bi, .int .i64 b.ky, .string b.tx] 56)).heap.size = wr.heap.size + 1 := by simp
                  generalize hW6 : wr.alloc (.cells #[.int .i64 b.id, .int .i64 b.pl, .int .i64 b.bi, .int .i64 b.ky, .string b.tx] 56) = W6 at HR6 HRA6 HW6 HO6 hz6
                  have HWE := Lib.hid hW6
                  clear hbw hown x6 R6 hW6
                  cases pb with
                  | true =>
                    have HN2 : Hid (igo ca (o.take (j + 1)) = (L0 ++ [b], true)) := Lib.hid (by rw [HN.out, if_pos rfl])
                    clear HN
                    have x7 : Below W6.heap.size W6 (W6.alloc (.cells #[.int .i64 b.id, .int .i64 b.pl, .int .i64 b.bi, .int .i64 b.ky, .string b.tx] 56)) := (Below.refl _ _).alloc (Nat.le_refl _) _
                    have R7 : RawAt 56 (W6.alloc (.cells #[.int .i64 b.id, .int .i64 b.pl, .int .i64 b.bi, .int .i64 b.ky, .string b.tx] 56)) W6.heap.size #[.int .i64 b.id, .int .i64 b.pl, .int .i64 b.bi, .int .i64 b.ky, .string b.tx] := heap_alloc_new W6 _
                    have HS7 : Hid (RowsAt encI 5 (W6.alloc (.cells #[.int .i64 b.id, .int .i64 b.pl, .int .i64 b.bi, .int .i64 b.ky, .string b.tx] 56)) (some ⟨wr.heap.size + 1, 0, none⟩) [b]) := Lib.hid (by rw [← hz6]; exact rows_of_block (enc := encI) (k := 5) encI_len R7 (l := [b]) rfl)
                    have HO7 := Lib.hid (own_below HO6.out x7)
                    have HW7 := Lib.hid (HW6.out.trans (x7.mono HW6.out.size))
                    clear x7 R7 HO6 HW6 HRA6 HR6 hz6
                    rw [← HWE.out] at HS7 HO7 HW7
                    go_wp2_with (at_builtin; refine wpList_appK (enc := encI) ST encI_len (by omega) rfl (.tmp 63) (.tmp 65) rfl (base := V.heap.size) (v := .slice A5 q c5) rfl HO7.out _ 1 1 [b] rfl HS7.out ⟨Nat.le_refl _, fun h => by cases h⟩ rfl (kfl_one' encI_one _) (by simp only [maxLen]; omega) (by omega) HW7.out.size ?_; intro v8 w8 hown8 hg8 hor8)
                    have hw8 := Lib.hid (HW7.out.grown hg8 HW7.out.size (fun j hj => (hlt4 j hj).1))
                    have hO8 : Hid (w8.ownsRow V.heap.size 56 5 v8 (igo ca (o.take (j + 1))).1.length (kfl encI (igo ca (o.take (j + 1))).1)) := Lib.hid (by rw [HN2.out]; simp only [List.length_append, kfl_append]; rw [HQ0.out]; exact hown8)
                    clear hown8 hg8 hor8 HO7 HS7 HW7
                    go_wp2
                    go_roundg (gk - 1)
                    case measure => omega
                    case rel => exact ⟨j + 1, by go_num, by omega, by omega, by rw [HN2.out], hw8, hO8⟩
                  | false =>
                    obtain ⟨ab, hab⟩ : ∃ z, z = ilt ca b := ⟨_, rfl⟩
                    have CAH := Lib.hid fun (W : World) => iahead_any ca b W ab hab
                    have hnn := HN.out
                    rw [← hab] at hnn
                    have HNN := Lib.hid hnn
                    clear hab hnn HN
                    cases ab with
                    | true =>
                      have HN2 : Hid (igo ca (o.take (j + 1)) = (L0 ++ [ca, b], true)) := Lib.hid (by rw [HNN.out, if_neg (by simp), if_pos rfl])
                      clear HNN
                      have RA7 := HRA6.out
                      have RY7 := HR6.out
                      rw [← HWE.out] at RA7 RY7
                      have g0 := RawAt.cell RA7 0
                      have g1 := RawAt.cell RA7 1
                      have g2 := RawAt.cell RA7 2
                      have g3 := RawAt.cell RA7 3
                      have g4 := RawAt.cell RA7 4
                      simp at g0 g1 g2 g3 g4
                      have y0 := RawAt.cell RY7 0
                      have y1 := RawAt.cell RY7 1
                      have y2 := RawAt.cell RY7 2
                      have y3 := RawAt.cell RY7 3
                      have y4 := RawAt.cell RY7 4
                      simp at y0 y1 y2 y3 y4
                      clear RA7 RY7
                      go_wp2_with fail
                      rw [HWE.out]
                      with_reducible refine (CAH.out _).mono ?_
                      rintro e w7 ⟨rfl, b7⟩
                      have HRX := Lib.hid (RawAt.below HRA6.out b7 HRA6.out.lt)
                      have HRY := Lib.hid (RawAt.below HR6.out b7 HR6.out.lt)
                      have HO9 := Lib.hid (own_below HO6.out b7)
                      have HW9 := Lib.hid (HW6.out.trans (b7.mono HW6.out.size))
                      generalize hwy : wr.heap.size = wy at *
                      have HWYE := Lib.hid hwy
                      clear hwy
                      clear HRA6 HR6 HO6 HW6 b7 CAH hz6 HWE
                      clear g0 g1 g2 g3 g4 y0 y1 y2 y3 y4
                      have x7 : Below w7.heap.size w7 (w7.alloc (.cells #[.int .i64 ca.id, .int .i64 ca.pl, .int .i64 ca.bi, .int .i64 ca.ky, .string ca.tx] 56)) := (Below.refl _ _).alloc (Nat.le_refl _) _
                      have R7 : RawAt 56 (w7.alloc (.cells #[.int .i64 ca.id, .int .i64 ca.pl, .int .i64 ca.bi, .int .i64 ca.ky, .string ca.tx] 56)) w7.heap.size #[.int .i64 ca.id, .int .i64 ca.pl, .int .i64 ca.bi, .int .i64 ca.ky, .string ca.tx] := heap_alloc_new w7 _
                      have HS7 := Lib.hid (rows_of_block (enc := encI) (k := 5) encI_len R7 (l := [ca]) rfl)
                      have HO7 := Lib.hid (own_below HO9.out x7)
                      have HW7 := Lib.hid (HW9.out.trans (x7.mono HW9.out.size))
                      have HRY7 := Lib.hid (RawAt.below HRY.out x7 HRY.out.lt)
                      have g0 := RawAt.cell HRX.out 0
                      have g1 := RawAt.cell HRX.out 1
                      have g2 := RawAt.cell HRX.out 2
                      have g3 := RawAt.cell HRX.out 3
                      have g4 := RawAt.cell HRX.out 4
                      simp at g0 g1 g2 g3 g4
                      clear x7 R7 HO9 HW9 HRX HRY
                      go_wp2_with (first | (at_builtin; refine wpList_appK (enc := encI) ST encI_len (by omega) rfl (.tmp 59) (.tmp 61) rfl (base := V.heap.size) (v := .slice A5 q c5) rfl HO7.out _ 1 1 [ca] rfl HS7.out ⟨Nat.le_refl _, fun h => by cases h⟩ rfl (kfl_one' encI_one _) (by simp only [maxLen]; omega) (by omega) HW7.out.size ?_; intro v8 w8 hown8 hg8 hor8; obtain ⟨A8, c8, rfl⟩ := own_formI hown8; have hw8 := Lib.hid (HW7.out.grown hg8 HW7.out.size (fun j hj => (hlt4 j hj).1)); have hrb8 := (hg8.block wy HRY7.out.lt (fun hk => by have := (hlt4 _ hk.symm).2; omega)).trans HRY7.out; have hrb8 : RawAt 56 w8 wy #[.int .i64 b.id, .int .i64 b.pl, .int .i64 b.bi, .int .i64 b.ky, .string b.tx] := hrb8; have hlt8 := hown8.lt; have y0 := RawAt.cell hrb8 0; have y1 := RawAt.cell hrb8 1; have y2 := RawAt.cell hrb8 2; have y3 := RawAt.cell hrb8 3; have y4 := RawAt.cell hrb8 4; simp at y0 y1 y2 y3 y4; have x9 : Below w8.heap.size w8 (w8.alloc (.cells #[.int .i64 b.id, .int .i64 b.pl, .int .i64 b.bi, .int .i64 b.ky, .string b.tx] 56)) := (Below.refl _ _).alloc (Nat.le_refl _) _; have R9 : RawAt 56 (w8.alloc (.cells #[.int .i64 b.id, .int .i64 b.pl, .int .i64 b.bi, .int .i64 b.ky, .string b.tx] 56)) w8.heap.size #[.int .i64 b.id, .int .i64 b.pl, .int .i64 b.bi, .int .i64 b.ky, .string b.tx] := heap_alloc_new w8 _; have HS9 := Lib.hid (rows_of_block (enc := encI) (k := 5) encI_len R9 (l := [b]) rfl); have HO9 := Lib.hid (own_below hown8 x9); have HW9 := Lib.hid (hw8.out.trans (x9.mono hw8.out.size)); clear hown8 hg8 hor8 HO7 HS7 HW7 HRY7 hw8 hrb8 x9 R9) | (at_builtin; refine wpList_appK (enc := encI) ST encI_len (by omega) rfl (.tmp 63) (.tmp 65) rfl (base := V.heap.size) (v := .slice A8 (q + 1) c8) rfl HO9.out _ 1 1 [b] rfl HS9.out ⟨Nat.le_refl _, fun h => by cases h⟩ rfl (kfl_one' encI_one _) (by simp only [maxLen]; omega) (by omega) HW9.out.size ?_; intro v10 w10 hown10 hg10 hor10))
                      have hw10 := Lib.hid (HW9.out.grown hg10 HW9.out.size (fun j hj => (hlt8 j hj).1))
                      have hO10 : Hid (w10.ownsRow V.heap.size 56 5 v10 (igo ca (o.take (j + 1))).1.length (kfl encI (igo ca (o.take (j + 1))).1)) := Lib.hid (by rw [HN2.out, show L0 ++ [ca, b] = L0 ++ [ca] ++ [b] by simp]; simp only [List.length_append, kfl_append]; rw [HQ0.out]; exact hown10)
                      clear hown10 hg10 hor10 HO9 HS9 HW9
                      go_wp2
                      go_roundg (gk - 1)
                      case measure => omega
                      case rel => exact ⟨j + 1, by go_num, by omega, by omega, by rw [HN2.out], hw10, hO10⟩
                    | false =>
                      have HN2 : Hid (igo ca (o.take (j + 1)) = (L0 ++ [b], false)) := Lib.hid (by rw [HNN.out, if_neg (by simp), if_neg (by simp)])
                      clear HNN
                      have RA7 := HRA6.out
                      have RY7 := HR6.out
                      rw [← HWE.out] at RA7 RY7
                      have g0 := RawAt.cell RA7 0
                      have g1 := RawAt.cell RA7 1
                      have g2 := RawAt.cell RA7 2
                      have g3 := RawAt.cell RA7 3
                      have g4 := RawAt.cell RA7 4
                      simp at g0 g1 g2 g3 g4
                      have y0 := RawAt.cell RY7 0
                      have y1 := RawAt.cell RY7 1
                      have y2 := RawAt.cell RY7 2
                      have y3 := RawAt.cell RY7 3
                      have y4 := RawAt.cell RY7 4
                      simp at y0 y1 y2 y3 y4
                      clear RA7 RY7
                      go_wp2_with fail
                      rw [HWE.out]
                      with_reducible refine (CAH.out _).mono ?_
                      rintro e w7 ⟨rfl, b7⟩
                      have HRX := Lib.hid (RawAt.below HRA6.out b7 HRA6.out.lt)
                      have HRY := Lib.hid (RawAt.below HR6.out b7 HR6.out.lt)
                      have HO9 := Lib.hid (own_below HO6.out b7)
                      have HW9 := Lib.hid (HW6.out.trans (b7.mono HW6.out.size))
                      generalize hwy : wr.heap.size = wy at *
                      have HWYE := Lib.hid hwy
                      clear hwy
                      clear HRA6 HR6 HO6 HW6 b7 CAH hz6 HWE
                      clear g0 g1 g2 g3 g4 y0 y1 y2 y3 y4
                      have x7 : Below w7.heap.size w7 (w7.alloc (.cells #[.int .i64 b.id, .int .i64 b.pl, .int .i64 b.bi, .int .i64 b.ky, .string b.tx] 56)) := (Below.refl _ _).alloc (Nat.le_refl _) _
                      have R7 : RawAt 56 (w7.alloc (.cells #[.int .i64 b.id, .int .i64 b.pl, .int .i64 b.bi, .int .i64 b.ky, .string b.tx] 56)) w7.heap.size #[.int .i64 b.id, .int .i64 b.pl, .int .i64 b.bi, .int .i64 b.ky, .string b.tx] := heap_alloc_new w7 _
                      have HS7 := Lib.hid (rows_of_block (enc := encI) (k := 5) encI_len R7 (l := [b]) rfl)
                      have HO7 := Lib.hid (own_below HO9.out x7)
                      have HW7 := Lib.hid (HW9.out.trans (x7.mono HW9.out.size))
                      have y0 := RawAt.cell HRY.out 0
                      have y1 := RawAt.cell HRY.out 1
                      have y2 := RawAt.cell HRY.out 2
                      have y3 := RawAt.cell HRY.out 3
                      have y4 := RawAt.cell HRY.out 4
                      simp at y0 y1 y2 y3 y4
                      clear x7 R7 HO9 HW9 HRX HRY
                      go_wp2_with (at_builtin; refine wpList_appK (enc := encI) ST encI_len (by omega) rfl (.tmp 63) (.tmp 65) rfl (base := V.heap.size) (v := .slice A5 q c5) rfl HO7.out _ 1 1 [b] rfl HS7.out ⟨Nat.le_refl _, fun h => by cases h⟩ rfl (kfl_one' encI_one _) (by simp only [maxLen]; omega) (by omega) HW7.out.size ?_; intro v8 w8 hown8 hg8 hor8)
                      have hw8 := Lib.hid (HW7.out.grown hg8 HW7.out.size (fun j hj => (hlt4 j hj).1))
                      have hO8 : Hid (w8.ownsRow V.heap.size 56 5 v8 (igo ca (o.take (j + 1))).1.length (kfl encI (igo ca (o.take (j + 1))).1)) := Lib.hid (by rw [HN2.out]; simp only [List.length_append, kfl_append]; rw [HQ0.out]; exact hown8)
                      clear hown8 hg8 hor8 HO7 HS7 HW7
                      go_wp2
                      go_roundg (gk - 1)
                      case measure => omega
                      case rel => exact ⟨j + 1, by go_num, by omega, by omega, by rw [HN2.out], hw8, hO8⟩
                · obtain rfl : k = j := by omega
                  have e3 : o.take k = o := List.take_of_length_le (by rw [HOL.out]; exact Nat.le_refl _)
                  rw [e3] at hown ⊢
                  have hins := igo_ins ca o
                  have hord : ord ilt ((l.take (k + 1)).map icl) = ins ilt ca o := by rw [HTK.out, List.map_append, List.map_cons, List.map_nil, ord_snoc, ← HO.out, ← HCA.out]
                  have hlen : (ins ilt ca o).length = k + 1 := by rw [(ins_perm ilt ca o).length_eq, List.length_cons, HOL.out]
                  rw [hins] at hord hlen
                  have HORD := Lib.hid hord
                  have HLEN := Lib.hid hlen
                  obtain ⟨A5, c5, rfl⟩ := own_formI hown.out
                  clear hins hord hlen e3
                  generalize (igo ca o).1 = L0 at *
                  generalize (igo ca o).2 = pb at *
                  have HBW := Lib.hid (HBV.out.trans (hbw.out.mono HBV.out.size))
                  have RX := RawAt.below HRV.out hbw.out HRV.out.lt
                  have g0 := RawAt.cell RX 0
                  have g1 := RawAt.cell RX 1
                  have g2 := RawAt.cell RX 2
                  have g3 := RawAt.cell RX 3
                  have g4 := RawAt.cell RX 4
                  simp at g0 g1 g2 g3 g4
                  clear hbw RX
                  cases pb with
                  | true =>
                    have hl1 : L0.length = k + 1 := by have := HLEN.out; simpa using this
                    rw [hl1] at hown ⊢
                    clear hl1
                    go_wp2
                    go_roundg (gO - 1)
                    case measure => omega
                    case rel => exact ⟨k + 1, by go_num, by omega, by omega, HBW, Lib.hid (by rw [HORD.out]; simpa using own_baseI hown.out hwB), HST2⟩
                  | false =>
                    have hl1 : L0.length = k := by have := HLEN.out; simp at this; omega
                    rw [hl1] at hown hlt4 ⊢
                    have x7 : Below wr.heap.size wr (wr.alloc (.cells #[.int .i64 ca.id, .int .i64 ca.pl, .int .i64 ca.bi, .int .i64 ca.ky, .string ca.tx] 56)) := (Below.refl _ _).alloc (Nat.le_refl _) _
                    have R7 : RawAt 56 (wr.alloc (.cells #[.int .i64 ca.id, .int .i64 ca.pl, .int .i64 ca.bi, .int .i64 ca.ky, .string ca.tx] 56)) wr.heap.size #[.int .i64 ca.id, .int .i64 ca.pl, .int .i64 ca.bi, .int .i64 ca.ky, .string ca.tx] := heap_alloc_new wr _
                    have HS7 := Lib.hid (rows_of_block (enc := encI) (k := 5) encI_len R7 (l := [ca]) rfl)
                    have HO7 := Lib.hid (own_baseI (own_below hown.out x7) hwB)
                    have HB7 := Lib.hid (HBW.out.trans (x7.mono HBW.out.size))
                    clear x7 R7 hown hl1 HBW
                    go_wp2_with (at_builtin; refine wpList_appK (enc := encI) ST encI_len (by omega) rfl (.tmp 70) (.tmp 72) rfl (base := W1.heap.size) (v := .slice A5 k c5) rfl HO7.out _ 1 1 [ca] rfl HS7.out ⟨Nat.le_refl _, fun h => by cases h⟩ rfl (kfl_one' encI_one _) (by simp only [maxLen]; omega) (by omega) HB7.out.size ?_; intro v8 w8 hown8 hg8 hor8)
                    have hb8 := Lib.hid (HB7.out.grown hg8 HB7.out.size (fun j hj => Nat.le_trans hwB (hlt4 j hj).1))
                    have hO8 : Hid (w8.ownsRow W1.heap.size 56 5 v8 (k + 1) (kfl encI (ord ilt ((l.take (k + 1)).map icl)))) := Lib.hid (by rw [HORD.out]; simp only [Bool.false_eq_true, if_false, kfl_append]; exact hown8)
                    clear hown8 hg8 hor8 HO7 HS7 HB7
                    go_wp2
                    go_roundg (gO - 1)
                    case measure => omega
                    case rel => exact ⟨k + 1, by go_num, by omega, by omega, hb8, hO8, HST2⟩
            · have hr : wr13 n (l.take k) a = r := by rw [HST.out, if_pos hz]
              have hz2 : ¬ r = 0 := by rw [← hr]; exact hz
              have CWR := Lib.hid fun (W : World) (hW : Below W3.heap.size W3 W) => rwrong13_any n (some ⟨bA, off, none⟩) k c (l.take k) a W (HRT.out.below hW) hlk (by omega) hts r hr.symm
              have k5 : (r != 0) = true := by simp [hz2]
              have k6 : (r == 0) = false := by simp [hz2]
              have k7 : decide (r = 0) = false := decide_eq_false hz2
              have HG := Lib.hid hz2
              clear HST hz hr hz2 HRT
              go_wp2_with fail
              rw [← HW3.out]
              refine wp_region_noPanic ?_
              refine wp_region_held_drew (S := (fun W => W.cell? ⟨wr.heap.size, 0, none⟩ = some (.int .i64 a.id) ∧ W.cell? ⟨wr.heap.size, 1, none⟩ = some (.int .i64 a.pl) ∧ W.cell? ⟨wr.heap.size, 2, none⟩ = some (.int .i64 a.bi) ∧ W.cell? ⟨wr.heap.size, 3, none⟩ = some (.int .i64 a.ky) ∧ W.cell? ⟨wr.heap.size, 4, none⟩ = some (.string a.tx))) (by kernel_rfl) (MK.out _ hW2) (fun hHeld => ?_)
              refine wpAnyH_take (i := 0) (v := ?_) rfl (by kernel_rfl) (by kernel_rfl) (by kernel_rfl) (fun _ _ _ h => h) (Or.inl ⟨by rfl, ?_⟩) hHeld ?_
              rotate_left
              · intro w hSw; (try dsimp only at hSw); go_simp; try with_reducible rfl
              go_simp
              refine wpAnyH_take (i := 1) (v := ?_) rfl (by kernel_rfl) (by kernel_rfl) (by kernel_rfl) (fun _ _ _ h => h) (Or.inl ⟨by rfl, ?_⟩) hHeld ?_
              rotate_left
              · intro w hSw; (try dsimp only at hSw); go_simp; try with_reducible rfl
              go_simp
              refine wpAnyH_take (i := 2) (v := ?_) rfl (by kernel_rfl) (by kernel_rfl) (by kernel_rfl) (fun _ _ _ h => h) (Or.inl ⟨by rfl, ?_⟩) hHeld ?_
              rotate_left
              · intro w hSw; (try dsimp only at hSw); go_simp; try with_reducible rfl
              go_simp
              refine wpAnyH_take (i := 3) (v := ?_) rfl (by kernel_rfl) (by kernel_rfl) (by kernel_rfl) (fun _ _ _ h => h) (Or.inl ⟨by rfl, ?_⟩) hHeld ?_
              rotate_left
              · intro w hSw; (try dsimp only at hSw); go_simp; try with_reducible rfl
              go_simp
              refine wpAnyH_take (i := 4) (v := ?_) rfl (by kernel_rfl) (by kernel_rfl) (by kernel_rfl) (fun _ _ _ h => h) (Or.inl ⟨by rfl, ?_⟩) hHeld ?_
              rotate_left
              · intro w hSw; (try dsimp only at hSw); go_simp; try with_reducible rfl
              go_simp
              refine wpAnyH_ready (rs := [5]) (by kernel_rfl) (by simp) ?_
              refine AllReadyH.cons rfl (fun K hK => ?_) ?_
              rotate_left
              · exact AllReadyH.nil
              go_simp
              go_wp2_with (first | (go_at_call 25; ((with_reducible refine (CWR.out _ hW2).mono ?_); rintro e w4 ⟨rfl, hb4⟩); have hW2 := hW2.trans (hb4.mono hW2.size)))
              refine hK.out _ _ (MK.out _ hW2) (fun hHeld => ?_)
              clear hK K
              go_simp
              refine wpAnyH_take (i := 6) (v := ?_) rfl (by kernel_rfl) (by kernel_rfl) (by kernel_rfl) (fun _ _ _ h => h) (Or.inl ⟨by rfl, ?_⟩) hHeld ?_
              rotate_left
              · intro w hSw; (try dsimp only at hSw); go_simp; try with_reducible rfl
              go_simp
              refine wpAnyH_done (by kernel_rfl) ?_ _
              refine NoPanic.normal ?_
              have HB4 := HB3.out.trans (hW2.mono HB3.out.size)
              have r4 := RawAt.below R1.out HB4 HZ1.out
              have q0 := RawAt.cell r4 0
              have q1 := RawAt.cell r4 1
              have q2 := RawAt.cell r4 2
              have f0 := RawAt.free r4 0
              have f1 := RawAt.free r4 1
              have f2 := RawAt.free r4 2
              simp at q0 q1 q2
              have HR4 := Lib.hid r4
              have HBZ := Lib.hid (X1.out.trans (HB4.mono X1.out.size))
              clear hW2 hHeld CWR MK HB4 r4
              go_wp2
              have t0 := ((HR4.out.set_ 0 (.int .i64 0)).set_ 1 (.slice none 0 0)).set_ 2 (.int .i64 r)
              have z0 := RawAt.cell t0 0
              have z1 := RawAt.cell t0 1
              have z2 := RawAt.cell t0 2
              simp at z0 z1 z2
              refine bodyPost_ret (v := .agg #[.int .i64 0, .slice none 0 0, .int .i64 r]) (by simp [results, Tryz.results7, go_sem, z0, z1, z2]) rfl ⟨0, none, 0, 0, rfl, fun h => absurd h HG.out, ?_⟩
              exact (((HBZ.out.setCell (p := ⟨w.heap.size, 0, none⟩) (Nat.le_refl _) _).setCell (p := ⟨w.heap.size, 1, none⟩) (Nat.le_refl _) _).setCell (p := ⟨w.heap.size, 2, none⟩) (Nat.le_refl _) _)
          · obtain rfl : m = k := by omega
            have hr0 : r = 0 := by rw [hst.out, List.drop_of_length_le (by rw [HL.out]; exact Nat.le_refl _)]; rfl
            subst hr0
            have e2 : l.take m = l := List.take_of_length_le (by rw [HL.out]; exact Nat.le_refl _)
            have ho2 := hown.out
            rw [e2] at ho2
            obtain ⟨A3, c3, rfl⟩ := own_formI ho2
            have HO2 := Lib.hid ho2
            have r4 := RawAt.below R1.out hb.out HZ1.out
            have q0 := RawAt.cell r4 0
            have q1 := RawAt.cell r4 1
            have q2 := RawAt.cell r4 2
            have f0 := RawAt.free r4 0
            have f1 := RawAt.free r4 1
            have f2 := RawAt.free r4 2
            simp at q0 q1 q2
            have HR4 := Lib.hid r4
            have HBZ := Lib.hid (X1.out.trans (hb.out.mono X1.out.size))
            clear hst e2 ho2 hown hb r4
            go_wp2
            have t0 := ((HR4.out.set_ 0 (.int .i64 n)).set_ 1 (.slice A3 m c3)).set_ 2 (.int .i64 0)
            have z0 := RawAt.cell t0 0
            have z1 := RawAt.cell t0 1
            have z2 := RawAt.cell t0 2
            simp at z0 z1 z2
            have ho3 := own_set (own_set (own_set HO2.out HZ1.out 0 (.int .i64 n)) HZ1.out 1 (.slice A3 m c3)) HZ1.out 2 (.int .i64 0)
            obtain ⟨A4, c4, e4, hR4, _, hC4⟩ := rows_of_own encI_len (by omega) ho3
            injection e4 with e5 _ e6
            subst e5
            subst e6
            refine bodyPost_ret (v := .agg #[.int .i64 n, .slice A3 m c3, .int .i64 0]) (by simp [results, Tryz.results7, go_sem, z0, z1, z2]) rfl ⟨n, A3, m, c3, rfl, fun _ => ⟨rfl, HL.out.symm, hR4, hC4⟩, ?_⟩
            exact (((HBZ.out.setCell (p := ⟨w.heap.size, 0, none⟩) (Nat.le_refl _) _).setCell (p := ⟨w.heap.size, 1, none⟩) (Nat.le_refl _) _).setCell (p := ⟨w.heap.size, 2, none⟩) (Nat.le_refl _) _)
set_option maxHeartbeats 16000000 in
set_option maxRecDepth 100000 in
theorem rSplice13_c (n er : Int) (A : Option Addr) (m c : Nat) (o : List In) (RA : Option Addr) (rm rc : Nat) (rem : List Int) (AA : Option Addr) (am ac : Nat) (add : List In) (w : World) (hA : RowsAt encI 5 w A o) (hl : o.length = m) (hm : m ≤ 100000) (hap : IApart o) (hR : IntsAt .i64 w RA rem) (hrl : rem.length = rm) (hrm : rm ≤ 1000000) (hD : RowsAt encI 5 w AA add) (hdl : add.length = am) (hdc : Caps AA am ac) (ham : am ≤ 100000) (hto : ∀ a ∈ o, a.tx.size ≤ 100000000) (hta : ∀ a ∈ add, a.tx.size ≤ 100000000) (r : Int) (hr : r = if remOk o rem then iwrong n (left o rem ++ add) else 6) :
    Calls Tryz.prog 8 #[.agg #[.int .i64 n, .slice A m c, .int .i64 er], .slice RA rm rc, .slice AA am ac] w (NewResC n (left o rem ++ add) w r) := by
  have ST := in_slt
  have HA := Lib.hid hA
  have HL := Lib.hid hl
  have HAP := Lib.hid hap
  have HD := Lib.hid hD
  have HDL := Lib.hid hdl
  have HDC := Lib.hid hdc
  have HRL := Lib.hid hrl
  have HRR := Lib.hid hr
  have HTX : Hid (∀ a ∈ left o rem ++ add, a.tx.size ≤ 100000000) := Lib.hid fun a ha => by
    rcases List.mem_append.1 ha with g | g
    · exact hto a (List.mem_filter.1 g).1
    · exact hta a g
  have CT := Lib.hid fun (x : Int) (W : World) (hW : Below w.heap.size w W) => times13_any x RA rm rc rem W (hR.below hW) hrl hrm
  clear hA hl hap hR hrl hD hdl hdc hto hta hr
  have x0 : Below w.heap.size w (w.alloc (.cells #[.int .i64 n, .slice A m c, .int .i64 er] 35)) := (Below.refl _ _).alloc (Nat.le_refl _) _
  have r0 : RawAt 35 (w.alloc (.cells #[.int .i64 n, .slice A m c, .int .i64 er] 35)) w.heap.size #[.int .i64 n, .slice A m c, .int .i64 er] := heap_alloc_new w _
  have x1 : Below (w.alloc (.cells #[.int .i64 n, .slice A m c, .int .i64 er] 35)).heap.size (w.alloc (.cells #[.int .i64 n, .slice A m c, .int .i64 er] 35)) ((w.alloc (.cells #[.int .i64 n, .slice A m c, .int .i64 er] 35)).alloc (.cells #[.int .i64 0, .slice none 0 0, .int .i64 0] 35)) := (Below.refl _ _).alloc (Nat.le_refl _) _
  have r1 : RawAt 35 ((w.alloc (.cells #[.int .i64 n, .slice A m c, .int .i64 er] 35)).alloc (.cells #[.int .i64 0, .slice none 0 0, .int .i64 0] 35)) (w.alloc (.cells #[.int .i64 n, .slice A m c, .int .i64 er] 35)).heap.size #[.int .i64 0, .slice none 0 0, .int .i64 0] := heap_alloc_new (w.alloc (.cells #[.int .i64 n, .slice A m c, .int .i64 er] 35)) _
  rw [show (w.alloc (.cells #[.int .i64 n, .slice A m c, .int .i64 er] 35)).heap.size = w.heap.size + 1 by simp] at r1
  have r0 := RawAt.below r0 x1 r0.lt
  have X1 := Lib.hid (x0.trans (x1.mono x0.size))
  obtain ⟨W1, hW1⟩ : ∃ W1, W1 = ((w.alloc (.cells #[.int .i64 n, .slice A m c, .int .i64 er] 35)).alloc (.cells #[.int .i64 0, .slice none 0 0, .int .i64 0] 35)) := ⟨_, rfl⟩
  rw [← hW1] at r0 r1 X1
  have HZ1 := Lib.hid r1.lt
  have c0 := RawAt.cell r0 0
  have c1 := RawAt.cell r0 1
  simp at c0 c1
  have HW1 := Lib.hid hW1
  have R0 := Lib.hid r0
  have R1 := Lib.hid r1
  clear x0 x1 r0 r1 hW1
  go_enter Tryz.func8, Tryz.ntmps8
  go_wp2_with fail
  rw [← HW1.out]
  clear HW1
  go_loopg [7, 8, 15] m (fun g v f i wr => ∃ (k q : Nat), i = .int .i64 k ∧ f = .int .i64 q ∧ k ≤ m ∧ m - k ≤ g ∧ q ≤ k ∧ Hid (q = fnd (o.take k) rem) ∧ Hid (Below W1.heap.size W1 wr) ∧ Hid (wr.ownsRow W1.heap.size 56 5 v (left (o.take k) rem).length (kfl encI (left (o.take k) rem))))
  case atStart => exact ⟨0, 0, rfl, rfl, by omega, by omega, by omega, Lib.hid (by simp [fnd]), Lib.hid (Below.refl _ _), Lib.hid (World.ownsRow_nil _ _ _ _)⟩
  case round =>
    clear c0 c1
    obtain ⟨k, q, rfl, rfl, h1, h2, h3, hq, hb, hown⟩ := hrel
    by_cases hlt : k < m
    · have hkl : k < o.length := by rw [HL.out]; exact hlt
      obtain ⟨bA, off, rfl, hbA, hce⟩ := (HA.out.below (X1.out.trans (hb.out.mono X1.out.size))).at1 hkl
      have f0 := hce 0 (by omega)
      have f1 := hce 1 (by omega)
      have f2 := hce 2 (by omega)
      have f3 := hce 3 (by omega)
      have f4 := hce 4 (by omega)
      rw [Nat.add_zero] at f0
      have htk : o.take (k + 1) = o.take k ++ [o[k]] := by rw [List.take_succ_eq_append_getElem hkl]
      have hls := left_snoc (o.take k) o[k] rem
      have hfs := fnd_snoc (o.take k) o[k] rem
      rw [← htk] at hls hfs
      rw [← hq.out] at hfs
      have hll := left_len (o.take k) rem
      rw [List.length_take] at hll
      have HLS := Lib.hid hls
      have HFS := Lib.hid hfs
      clear htk hls hfs hce hq
      generalize o[k] = a at *
      simp [encI] at f0 f1 f2 f3 f4
      have i1 : (0 : Int) ≤ k := by omega
      have i2 : (k : Int) < m := by omega
      have x3 : Below wr.heap.size wr (wr.alloc (.cells #[.int .i64 a.id, .int .i64 a.pl, .int .i64 a.bi, .int .i64 a.ky, .string a.tx] 56)) := (Below.refl _ _).alloc (Nat.le_refl _) _
      have R3 : RawAt 56 (wr.alloc (.cells #[.int .i64 a.id, .int .i64 a.pl, .int .i64 a.bi, .int .i64 a.ky, .string a.tx] 56)) wr.heap.size #[.int .i64 a.id, .int .i64 a.pl, .int .i64 a.bi, .int .i64 a.ky, .string a.tx] := heap_alloc_new wr _
      have g0 := RawAt.cell R3 0
      simp at g0
      have HB3 := Lib.hid (hb.out.trans (x3.mono hb.out.size))
      have HO3 := Lib.hid (own_below hown.out x3)
      obtain ⟨A3, c3, rfl⟩ := own_form hown.out
      have hlt4 := hown.out.lt
      have CTK := Lib.hid (CT.out a.id _ (X1.out.trans (HB3.out.mono X1.out.size)))
      have hmem : a.id ∈ rem ↔ rem.count a.id ≠ 0 := by rw [← List.count_pos_iff]; omega
      have HME := Lib.hid hmem
      have R3 := Lib.hid R3
      clear x3 hown hb hmem
      generalize hcn : rem.count a.id = cn at *
      clear hcn
      go_wp2_with fail
      with_reducible refine (CTK.out).mono ?_
      rintro e5 w5 ⟨rfl, b5⟩
      have R5 := RawAt.below R3.out b5 R3.out.lt
      have HB5 := HB3.out.trans (b5.mono HB3.out.size)
      have HO5 := own_below HO3.out b5
      have q0 := RawAt.cell R5 0
      have q1 := RawAt.cell R5 1
      have q2 := RawAt.cell R5 2
      have q3 := RawAt.cell R5 3
      have q4 := RawAt.cell R5 4
      simp at q0 q1 q2 q3 q4
      have HB5 := Lib.hid HB5
      have HO5 := Lib.hid HO5
      clear R5 R3 HB3 HO3 b5 CTK g0
      by_cases p0 : cn = 0
      · have HN := HLS.out
        rw [if_neg (fun h => HME.out.1 h p0)] at HN
        have HN := Lib.hid HN
        have HF : Hid (q = fnd (o.take (k + 1)) rem) := Lib.hid (by rw [HFS.out, if_neg (by omega)])
        subst p0
        clear HLS HFS
        have x4 : Below w5.heap.size w5 (w5.alloc (.cells #[.int .i64 a.id, .int .i64 a.pl, .int .i64 a.bi, .int .i64 a.ky, .string a.tx] 56)) := (Below.refl _ _).alloc (Nat.le_refl _) _
        have R4 : RawAt 56 (w5.alloc (.cells #[.int .i64 a.id, .int .i64 a.pl, .int .i64 a.bi, .int .i64 a.ky, .string a.tx] 56)) w5.heap.size #[.int .i64 a.id, .int .i64 a.pl, .int .i64 a.bi, .int .i64 a.ky, .string a.tx] := heap_alloc_new w5 _
        have HO4 := Lib.hid (own_below HO5.out x4)
        have HS4 : Hid (RowsAt encI 5 (w5.alloc (.cells #[.int .i64 a.id, .int .i64 a.pl, .int .i64 a.bi, .int .i64 a.ky, .string a.tx] 56)) (some ⟨w5.heap.size, 0, none⟩) [a]) := Lib.hid (rows_of_block (enc := encI) (k := 5) encI_len R4 (l := [a]) rfl)
        have HB4 := Lib.hid (HB5.out.trans (x4.mono HB5.out.size))
        clear x4 R4 HB5 HO5
        go_wp2_with (at_builtin; refine wpList_appK (enc := encI) ST encI_len (by omega) rfl (.tmp 25) (.tmp 27) rfl (base := W1.heap.size) (v := .slice A3 (left (o.take k) rem).length c3) rfl HO4.out _ 1 1 [a] rfl HS4.out ⟨Nat.le_refl _, fun h => by cases h⟩ rfl (kfl_one' encI_one _) (by simp only [maxLen]; omega) (by omega) HB4.out.size ?_; intro v5 w6 hown5 hg5 hor5; have HB6 := Lib.hid (HB4.out.grown hg5 HB4.out.size (fun j hj => (hlt4 j hj).1)); have HO6 : Hid (w6.ownsRow W1.heap.size 56 5 v5 (left (o.take (k + 1)) rem).length (kfl encI (left (o.take (k + 1)) rem))) := Lib.hid (by rw [HN.out, kfl_append, List.length_append]; exact hown5); clear hown5 hg5 hor5 HO4 HS4 HB4)
        go_roundg (gk - 1)
        case measure => omega
        case rel => exact ⟨k + 1, q, by go_num, rfl, by omega, by omega, by omega, HF, HB6, HO6⟩
      · have HN := HLS.out
        rw [if_pos (HME.out.2 p0)] at HN
        have HN := Lib.hid HN
        have k1 : decide ((cn : Int) = 0) = false := decide_eq_false (by omega)
        have k1b : ((cn : Int) == 0) = false := by simp; omega
        by_cases p1 : cn = 1
        · have HF : Hid (q + 1 = fnd (o.take (k + 1)) rem) := Lib.hid (by rw [HFS.out, if_pos p1])
          subst p1
          have HW5 : Hid (w5.ownsRow W1.heap.size 56 5 (.slice A3 (left (o.take k) rem).length c3) (left (o.take (k + 1)) rem).length (kfl encI (left (o.take (k + 1)) rem))) := Lib.hid (by rw [HN.out]; exact HO5.out)
          clear HLS HFS HN HO5 p0 k1 k1b
          go_wp2
          go_roundg (gk - 1)
          case measure => omega
          case rel => exact ⟨k + 1, q + 1, by go_num, by go_num, by omega, by omega, by omega, HF, HB5, HW5⟩
        · have HF : Hid (q = fnd (o.take (k + 1)) rem) := Lib.hid (by rw [HFS.out, if_neg p1])
          have HW5 : Hid (w5.ownsRow W1.heap.size 56 5 (.slice A3 (left (o.take k) rem).length c3) (left (o.take (k + 1)) rem).length (kfl encI (left (o.take (k + 1)) rem))) := Lib.hid (by rw [HN.out]; exact HO5.out)
          have k2 : decide ((cn : Int) = 1) = false := decide_eq_false (by omega)
          have k2b : ((cn : Int) == 1) = false := by simp; omega
          clear HLS HFS HN HO5
          go_wp2
          go_roundg (gk - 1)
          case measure => omega
          case rel => exact ⟨k + 1, q, by go_num, rfl, by omega, by omega, by omega, HF, HB5, HW5⟩
    · obtain rfl : m = k := by omega
      have e2 : o.take m = o := List.take_of_length_le (by rw [HL.out]; exact Nat.le_refl _)
      have ho2 := hown.out
      have hq2 := hq.out
      rw [e2] at ho2 hq2
      have hok := fnd_ok HAP.out rem
      rw [← hq2, HRL.out] at hok
      have hll := left_len o rem
      rw [HL.out] at hll
      have HO2 := Lib.hid ho2
      have HB := Lib.hid hb.out
      have hS1 := RawAt.below R1.out HB.out R1.out.lt
      have hS0 := RawAt.below R0.out HB.out R0.out.lt
      have q0 := RawAt.cell hS1 0
      have q1 := RawAt.cell hS1 1
      have q2 := RawAt.cell hS1 2
      have f0 := RawAt.free hS1 0
      have f1 := RawAt.free hS1 1
      have f2 := RawAt.free hS1 2
      simp at q0 q1 q2
      have HZ := Lib.hid (X1.out.trans (HB.out.mono X1.out.size))
      obtain ⟨A3, c3, rfl⟩ := own_form ho2
      have hlt4 := ho2.lt
      clear e2 hq hq2 hown ho2 hb
      by_cases p : q < rm
      · have k0 : decide (q < rm) = true := decide_eq_true p
        have k1 : decide ((q : Int) < rm) = true := decide_eq_true (by omega)
        have e : r = 6 := by rw [HRR.out, if_neg (hok.1 p)]
        subst e
        have HR1 := Lib.hid hS1
        clear HRR hok hS0 hS1
        go_wp2
        have t0 := ((HR1.out.set_ 0 (.int .i64 0)).set_ 1 (.slice none 0 0)).set_ 2 (.int .i64 6)
        have z0 := RawAt.cell t0 0
        have z1 := RawAt.cell t0 1
        have z2 := RawAt.cell t0 2
        simp at z0 z1 z2
        refine bodyPost_ret (v := .agg #[.int .i64 0, .slice none 0 0, .int .i64 6]) (by simp [results, Tryz.results8, go_sem, z0, z1, z2]) rfl ⟨0, none, 0, 0, rfl, fun h => absurd h (by decide), ?_⟩
        exact (((HZ.out.setCell (p := ⟨w.heap.size + 1, 0, none⟩) (Nat.le_succ _) _).setCell (p := ⟨w.heap.size + 1, 1, none⟩) (Nat.le_succ _) _).setCell (p := ⟨w.heap.size + 1, 2, none⟩) (Nat.le_succ _) _)
      · have k0 : decide (q < rm) = false := decide_eq_false p
        have k1 : decide ((q : Int) < rm) = false := decide_eq_false (by omega)
        have hyes : remOk o rem := Decidable.byContradiction fun h => p (hok.2 h)
        have HE : Hid (iwrong n (left o rem ++ add) = r) := Lib.hid (by rw [HRR.out, if_pos hyes])
        have HAD := Lib.hid (HD.out.below HZ.out)
        have R01 := Lib.hid hS0
        have R11 := Lib.hid hS1
        have CNW := Lib.hid fun (A' : Option Addr) (m' c' : Nat) (W : World) (h1 : RowsAt encI 5 W A' (left o rem ++ add)) (h2 : Caps A' m' c') (h3 : (left o rem ++ add).length = m') => rNew13_c n A' m' c' (left o rem ++ add) W h1 h2 h3 HTX.out r HE.out
        clear HRR hok hyes q0 q1 q2 f0 f1 f2 hS0 hS1
        go_wp2_with (at_builtin; refine wpList_appK (enc := encI) ST encI_len (by omega) rfl (.tmp 39) (.tmp 40) rfl (base := W1.heap.size) (v := .slice A3 (left o rem).length c3) rfl HO2.out AA am ac add rfl HAD.out HDC.out HDL.out (kfl_one' encI_one _) (by simp only [maxLen]; omega) (by omega) HB.out.size ?_; intro v5 w6 hown5 hg5 hor5; have hb6 := HB.out.grown hg5 HB.out.size (fun j hj => (hlt4 j hj).1); have HB6 := Lib.hid hb6; have hS0 := RawAt.below R0.out hb6 R0.out.lt; have c0 := RawAt.cell hS0 0; simp at c0; have hl6 : (left o rem ++ add).length = (left o rem).length + am := (by rw [List.length_append, HDL.out]); have hown6 : w6.ownsRow W1.heap.size 56 5 v5 (left o rem ++ add).length (kfl encI (left o rem ++ add)) := (by rw [hl6, kfl_append]; exact hown5); obtain ⟨A6, c6, e6, hR6, _, hC6⟩ := rows_of_own encI_len (by omega) hown6; subst e6; have CNW6 := Lib.hid (CNW.out A6 _ c6 w6 hR6 (hl6 ▸ hC6) hl6); clear hown5 hg5 hor5 hown6 hR6 hC6 hS0 hb6)
        with_reducible refine (CNW6.out).mono ?_
        rintro e7 w7 ⟨nn, A7, m7, c7, rfl, hres, b7⟩
        have hS1 := RawAt.below R1.out (HB6.out.trans (b7.mono HB6.out.size)) R1.out.lt
        have q0 := RawAt.cell hS1 0
        have q1 := RawAt.cell hS1 1
        have q2 := RawAt.cell hS1 2
        have f0 := RawAt.free hS1 0
        have f1 := RawAt.free hS1 1
        have f2 := RawAt.free hS1 2
        simp at q0 q1 q2
        have HR1 := Lib.hid hS1
        have HZ7 := Lib.hid (X1.out.trans ((HB6.out.trans (b7.mono HB6.out.size)).mono X1.out.size))
        have HRES := Lib.hid hres
        clear hres b7 hS1 CNW6 CNW
        go_wp2
        have t0 := ((HR1.out.set_ 0 (.int .i64 nn)).set_ 1 (.slice A7 m7 c7)).set_ 2 (.int .i64 r)
        have z0 := RawAt.cell t0 0
        have z1 := RawAt.cell t0 1
        have z2 := RawAt.cell t0 2
        simp at z0 z1 z2
        refine bodyPost_ret (v := .agg #[.int .i64 nn, .slice A7 m7 c7, .int .i64 r]) (by simp [results, Tryz.results8, go_sem, z0, z1, z2]) rfl ⟨nn, A7, m7, c7, rfl, fun hr0 => ?_, ?_⟩
        · obtain ⟨y1, y2, y3, y4⟩ := HRES.out hr0
          exact ⟨y1, y2, rows_apart3 (rows_apart3 (rows_apart3 y3 HR1.out _ _) (RawAt.of_eq (HR1.out.set_ 0 (.int .i64 nn)) rfl) _ _) (RawAt.of_eq ((HR1.out.set_ 0 (.int .i64 nn)).set_ 1 (.slice A7 m7 c7)) rfl) _ _, y4⟩
        · exact (((HZ7.out.setCell (p := ⟨w.heap.size + 1, 0, none⟩) (Nat.le_succ _) _).setCell (p := ⟨w.heap.size + 1, 1, none⟩) (Nat.le_succ _) _).setCell (p := ⟨w.heap.size + 1, 2, none⟩) (Nat.le_succ _) _)
end Go.Proofs.YtjkmkobnfhepaaaGreat
