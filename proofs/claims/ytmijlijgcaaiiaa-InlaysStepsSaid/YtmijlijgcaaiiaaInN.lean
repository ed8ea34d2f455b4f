/- Inlays: the document's New. -/
import Derived.Test.YtmijlijgcaaiiaaInM
import Derived.Test.YtmijlijgcaaiiaaOnT
namespace Go.Proofs.Ytmijlijgcaaiiaa
open Go.RowKit Go.Sort
set_option linter.unusedVariables false
/-- What is laid so far, where one more goes among others, and whether it has gone. -/
def igo (x : In) : List In → List In × Bool
  | [] => ([], false)
  | y :: l => if ilt x y = true then (x :: y :: l, true) else (y :: (igo x l).1, (igo x l).2)
theorem igo_ins (x : In) : ∀ l : List In, ins ilt x l = if (igo x l).2 = true then (igo x l).1 else (igo x l).1 ++ [x]
  | [] => by simp [ins, igo]
  | y :: l => by
    have ih := igo_ins x l
    unfold ins igo
    split
    · simp
    · rw [ih]
      split <;> simp_all
theorem igo_snoc (x b : In) : ∀ l : List In, igo x (l ++ [b]) = if (igo x l).2 = true then ((igo x l).1 ++ [b], true) else if ilt x b = true then ((igo x l).1 ++ [x, b], true) else ((igo x l).1 ++ [b], false)
  | [] => by simp only [List.nil_append, igo]; split <;> simp
  | y :: l => by
    have ih := igo_snoc x b l
    rw [List.cons_append, igo, igo]
    split
    · simp
    · rw [ih]
      split
      · simp_all
      · split <;> simp_all
theorem igo_len (x : In) : ∀ l : List In, (igo x l).1.length ≤ l.length + 1
  | [] => by simp [igo]
  | y :: l => by
    have := igo_len x l
    unfold igo
    split
    · simp
    · simp; omega
theorem iw_step (n : Int) {l : List In} {k : Nat} (h : k < l.length) : iw n (l.take k) (l.drop k) = if wr13 n (l.take k) l[k] ≠ 0 then wr13 n (l.take k) l[k] else iw n (l.take (k + 1)) (l.drop (k + 1)) := by
  rw [List.drop_eq_getElem_cons h, iw, List.take_succ_eq_append_getElem h, wr13]
  by_cases a : iwr n l[k] = 0
  · by_cases b : (l.take k).any (fun b => b.id == l[k].id) = true
    · simp [a, b]
    · simp [a, b]
  · simp [a]
theorem rows_takeN {α : Type} {enc : α → List Value} {k : Nat} {w : World} {A : Option Addr} {l : List α} (h : RowsAt enc k w A l) (j : Nat) : RowsAt enc k w A (l.take j) := by
  intro hl
  rw [List.length_take] at hl
  obtain ⟨b, off, rfl, h1, h2⟩ := h (by omega)
  exact ⟨b, off, rfl, h1, fun i hi c hc => by
    rw [h2 i (by rw [List.length_take] at hi; omega) c hc, List.getElem_take]⟩
theorem own_set_ne {w : World} {base : Nat} {e : TypeId} {size : Nat} {v : Value} {n : Nat} {xs : List Value} (h : w.ownsRow base e size v n xs) {b : Nat} (hb : ∀ g, v.ownBlock = some g → g ≠ b) (k : Nat) (u : Value) : (w.setCell ⟨b, k, none⟩ u).ownsRow base e size v n xs := by
  refine ⟨h.1, ?_⟩
  rcases h.2 with h2 | ⟨g, cap, cur, rfl, hB, c, h3⟩
  · exact .inl h2
  · exact .inr ⟨g, cap, cur, rfl, hB, (Below.heap_setCell w ⟨b, k, none⟩ u g (by simpa using hb g rfl)).trans c, h3⟩
/-- What New answers. -/
def NewRes (n : Int) (l : List In) (w : World) (r : Int) (e : Ending) (w' : World) : Prop := ∃ nn A2 m2 c2, e = .returned (.agg #[.int .i64 nn, .slice A2 m2 c2, .int .i64 r]) ∧ (r = 0 → nn = n ∧ m2 = l.length ∧ RowsAt encI 5 w' A2 (ord ilt (l.map icl))) ∧ Below w.heap.size w w'
set_option maxHeartbeats 16000000 in
set_option maxRecDepth 100000 in
theorem rNew13_any (n : Int) (A : Option Addr) (m c : Nat) (l : List In) (w : World) (hA : RowsAt encI 5 w A l) (hcap : Caps A m c) (hl : l.length = m) (htx : ∀ a ∈ l, a.tx.size ≤ 100000000) (r : Int) (hr : iwrong n l = r) :
    Calls Try.prog 14 #[.int .i64 n, .slice A m c] w (NewRes n l w r) := by
  have ST := in_slt
  have HR := Lib.hid hr
  have HL := Lib.hid hl
  have HC := Lib.hid hcap
  have HA := Lib.hid hA
  have HTX := Lib.hid htx
  clear hA hl hcap hr htx
  by_cases g1 : n < 0
  · have k1 : decide (n < 0) = true := decide_eq_true g1
    have e : r = 1 := by rw [← HR.out]; unfold iwrong; rw [if_pos (.inl g1)]
    subst e
    clear HR
    go_enter Try.func14, Try.ntmps14
    go_wp2
    refine bodyPost_ret (v := .agg #[.int .i64 0, .slice none 0 0, .int .i64 1]) (by simp [results, Try.results14, go_sem]) rfl ⟨0, none, 0, 0, rfl, fun h => absurd h (by decide), (Below.refl _ _).alloc (Nat.le_refl _) _⟩
  · have k1 : decide (n < 0) = false := decide_eq_false g1
    by_cases g2 : 1099511627776 < n
    · have k2 : decide (1099511627776 < n) = true := decide_eq_true g2
      have e : r = 1 := by rw [← HR.out]; unfold iwrong; rw [if_pos (.inr g2)]
      subst e
      clear HR
      go_enter Try.func14, Try.ntmps14
      go_wp2
      refine bodyPost_ret (v := .agg #[.int .i64 0, .slice none 0 0, .int .i64 1]) (by simp [results, Try.results14, go_sem]) rfl ⟨0, none, 0, 0, rfl, fun h => absurd h (by decide), (Below.refl _ _).alloc (Nat.le_refl _) _⟩
    · have k2 : decide (1099511627776 < n) = false := decide_eq_false g2
      by_cases g3 : 60 < m
      · have k3 : decide (60 < m) = true := decide_eq_true g3
        have k4 : decide ((60 : Int) < (m : Int)) = true := decide_eq_true (by omega)
        have e : r = 5 := by rw [← HR.out]; unfold iwrong; rw [if_neg (by omega), if_pos (by rw [HL.out]; exact g3)]
        subst e
        clear HR
        go_enter Try.func14, Try.ntmps14
        go_wp2
        refine bodyPost_ret (v := .agg #[.int .i64 0, .slice none 0 0, .int .i64 5]) (by simp [results, Try.results14, go_sem]) rfl ⟨0, none, 0, 0, rfl, fun h => absurd h (by decide), (Below.refl _ _).alloc (Nat.le_refl _) _⟩
      · have k3 : decide (60 < m) = false := decide_eq_false g3
        have k4 : decide ((60 : Int) < (m : Int)) = false := decide_eq_false (by omega)
        have e : r = iw n [] l := by rw [← HR.out]; unfold iwrong; rw [if_neg (by omega), if_neg (by rw [HL.out]; exact g3)]
        have x1 : Below w.heap.size w (w.alloc (.cells #[.int .i64 0, .slice none 0 0, .int .i64 0] 31)) := (Below.refl _ _).alloc (Nat.le_refl _) _
        have r1 : RawAt 31 (w.alloc (.cells #[.int .i64 0, .slice none 0 0, .int .i64 0] 31)) w.heap.size #[.int .i64 0, .slice none 0 0, .int .i64 0] := heap_alloc_new w _
        have hz1 : w.heap.size < (w.alloc (.cells #[.int .i64 0, .slice none 0 0, .int .i64 0] 31)).heap.size := by simp
        obtain ⟨W1, hW1⟩ : ∃ W1, W1 = w.alloc (.cells #[.int .i64 0, .slice none 0 0, .int .i64 0] 31) := ⟨_, rfl⟩
        rw [← hW1] at x1 r1 hz1
        have HR2 := Lib.hid e
        have HW1 := Lib.hid hW1
        have X1 := Lib.hid x1
        have R1 := Lib.hid r1
        have HZ1 := Lib.hid hz1
        clear HR e hW1 x1 r1 hz1
        go_enter Try.func14, Try.ntmps14
        go_wp2_with fail
        rw [← HW1.out]
        go_loopg [5, 26] m (fun g v i wr => ∃ (k : Nat), i = .int .i64 k ∧ k ≤ m ∧ m - k ≤ g ∧ Hid (Below W1.heap.size W1 wr) ∧ Hid (wr.ownsRow W1.heap.size 46 5 v k (kfl encI (ord ilt ((l.take k).map icl)))) ∧ Hid (r = iw n (l.take k) (l.drop k)))
        case atStart => exact ⟨0, rfl, by omega, by omega, Lib.hid (Below.refl _ _), Lib.hid (World.ownsRow_nil _ _ _ _), HR2⟩
        case round =>
          clear HR2 HW1
          obtain ⟨k, rfl, h1, h2, hb, hown, hst⟩ := hrel
          obtain ⟨gO, hgO⟩ : ∃ g, g = gk := ⟨_, rfl⟩
          subst hgO
          by_cases hlt : k < m
          · have hkl : k < l.length := by rw [HL.out]; exact hlt
            obtain ⟨bA, off, rfl, hbA, d0, d1, d2, d3, d4⟩ := (HA.out.below (X1.out.trans (hb.out.mono X1.out.size))).in5 hkl
            have hts := HTX.out _ (List.getElem_mem hkl)
            have hst2 := hst.out
            rw [iw_step n hkl] at hst2
            have htk : l.take (k + 1) = l.take k ++ [l[k]] := by rw [List.take_succ_eq_append_getElem hkl]
            have HTK := Lib.hid htk
            have HST := Lib.hid hst2
            clear htk hst2 hst
            generalize l[k] = a at *
            have i1 : (0 : Int) ≤ k := by omega
            have i2 : (k : Int) < m := by omega
            have i3 : k ≤ c := Nat.le_trans h1 HC.out.1
            have i4 : (k : Int) ≤ c := by omega
            have x3 : Below wr.heap.size wr (wr.alloc (.cells #[.int .i64 a.id, .int .i64 a.pl, .int .i64 a.bi, .int .i64 a.ky, .string a.tx] 46)) := (Below.refl _ _).alloc (Nat.le_refl _) _
            have R3 : RawAt 46 (wr.alloc (.cells #[.int .i64 a.id, .int .i64 a.pl, .int .i64 a.bi, .int .i64 a.ky, .string a.tx] 46)) wr.heap.size #[.int .i64 a.id, .int .i64 a.pl, .int .i64 a.bi, .int .i64 a.ky, .string a.tx] := heap_alloc_new wr _
            have HB3 := Lib.hid (hb.out.trans (x3.mono hb.out.size))
            have HO3 := Lib.hid (own_below hown.out x3)
            have HRT := Lib.hid (rows_takeN (HA.out.below (X1.out.trans (HB3.out.mono X1.out.size))) k)
            have hlk : (l.take k).length = k := by rw [List.length_take, Nat.min_eq_left (by omega)]
            have hZb : W1.heap.size ≤ wr.heap.size := hb.out.size
            have hkz : W1.heap.size < wr.heap.size + 1 := by omega
            obtain ⟨W3, hW3⟩ : ∃ W3, W3 = wr.alloc (.cells #[.int .i64 a.id, .int .i64 a.pl, .int .i64 a.bi, .int .i64 a.ky, .string a.tx] 46) := ⟨_, rfl⟩
            rw [← hW3] at HB3 HO3 HRT R3 x3
            have HW3 := Lib.hid hW3
            have HR3 := Lib.hid R3
            have MK : Hid (∀ W : World, Below W3.heap.size W3 W → W.cell? ⟨wr.heap.size, 0, none⟩ = some (.int .i64 a.id) ∧ W.cell? ⟨wr.heap.size, 1, none⟩ = some (.int .i64 a.pl) ∧ W.cell? ⟨wr.heap.size, 2, none⟩ = some (.int .i64 a.bi) ∧ W.cell? ⟨wr.heap.size, 3, none⟩ = some (.int .i64 a.ky) ∧ W.cell? ⟨wr.heap.size, 4, none⟩ = some (.string a.tx)) := Lib.hid fun W hW => by
              have q := RawAt.below HR3.out hW HR3.out.lt
              have e0 := RawAt.cell q 0
              have e1 := RawAt.cell q 1
              have e2 := RawAt.cell q 2
              have e3 := RawAt.cell q 3
              have e4 := RawAt.cell q 4
              simp at e0 e1 e2 e3 e4
              exact ⟨e0, e1, e2, e3, e4⟩
            have hW2 : Below W3.heap.size W3 W3.drew := (Below.refl _ _).drew
            have HIA : Hid (Below wr.heap.size wr W3) := Lib.hid x3
            have HNE : Hid (∀ g, u5.ownBlock = some g → g ≠ wr.heap.size) := Lib.hid fun g hg => Nat.ne_of_lt (hown.out.lt g hg).2
            clear hb hown hW3 R3 x3 hkz
            by_cases hz : wr13 n (l.take k) a = 0
            · have HST2 : Hid (r = iw n (l.take (k + 1)) (l.drop (k + 1))) := Lib.hid (by rw [HST.out, if_neg (fun h => h hz)])
              have CWR := Lib.hid fun (W : World) (hW : Below W3.heap.size W3 W) => rwrong13_any n (some ⟨bA, off, none⟩) k c (l.take k) a W (HRT.out.below hW) hlk (by omega) hts 0 hz.symm
              clear HST hz HRT
              go_wp2_with fail
              rw [← HW3.out]
              refine wp_region_noPanic ?_
              refine wp_region_held_drew (S := (fun W => W.cell? ⟨wr.heap.size, 0, none⟩ = some (.int .i64 a.id) ∧ W.cell? ⟨wr.heap.size, 1, none⟩ = some (.int .i64 a.pl) ∧ W.cell? ⟨wr.heap.size, 2, none⟩ = some (.int .i64 a.bi) ∧ W.cell? ⟨wr.heap.size, 3, none⟩ = some (.int .i64 a.ky) ∧ W.cell? ⟨wr.heap.size, 4, none⟩ = some (.string a.tx))) (by kernel_rfl) (MK.out _ hW2) (fun hHeld => ?_)
              refine wpAnyH_take (i := 0) (v := ?_) rfl (by kernel_rfl) (by kernel_rfl) (by kernel_rfl) (fun _ _ _ h => h) (Or.inl ⟨by rfl, ?_⟩) hHeld ?_
              rotate_left
              · intro w hSw
                (try dsimp only at hSw)
                go_simp
                try with_reducible rfl
              go_simp
              refine wpAnyH_take (i := 1) (v := ?_) rfl (by kernel_rfl) (by kernel_rfl) (by kernel_rfl) (fun _ _ _ h => h) (Or.inl ⟨by rfl, ?_⟩) hHeld ?_
              rotate_left
              · intro w hSw
                (try dsimp only at hSw)
                go_simp
                try with_reducible rfl
              go_simp
              refine wpAnyH_take (i := 2) (v := ?_) rfl (by kernel_rfl) (by kernel_rfl) (by kernel_rfl) (fun _ _ _ h => h) (Or.inl ⟨by rfl, ?_⟩) hHeld ?_
              rotate_left
              · intro w hSw
                (try dsimp only at hSw)
                go_simp
                try with_reducible rfl
              go_simp
              refine wpAnyH_take (i := 3) (v := ?_) rfl (by kernel_rfl) (by kernel_rfl) (by kernel_rfl) (fun _ _ _ h => h) (Or.inl ⟨by rfl, ?_⟩) hHeld ?_
              rotate_left
              · intro w hSw
                (try dsimp only at hSw)
                go_simp
                try with_reducible rfl
              go_simp
              refine wpAnyH_take (i := 4) (v := ?_) rfl (by kernel_rfl) (by kernel_rfl) (by kernel_rfl) (fun _ _ _ h => h) (Or.inl ⟨by rfl, ?_⟩) hHeld ?_
              rotate_left
              · intro w hSw
                (try dsimp only at hSw)
                go_simp
                try with_reducible rfl
              go_simp
              refine wpAnyH_ready (rs := [5]) (by kernel_rfl) (by simp) ?_
              refine AllReadyH.cons rfl (fun K hK => ?_) ?_
              rotate_left
              · exact AllReadyH.nil
              go_simp
              go_wp2_with (first | (go_at_call 46; ((with_reducible refine (CWR.out _ hW2).mono ?_); rintro e w4 ⟨rfl, hb4⟩); have hW2 := hW2.trans (hb4.mono hW2.size)))
              refine hK.out _ _ (MK.out _ hW2) (fun hHeld => ?_)
              clear hK K
              go_simp
              refine wpAnyH_take (i := 6) (v := ?_) rfl (by kernel_rfl) (by kernel_rfl) (by kernel_rfl) (fun _ _ _ h => h) (Or.inl ⟨by rfl, ?_⟩) hHeld ?_
              rotate_left
              · intro w hSw
                (try dsimp only at hSw)
                go_simp
                try with_reducible rfl
              go_simp
              refine wpAnyH_done (by kernel_rfl) ?_ _
              refine NoPanic.normal ?_
              have HB4 := Lib.hid (HB3.out.trans (hW2.mono HB3.out.size))
              have HO4 := Lib.hid (own_below HO3.out hW2)
              have HR4 := Lib.hid (RawAt.below HR3.out hW2 HR3.out.lt)
              have e4 := RawAt.cell HR4.out 4
              simp at e4
              have hdl := dec_len a.tx
              have CD := Lib.hid fun (W : World) => rdecode_any a.tx W (by omega)
              generalize hdle : (dec a.tx).length = dl at CD hdl
              have HDL := Lib.hid hdle
              obtain ⟨ca, hca⟩ : ∃ x, x = icl a := ⟨_, rfl⟩
              have HCA := Lib.hid hca
              have HTC : Hid ((⟨(encAll (dec a.tx)).toArray⟩ : ByteArray) = ca.tx) := Lib.hid (by rw [hca]; rfl)
              obtain ⟨o, ho⟩ : ∃ o, o = ord ilt ((l.take k).map icl) := ⟨_, rfl⟩
              have HO := Lib.hid ho
              rw [← ho] at HO4
              clear hW2 hHeld CWR MK hdle hca ho HO3 HB3
              go_wp2_with fail
              with_reducible refine (CD.out _).mono ?_
              rintro e w5 ⟨A5, c5, rfl, b5, I5, _⟩
              have CE := Lib.hid (rencode_any A5 dl c5 (dec a.tx) w5 I5 HDL.out (by omega))
              rw [HTC.out] at CE
              have HB5 := Lib.hid (HB4.out.trans (b5.mono HB4.out.size))
              have HO5 := Lib.hid (own_below HO4.out b5)
              have HR5 := Lib.hid (RawAt.below HR4.out b5 HR4.out.lt)
              clear b5 I5 CD HB4 HO4 HR4 e4
              go_wp2_with fail
              with_reducible refine (CE.out).mono ?_
              rintro e w6 ⟨rfl, b6⟩
              have HB6 := Lib.hid (HB5.out.trans (b6.mono HB5.out.size))
              have HO6 := Lib.hid (own_below HO5.out b6)
              have HR6 := Lib.hid (RawAt.below HR5.out b6 HR5.out.lt)
              have e4 := RawAt.cell HR6.out 4
              have f4 := RawAt.free HR6.out 4
              simp at e4
              have hRV : RawAt 46 (w6.setCell ⟨wr.heap.size, 4, none⟩ (.string ca.tx)) wr.heap.size #[.int .i64 ca.id, .int .i64 ca.pl, .int .i64 ca.bi, .int .i64 ca.ky, .string ca.tx] := (HR6.out.set_ 4 (.string ca.tx)).of_eq (by rw [HCA.out]; rfl)
              have hBV := HB6.out.setCell (p := ⟨wr.heap.size, 4, none⟩) hZb (.string ca.tx)
              have hOV := own_set_ne HO6.out (b := wr.heap.size) HNE.out 4 (.string ca.tx)
              obtain ⟨V, hV⟩ : ∃ V, V = w6.setCell ⟨wr.heap.size, 4, none⟩ (.string ca.tx) := ⟨_, rfl⟩
              rw [← hV] at hRV hBV hOV
              have HV := Lib.hid hV
              have HRV := Lib.hid hRV
              have HBV := Lib.hid hBV
              obtain ⟨A3, c3, h3, hR3, hol, _⟩ := rows_of_own encI_len (by omega) hOV
              subst h3
              have HRO := Lib.hid hR3
              have HOL := Lib.hid hol
              have hwB : W1.heap.size ≤ V.heap.size := hBV.size
              clear b6 CE HB5 HO5 HR5 HB6 HO6 HR6 hRV hBV hOV hV hR3 hol HTC HDL hdl
              go_wp2_with fail
              rw [← HV.out]
              clear e4 f4 HV HW3 HR3 HIA HNE
              generalize hbx : wr.heap.size = bX at *
              clear hbx
              have hbXV := HRV.out.lt
              go_loopg [9, 10, 48] k (fun g v pt i wr2 => ∃ (j : Nat), i = .int .i64 j ∧ j ≤ k ∧ k - j ≤ g ∧ pt = .bool (igo ca (o.take j)).2 ∧ Hid (Below V.heap.size V wr2) ∧ Hid (wr2.ownsRow V.heap.size 46 5 v (igo ca (o.take j)).1.length (kfl encI (igo ca (o.take j)).1)))
              case atStart => exact ⟨0, rfl, by omega, by omega, rfl, Lib.hid (Below.refl _ _), Lib.hid (World.ownsRow_nil _ _ _ _)⟩
              case round =>
                obtain ⟨j, rfl, j1, j2, rfl, hbw, hown⟩ := hrel
                have hwB2 := hbw.out.size
                have hlt4 := hown.out.lt
                by_cases hlt2 : j < k
                · have hjl : j < o.length := by rw [HOL.out]; exact hlt2
                  obtain ⟨bO, off2, rfl, hbO, u0, u1, u2, u3, u4⟩ := (HRO.out.below hbw.out).in5 hjl
                  have hts : igo ca (o.take (j + 1)) = igo ca (o.take j ++ [o[j]]) := by rw [List.take_succ_eq_append_getElem hjl]
                  rw [igo_snoc] at hts
                  have hql := igo_len ca (o.take j)
                  rw [List.length_take] at hql
                  generalize o[j] = b at *
                  have HN := Lib.hid hts
                  clear hts
                  obtain ⟨A5, c5, rfl⟩ := own_formI hown.out
                  generalize (igo ca (o.take j)).1 = L0 at *
                  generalize (igo ca (o.take j)).2 = pb at *
                  generalize hq0 : L0.length = q at *
                  have HQ0 := Lib.hid hq0
                  clear hq0
                  have i3 : (0 : Int) ≤ j := by omega
                  have i4' : (j : Int) < k := by omega
                  have x6 : Below wr.heap.size wr (wr.alloc (.cells #[.int .i64 b.id, .int .i64 b.pl, .int .i64 b.bi, .int .i64 b.ky, .string b.tx] 46)) := (Below.refl _ _).alloc (Nat.le_refl _) _
                  have R6 : RawAt 46 (wr.alloc (.cells #[.int .i64 b.id, .int .i64 b.pl, .int .i64 b.bi, .int .i64 b.ky, .string b.tx] 46)) wr.heap.size #[.int .i64 b.id, .int .i64 b.pl, .int .i64 b.bi, .int .i64 b.ky, .string b.tx] := heap_alloc_new wr _
                  have HRA6 := Lib.hid (RawAt.below HRV.out (hbw.out.trans (x6.mono hbw.out.size)) HRV.out.lt)
                  have HR6 := Lib.hid R6
                  have HW6 := Lib.hid (hbw.out.trans (x6.mono hbw.out.size))
                  have HO6 := Lib.hid (own_below hown.out x6)
                  have hz6 : (wr.alloc (.cells #[.int .i64 b.id, .int .i64 b.pl, .int .i64 b.bi, .int .i64 b.ky, .string b.tx] 46)).heap.size = wr.heap.size + 1 := by simp
                  generalize hW6 : wr.alloc (.cells #[.int .i64 b.id, .int .i64 b.pl, .int .i64 b.bi, .int .i64 b.ky, .string b.tx] 46) = W6 at HR6 HRA6 HW6 HO6 hz6
                  have HWE := Lib.hid hW6
                  clear hbw hown x6 R6 hW6
                  cases pb with
                  | true =>
                    have HN2 : Hid (igo ca (o.take (j + 1)) = (L0 ++ [b], true)) := Lib.hid (by rw [HN.out, if_pos rfl])
                    clear HN
                    have x7 : Below W6.heap.size W6 (W6.alloc (.cells #[.int .i64 b.id, .int .i64 b.pl, .int .i64 b.bi, .int .i64 b.ky, .string b.tx] 46)) := (Below.refl _ _).alloc (Nat.le_refl _) _
                    have R7 : RawAt 46 (W6.alloc (.cells #[.int .i64 b.id, .int .i64 b.pl, .int .i64 b.bi, .int .i64 b.ky, .string b.tx] 46)) W6.heap.size #[.int .i64 b.id, .int .i64 b.pl, .int .i64 b.bi, .int .i64 b.ky, .string b.tx] := heap_alloc_new W6 _
                    have HS7 : Hid (RowsAt encI 5 (W6.alloc (.cells #[.int .i64 b.id, .int .i64 b.pl, .int .i64 b.bi, .int .i64 b.ky, .string b.tx] 46)) (some ⟨wr.heap.size + 1, 0, none⟩) [b]) := Lib.hid (by rw [← hz6]; exact rows_of_block (enc := encI) (k := 5) encI_len R7 (l := [b]) rfl)
                    have HO7 := Lib.hid (own_below HO6.out x7)
                    have HW7 := Lib.hid (HW6.out.trans (x7.mono HW6.out.size))
                    clear x7 R7 HO6 HW6 HRA6 HR6 hz6
                    rw [← HWE.out] at HS7 HO7 HW7
                    go_wp2_with (at_builtin; refine wpList_appK (enc := encI) ST encI_len (by omega) rfl (.tmp 63) (.tmp 65) rfl (base := V.heap.size) (v := .slice A5 q c5) rfl HO7.out _ 1 1 [b] rfl HS7.out ⟨Nat.le_refl _, fun h => by cases h⟩ rfl (kfl_one' encI_one _) (by simp only [maxLen]; omega) (by omega) HW7.out.size ?_; intro v8 w8 hown8 hg8 hor8)
                    have hw8 := Lib.hid (HW7.out.grown hg8 HW7.out.size (fun j hj => (hlt4 j hj).1))
                    have hO8 : Hid (w8.ownsRow V.heap.size 46 5 v8 (igo ca (o.take (j + 1))).1.length (kfl encI (igo ca (o.take (j + 1))).1)) := Lib.hid (by rw [HN2.out]; simp only [List.length_append, kfl_append]; rw [HQ0.out]; exact hown8)
                    clear hown8 hg8 hor8 HO7 HS7 HW7
                    go_wp2
                    go_roundg (gk - 1)
                    case measure => omega
                    case rel => exact ⟨j + 1, by go_num, by omega, by omega, by rw [HN2.out], hw8, hO8⟩
                  | false =>
                    obtain ⟨ab, hab⟩ : ∃ z, z = ilt ca b := ⟨_, rfl⟩
                    have CAH := Lib.hid fun (W : World) => iahead_any ca b W ab hab
                    have hnn := HN.out
                    rw [← hab] at hnn
                    have HNN := Lib.hid hnn
                    clear hab hnn HN
                    cases ab with
                    | true =>
                      have HN2 : Hid (igo ca (o.take (j + 1)) = (L0 ++ [ca, b], true)) := Lib.hid (by rw [HNN.out, if_neg (by simp), if_pos rfl])
                      clear HNN
                      have RA7 := HRA6.out
                      have RY7 := HR6.out
                      rw [← HWE.out] at RA7 RY7
                      have g0 := RawAt.cell RA7 0
                      have g1 := RawAt.cell RA7 1
                      have g2 := RawAt.cell RA7 2
                      have g3 := RawAt.cell RA7 3
                      have g4 := RawAt.cell RA7 4
                      simp at g0 g1 g2 g3 g4
                      have y0 := RawAt.cell RY7 0
                      have y1 := RawAt.cell RY7 1
                      have y2 := RawAt.cell RY7 2
                      have y3 := RawAt.cell RY7 3
                      have y4 := RawAt.cell RY7 4
                      simp at y0 y1 y2 y3 y4
                      clear RA7 RY7
                      go_wp2_with fail
                      rw [HWE.out]
                      with_reducible refine (CAH.out _).mono ?_
                      rintro e w7 ⟨rfl, b7⟩
                      have HRX := Lib.hid (RawAt.below HRA6.out b7 HRA6.out.lt)
                      have HRY := Lib.hid (RawAt.below HR6.out b7 HR6.out.lt)
                      have HO9 := Lib.hid (own_below HO6.out b7)
                      have HW9 := Lib.hid (HW6.out.trans (b7.mono HW6.out.size))
                      generalize hwy : wr.heap.size = wy at *
                      have HWYE := Lib.hid hwy
                      clear hwy
                      clear HRA6 HR6 HO6 HW6 b7 CAH hz6 HWE
                      clear g0 g1 g2 g3 g4 y0 y1 y2 y3 y4
                      have x7 : Below w7.heap.size w7 (w7.alloc (.cells #[.int .i64 ca.id, .int .i64 ca.pl, .int .i64 ca.bi, .int .i64 ca.ky, .string ca.tx] 46)) := (Below.refl _ _).alloc (Nat.le_refl _) _
                      have R7 : RawAt 46 (w7.alloc (.cells #[.int .i64 ca.id, .int .i64 ca.pl, .int .i64 ca.bi, .int .i64 ca.ky, .string ca.tx] 46)) w7.heap.size #[.int .i64 ca.id, .int .i64 ca.pl, .int .i64 ca.bi, .int .i64 ca.ky, .string ca.tx] := heap_alloc_new w7 _
                      have HS7 := Lib.hid (rows_of_block (enc := encI) (k := 5) encI_len R7 (l := [ca]) rfl)
                      have HO7 := Lib.hid (own_below HO9.out x7)
                      have HW7 := Lib.hid (HW9.out.trans (x7.mono HW9.out.size))
                      have HRY7 := Lib.hid (RawAt.below HRY.out x7 HRY.out.lt)
                      have g0 := RawAt.cell HRX.out 0
                      have g1 := RawAt.cell HRX.out 1
                      have g2 := RawAt.cell HRX.out 2
                      have g3 := RawAt.cell HRX.out 3
                      have g4 := RawAt.cell HRX.out 4
                      simp at g0 g1 g2 g3 g4
                      clear x7 R7 HO9 HW9 HRX HRY
                      go_wp2_with (first | (at_builtin; refine wpList_appK (enc := encI) ST encI_len (by omega) rfl (.tmp 59) (.tmp 61) rfl (base := V.heap.size) (v := .slice A5 q c5) rfl HO7.out _ 1 1 [ca] rfl HS7.out ⟨Nat.le_refl _, fun h => by cases h⟩ rfl (kfl_one' encI_one _) (by simp only [maxLen]; omega) (by omega) HW7.out.size ?_; intro v8 w8 hown8 hg8 hor8; obtain ⟨A8, c8, rfl⟩ := own_formI hown8; have hw8 := Lib.hid (HW7.out.grown hg8 HW7.out.size (fun j hj => (hlt4 j hj).1)); have hrb8 := (hg8.block wy HRY7.out.lt (fun hk => by have := (hlt4 _ hk.symm).2; omega)).trans HRY7.out; have hrb8 : RawAt 46 w8 wy #[.int .i64 b.id, .int .i64 b.pl, .int .i64 b.bi, .int .i64 b.ky, .string b.tx] := hrb8; have hlt8 := hown8.lt; have y0 := RawAt.cell hrb8 0; have y1 := RawAt.cell hrb8 1; have y2 := RawAt.cell hrb8 2; have y3 := RawAt.cell hrb8 3; have y4 := RawAt.cell hrb8 4; simp at y0 y1 y2 y3 y4; have x9 : Below w8.heap.size w8 (w8.alloc (.cells #[.int .i64 b.id, .int .i64 b.pl, .int .i64 b.bi, .int .i64 b.ky, .string b.tx] 46)) := (Below.refl _ _).alloc (Nat.le_refl _) _; have R9 : RawAt 46 (w8.alloc (.cells #[.int .i64 b.id, .int .i64 b.pl, .int .i64 b.bi, .int .i64 b.ky, .string b.tx] 46)) w8.heap.size #[.int .i64 b.id, .int .i64 b.pl, .int .i64 b.bi, .int .i64 b.ky, .string b.tx] := heap_alloc_new w8 _; have HS9 := Lib.hid (rows_of_block (enc := encI) (k := 5) encI_len R9 (l := [b]) rfl); have HO9 := Lib.hid (own_below hown8 x9); have HW9 := Lib.hid (hw8.out.trans (x9.mono hw8.out.size)); clear hown8 hg8 hor8 HO7 HS7 HW7 HRY7 hw8 hrb8 x9 R9) | (at_builtin; refine wpList_appK (enc := encI) ST encI_len (by omega) rfl (.tmp 63) (.tmp 65) rfl (base := V.heap.size) (v := .slice A8 (q + 1) c8) rfl HO9.out _ 1 1 [b] rfl HS9.out ⟨Nat.le_refl _, fun h => by cases h⟩ rfl (kfl_one' encI_one _) (by simp only [maxLen]; omega) (by omega) HW9.out.size ?_; intro v10 w10 hown10 hg10 hor10))
                      have hw10 := Lib.hid (HW9.out.grown hg10 HW9.out.size (fun j hj => (hlt8 j hj).1))
                      have hO10 : Hid (w10.ownsRow V.heap.size 46 5 v10 (igo ca (o.take (j + 1))).1.length (kfl encI (igo ca (o.take (j + 1))).1)) := Lib.hid (by rw [HN2.out, show L0 ++ [ca, b] = L0 ++ [ca] ++ [b] by simp]; simp only [List.length_append, kfl_append]; rw [HQ0.out]; exact hown10)
                      clear hown10 hg10 hor10 HO9 HS9 HW9
                      go_wp2
                      go_roundg (gk - 1)
                      case measure => omega
                      case rel => exact ⟨j + 1, by go_num, by omega, by omega, by rw [HN2.out], hw10, hO10⟩
                    | false =>
                      have HN2 : Hid (igo ca (o.take (j + 1)) = (L0 ++ [b], false)) := Lib.hid (by rw [HNN.out, if_neg (by simp), if_neg (by simp)])
                      clear HNN
                      have RA7 := HRA6.out
                      have RY7 := HR6.out
                      rw [← HWE.out] at RA7 RY7
                      have g0 := RawAt.cell RA7 0
                      have g1 := RawAt.cell RA7 1
                      have g2 := RawAt.cell RA7 2
                      have g3 := RawAt.cell RA7 3
                      have g4 := RawAt.cell RA7 4
                      simp at g0 g1 g2 g3 g4
                      have y0 := RawAt.cell RY7 0
                      have y1 := RawAt.cell RY7 1
                      have y2 := RawAt.cell RY7 2
                      have y3 := RawAt.cell RY7 3
                      have y4 := RawAt.cell RY7 4
                      simp at y0 y1 y2 y3 y4
                      clear RA7 RY7
                      go_wp2_with fail
                      rw [HWE.out]
                      with_reducible refine (CAH.out _).mono ?_
                      rintro e w7 ⟨rfl, b7⟩
                      have HRX := Lib.hid (RawAt.below HRA6.out b7 HRA6.out.lt)
                      have HRY := Lib.hid (RawAt.below HR6.out b7 HR6.out.lt)
                      have HO9 := Lib.hid (own_below HO6.out b7)
                      have HW9 := Lib.hid (HW6.out.trans (b7.mono HW6.out.size))
                      generalize hwy : wr.heap.size = wy at *
                      have HWYE := Lib.hid hwy
                      clear hwy
                      clear HRA6 HR6 HO6 HW6 b7 CAH hz6 HWE
                      clear g0 g1 g2 g3 g4 y0 y1 y2 y3 y4
                      have x7 : Below w7.heap.size w7 (w7.alloc (.cells #[.int .i64 b.id, .int .i64 b.pl, .int .i64 b.bi, .int .i64 b.ky, .string b.tx] 46)) := (Below.refl _ _).alloc (Nat.le_refl _) _
                      have R7 : RawAt 46 (w7.alloc (.cells #[.int .i64 b.id, .int .i64 b.pl, .int .i64 b.bi, .int .i64 b.ky, .string b.tx] 46)) w7.heap.size #[.int .i64 b.id, .int .i64 b.pl, .int .i64 b.bi, .int .i64 b.ky, .string b.tx] := heap_alloc_new w7 _
                      have HS7 := Lib.hid (rows_of_block (enc := encI) (k := 5) encI_len R7 (l := [b]) rfl)
                      have HO7 := Lib.hid (own_below HO9.out x7)
                      have HW7 := Lib.hid (HW9.out.trans (x7.mono HW9.out.size))
                      have y0 := RawAt.cell HRY.out 0
                      have y1 := RawAt.cell HRY.out 1
                      have y2 := RawAt.cell HRY.out 2
                      have y3 := RawAt.cell HRY.out 3
                      have y4 := RawAt.cell HRY.out 4
                      simp at y0 y1 y2 y3 y4
                      clear x7 R7 HO9 HW9 HRX HRY
                      go_wp2_with (at_builtin; refine wpList_appK (enc := encI) ST encI_len (by omega) rfl (.tmp 63) (.tmp 65) rfl (base := V.heap.size) (v := .slice A5 q c5) rfl HO7.out _ 1 1 [b] rfl HS7.out ⟨Nat.le_refl _, fun h => by cases h⟩ rfl (kfl_one' encI_one _) (by simp only [maxLen]; omega) (by omega) HW7.out.size ?_; intro v8 w8 hown8 hg8 hor8)
                      have hw8 := Lib.hid (HW7.out.grown hg8 HW7.out.size (fun j hj => (hlt4 j hj).1))
                      have hO8 : Hid (w8.ownsRow V.heap.size 46 5 v8 (igo ca (o.take (j + 1))).1.length (kfl encI (igo ca (o.take (j + 1))).1)) := Lib.hid (by rw [HN2.out]; simp only [List.length_append, kfl_append]; rw [HQ0.out]; exact hown8)
                      clear hown8 hg8 hor8 HO7 HS7 HW7
                      go_wp2
                      go_roundg (gk - 1)
                      case measure => omega
                      case rel => exact ⟨j + 1, by go_num, by omega, by omega, by rw [HN2.out], hw8, hO8⟩
                · obtain rfl : k = j := by omega
                  have e3 : o.take k = o := List.take_of_length_le (by rw [HOL.out]; exact Nat.le_refl _)
                  rw [e3] at hown ⊢
                  have hins := igo_ins ca o
                  have hord : ord ilt ((l.take (k + 1)).map icl) = ins ilt ca o := by rw [HTK.out, List.map_append, List.map_cons, List.map_nil, ord_snoc, ← HO.out, ← HCA.out]
                  have hlen : (ins ilt ca o).length = k + 1 := by rw [(ins_perm ilt ca o).length_eq, List.length_cons, HOL.out]
                  rw [hins] at hord hlen
                  have HORD := Lib.hid hord
                  have HLEN := Lib.hid hlen
                  obtain ⟨A5, c5, rfl⟩ := own_formI hown.out
                  clear hins hord hlen e3
                  generalize (igo ca o).1 = L0 at *
                  generalize (igo ca o).2 = pb at *
                  have HBW := Lib.hid (HBV.out.trans (hbw.out.mono HBV.out.size))
                  have RX := RawAt.below HRV.out hbw.out HRV.out.lt
                  have g0 := RawAt.cell RX 0
                  have g1 := RawAt.cell RX 1
                  have g2 := RawAt.cell RX 2
                  have g3 := RawAt.cell RX 3
                  have g4 := RawAt.cell RX 4
                  simp at g0 g1 g2 g3 g4
                  clear hbw RX
                  cases pb with
                  | true =>
                    have hl1 : L0.length = k + 1 := by have := HLEN.out; simpa using this
                    rw [hl1] at hown ⊢
                    clear hl1
                    go_wp2
                    go_roundg (gO - 1)
                    case measure => omega
                    case rel => exact ⟨k + 1, by go_num, by omega, by omega, HBW, Lib.hid (by rw [HORD.out]; simpa using own_baseI hown.out hwB), HST2⟩
                  | false =>
                    have hl1 : L0.length = k := by have := HLEN.out; simp at this; omega
                    rw [hl1] at hown hlt4 ⊢
                    have x7 : Below wr.heap.size wr (wr.alloc (.cells #[.int .i64 ca.id, .int .i64 ca.pl, .int .i64 ca.bi, .int .i64 ca.ky, .string ca.tx] 46)) := (Below.refl _ _).alloc (Nat.le_refl _) _
                    have R7 : RawAt 46 (wr.alloc (.cells #[.int .i64 ca.id, .int .i64 ca.pl, .int .i64 ca.bi, .int .i64 ca.ky, .string ca.tx] 46)) wr.heap.size #[.int .i64 ca.id, .int .i64 ca.pl, .int .i64 ca.bi, .int .i64 ca.ky, .string ca.tx] := heap_alloc_new wr _
                    have HS7 := Lib.hid (rows_of_block (enc := encI) (k := 5) encI_len R7 (l := [ca]) rfl)
                    have HO7 := Lib.hid (own_baseI (own_below hown.out x7) hwB)
                    have HB7 := Lib.hid (HBW.out.trans (x7.mono HBW.out.size))
                    clear x7 R7 hown hl1 HBW
                    go_wp2_with (at_builtin; refine wpList_appK (enc := encI) ST encI_len (by omega) rfl (.tmp 70) (.tmp 72) rfl (base := W1.heap.size) (v := .slice A5 k c5) rfl HO7.out _ 1 1 [ca] rfl HS7.out ⟨Nat.le_refl _, fun h => by cases h⟩ rfl (kfl_one' encI_one _) (by simp only [maxLen]; omega) (by omega) HB7.out.size ?_; intro v8 w8 hown8 hg8 hor8)
                    have hb8 := Lib.hid (HB7.out.grown hg8 HB7.out.size (fun j hj => Nat.le_trans hwB (hlt4 j hj).1))
                    have hO8 : Hid (w8.ownsRow W1.heap.size 46 5 v8 (k + 1) (kfl encI (ord ilt ((l.take (k + 1)).map icl)))) := Lib.hid (by rw [HORD.out]; simp only [Bool.false_eq_true, if_false, kfl_append]; exact hown8)
                    clear hown8 hg8 hor8 HO7 HS7 HB7
                    go_wp2
                    go_roundg (gO - 1)
                    case measure => omega
                    case rel => exact ⟨k + 1, by go_num, by omega, by omega, hb8, hO8, HST2⟩
            · have hr : wr13 n (l.take k) a = r := by rw [HST.out, if_pos hz]
              have hz2 : ¬ r = 0 := by rw [← hr]; exact hz
              have CWR := Lib.hid fun (W : World) (hW : Below W3.heap.size W3 W) => rwrong13_any n (some ⟨bA, off, none⟩) k c (l.take k) a W (HRT.out.below hW) hlk (by omega) hts r hr.symm
              have k5 : (r != 0) = true := by simp [hz2]
              have k6 : (r == 0) = false := by simp [hz2]
              have k7 : decide (r = 0) = false := decide_eq_false hz2
              have HG := Lib.hid hz2
              clear HST hz hr hz2 HRT
              go_wp2_with fail
              rw [← HW3.out]
              refine wp_region_noPanic ?_
              refine wp_region_held_drew (S := (fun W => W.cell? ⟨wr.heap.size, 0, none⟩ = some (.int .i64 a.id) ∧ W.cell? ⟨wr.heap.size, 1, none⟩ = some (.int .i64 a.pl) ∧ W.cell? ⟨wr.heap.size, 2, none⟩ = some (.int .i64 a.bi) ∧ W.cell? ⟨wr.heap.size, 3, none⟩ = some (.int .i64 a.ky) ∧ W.cell? ⟨wr.heap.size, 4, none⟩ = some (.string a.tx))) (by kernel_rfl) (MK.out _ hW2) (fun hHeld => ?_)
              refine wpAnyH_take (i := 0) (v := ?_) rfl (by kernel_rfl) (by kernel_rfl) (by kernel_rfl) (fun _ _ _ h => h) (Or.inl ⟨by rfl, ?_⟩) hHeld ?_
              rotate_left
              · intro w hSw
                (try dsimp only at hSw)
                go_simp
                try with_reducible rfl
              go_simp
              refine wpAnyH_take (i := 1) (v := ?_) rfl (by kernel_rfl) (by kernel_rfl) (by kernel_rfl) (fun _ _ _ h => h) (Or.inl ⟨by rfl, ?_⟩) hHeld ?_
              rotate_left
              · intro w hSw
                (try dsimp only at hSw)
                go_simp
                try with_reducible rfl
              go_simp
              refine wpAnyH_take (i := 2) (v := ?_) rfl (by kernel_rfl) (by kernel_rfl) (by kernel_rfl) (fun _ _ _ h => h) (Or.inl ⟨by rfl, ?_⟩) hHeld ?_
              rotate_left
              · intro w hSw
                (try dsimp only at hSw)
                go_simp
                try with_reducible rfl
              go_simp
              refine wpAnyH_take (i := 3) (v := ?_) rfl (by kernel_rfl) (by kernel_rfl) (by kernel_rfl) (fun _ _ _ h => h) (Or.inl ⟨by rfl, ?_⟩) hHeld ?_
              rotate_left
              · intro w hSw
                (try dsimp only at hSw)
                go_simp
                try with_reducible rfl
              go_simp
              refine wpAnyH_take (i := 4) (v := ?_) rfl (by kernel_rfl) (by kernel_rfl) (by kernel_rfl) (fun _ _ _ h => h) (Or.inl ⟨by rfl, ?_⟩) hHeld ?_
              rotate_left
              · intro w hSw
                (try dsimp only at hSw)
                go_simp
                try with_reducible rfl
              go_simp
              refine wpAnyH_ready (rs := [5]) (by kernel_rfl) (by simp) ?_
              refine AllReadyH.cons rfl (fun K hK => ?_) ?_
              rotate_left
              · exact AllReadyH.nil
              go_simp
              go_wp2_with (first | (go_at_call 46; ((with_reducible refine (CWR.out _ hW2).mono ?_); rintro e w4 ⟨rfl, hb4⟩); have hW2 := hW2.trans (hb4.mono hW2.size)))
              refine hK.out _ _ (MK.out _ hW2) (fun hHeld => ?_)
              clear hK K
              go_simp
              refine wpAnyH_take (i := 6) (v := ?_) rfl (by kernel_rfl) (by kernel_rfl) (by kernel_rfl) (fun _ _ _ h => h) (Or.inl ⟨by rfl, ?_⟩) hHeld ?_
              rotate_left
              · intro w hSw
                (try dsimp only at hSw)
                go_simp
                try with_reducible rfl
              go_simp
              refine wpAnyH_done (by kernel_rfl) ?_ _
              refine NoPanic.normal ?_
              have HB4 := HB3.out.trans (hW2.mono HB3.out.size)
              have r4 := RawAt.below R1.out HB4 HZ1.out
              have q0 := RawAt.cell r4 0
              have q1 := RawAt.cell r4 1
              have q2 := RawAt.cell r4 2
              have f0 := RawAt.free r4 0
              have f1 := RawAt.free r4 1
              have f2 := RawAt.free r4 2
              simp at q0 q1 q2
              have HR4 := Lib.hid r4
              have HBZ := Lib.hid (X1.out.trans (HB4.mono X1.out.size))
              clear hW2 hHeld CWR MK HB4 r4
              go_wp2
              have t0 := ((HR4.out.set_ 0 (.int .i64 0)).set_ 1 (.slice none 0 0)).set_ 2 (.int .i64 r)
              have z0 := RawAt.cell t0 0
              have z1 := RawAt.cell t0 1
              have z2 := RawAt.cell t0 2
              simp at z0 z1 z2
              refine bodyPost_ret (v := .agg #[.int .i64 0, .slice none 0 0, .int .i64 r]) (by simp [results, Try.results14, go_sem, z0, z1, z2]) rfl ⟨0, none, 0, 0, rfl, fun h => absurd h HG.out, ?_⟩
              exact (((HBZ.out.setCell (p := ⟨w.heap.size, 0, none⟩) (Nat.le_refl _) _).setCell (p := ⟨w.heap.size, 1, none⟩) (Nat.le_refl _) _).setCell (p := ⟨w.heap.size, 2, none⟩) (Nat.le_refl _) _)
          · obtain rfl : m = k := by omega
            have hr0 : r = 0 := by rw [hst.out, List.drop_of_length_le (by rw [HL.out]; exact Nat.le_refl _)]; rfl
            subst hr0
            have e2 : l.take m = l := List.take_of_length_le (by rw [HL.out]; exact Nat.le_refl _)
            have ho2 := hown.out
            rw [e2] at ho2
            obtain ⟨A3, c3, rfl⟩ := own_formI ho2
            have HO2 := Lib.hid ho2
            have r4 := RawAt.below R1.out hb.out HZ1.out
            have q0 := RawAt.cell r4 0
            have q1 := RawAt.cell r4 1
            have q2 := RawAt.cell r4 2
            have f0 := RawAt.free r4 0
            have f1 := RawAt.free r4 1
            have f2 := RawAt.free r4 2
            simp at q0 q1 q2
            have HR4 := Lib.hid r4
            have HBZ := Lib.hid (X1.out.trans (hb.out.mono X1.out.size))
            clear hst e2 ho2 hown hb r4
            go_wp2
            have t0 := ((HR4.out.set_ 0 (.int .i64 n)).set_ 1 (.slice A3 m c3)).set_ 2 (.int .i64 0)
            have z0 := RawAt.cell t0 0
            have z1 := RawAt.cell t0 1
            have z2 := RawAt.cell t0 2
            simp at z0 z1 z2
            have ho3 := own_set (own_set (own_set HO2.out HZ1.out 0 (.int .i64 n)) HZ1.out 1 (.slice A3 m c3)) HZ1.out 2 (.int .i64 0)
            obtain ⟨A4, c4, e4, hR4, _, _⟩ := rows_of_own encI_len (by omega) ho3
            injection e4 with e5 _ _
            subst e5
            refine bodyPost_ret (v := .agg #[.int .i64 n, .slice A3 m c3, .int .i64 0]) (by simp [results, Try.results14, go_sem, z0, z1, z2]) rfl ⟨n, A3, m, c3, rfl, fun _ => ⟨rfl, HL.out.symm, hR4⟩, ?_⟩
            exact (((HBZ.out.setCell (p := ⟨w.heap.size, 0, none⟩) (Nat.le_refl _) _).setCell (p := ⟨w.heap.size, 1, none⟩) (Nat.le_refl _) _).setCell (p := ⟨w.heap.size, 2, none⟩) (Nat.le_refl _) _)
end Go.Proofs.Ytmijlijgcaaiiaa
