/- The law CellsWide. -/
import Derived.Test.YtbalafgoengppaaDoorClW2
namespace Go.Proofs.YtbalafgoengppaaDoor
open Go.RowKit
set_option linter.unusedVariables false
theorem wsum_putL : ∀ (cs : List Cl) (ns : List Int), cs.length = ns.length → (∀ (j : Nat) (h : j < cs.length) (h' : j < ns.length), cs[j].r = 9 → 1 ≤ ns[j]) → wsum (putL cs ns) = ns.sum
  | [], [], _, _ => rfl
  | c :: cs, n :: ns, h, h9 => by
    rw [putL, wsum_append, wsum_put c n (h9 0 (by simp) (by simp)), wsum_putL cs ns (by simpa using h) (fun j a b => h9 (j + 1) (by simpa using a) (by simpa using b)), List.sum_cons]
theorem szs_nine {f : Int → Int} {tab : Int} (t1 : 1 ≤ tab) (hf : ∀ r, 0 ≤ f r ∧ f r ≤ 2) (t2 : tab ≤ 16) (cs : List Cl) (j : Nat) (h : j < cs.length) (h' : j < (szs f tab 0 (cs.map (·.r))).length) (h9 : cs[j].r = 9) : 1 ≤ (szs f tab 0 (cs.map (·.r)))[j] := by
  obtain ⟨q1, _⟩ := szs_at f tab (l := cs.map (·.r)) (j := j) (by simpa using h)
  obtain ⟨hzb, _, _⟩ := szs_bd hf t1 t2 (cs.map (·.r)) 0 (by omega)
  rw [← nth_flat h', q1, nth_flat (by simpa using h), List.getElem_map, h9]
  unfold csz
  rw [if_pos rfl]
  exact (tleft_bd t1 (sum_nn _ (fun y hy => (hzb y (List.mem_of_mem_take hy)).1))).1
theorem wsum_ofL {f : Int → Int} {tab : Int} (t1 : 1 ≤ tab) (hf : ∀ r, 0 ≤ f r ∧ f r ≤ 2) (t2 : tab ≤ 16) (l : List Pt) : wsum (ofL f tab l) = (szs f tab 0 ((bareL l).map (·.r))).sum := by
  unfold ofL
  exact wsum_putL _ _ (by rw [szs_length, List.length_map]) (fun j h h' h9 => szs_nine t1 hf t2 _ j h h' h9)
theorem wd_putL : ∀ (cs : List Cl) (ns : List Int), (∀ x ∈ ns, 0 ≤ x ∧ x ≤ 16) → ∀ x ∈ putL cs ns, 0 ≤ x.wd ∧ x.wd ≤ 1099511627776
  | [], _, _, x, h => absurd h (by simp [putL])
  | _ :: _, [], _, x, h => absurd h (by simp [putL])
  | c :: cs, n :: ns, hn, x, h => by
    rw [putL] at h
    rcases List.mem_append.1 h with h | h
    · have := hn n (by simp)
      unfold putC at h
      split at h
      · rcases List.mem_cons.1 h with rfl | h
        · simp
        · rw [(List.mem_replicate.1 h).2]; simp
      · rw [List.mem_singleton.1 h]; simp only; omega
    · exact wd_putL cs ns (fun y hy => hn y (by simp [hy])) x h
theorem wd_ofL {f : Int → Int} {tab : Int} (t1 : 1 ≤ tab) (hf : ∀ r, 0 ≤ f r ∧ f r ≤ 2) (t2 : tab ≤ 16) (l : List Pt) : ∀ x ∈ ofL f tab l, 0 ≤ x.wd ∧ x.wd ≤ 1099511627776 :=
  wd_putL _ _ (szs_bd hf t1 t2 _ 0 (by omega)).1
set_option maxHeartbeats 8000000 in
set_option maxRecDepth 100000 in
theorem cellsWide_walk (A : Option Addr) (n c : Nat) (l : List PtV) (tab : Int) (w : World) (h : Tabs w) (hA : RowsAt ptcs 3 w A l) (hl : l.length = n) (hn : n ≤ maxLen) (_ : Caps A n c) (hok : ∀ s ∈ l, PtOk w s) (_ : Lit.wf (.int .i64 tab)) :
    Calls Tryd.prog 11 #[.slice A n c, .int .i64 tab] w fun e w' => e = .returned (.bool true) ∧ Below w.heap.size w w' := by
  unfold maxLen at hn
  have C4 := Lib.hid fun W (hb : Below w.heap.size w W) => four_any W (h.below hb)
  have CP := Lib.hid fun W (hb : Below w.heap.size w W) => plain_any W (h.below hb)
  have HA := Lib.hid hA
  have HL := Lib.hid hl
  have HOK := Lib.hid hok
  clear h hA hl hok
  by_cases hS : ShortP l
  · have CLG := Lib.hid (long18_any A n c l false w HA.out HL.out ⟨fun h => absurd h Bool.false_ne_true, fun h => absurd hS h⟩)
    obtain ⟨s1, s2, s3⟩ := hS
    rw [HL.out] at s1
    have HS2 := Lib.hid s2
    have HT := Lib.hid (short_bound l s3 (fun s hs => (HOK.out s hs).1) (by rw [HL.out]; exact s1))
    have CRF := Lib.hid fun W (hb : Below w.heap.size w W) => refs18_any A n c l W (HA.out.below hb) HL.out (by omega)
    clear s2 s3
    by_cases g2 : 1 ≤ tab ∧ tab ≤ 16
    · obtain ⟨t1, t2⟩ := g2
      have CO := Lib.hid fun tb W (hb : Below w.heap.size w W) ht => cOf_any (.pointer (some ⟨tb, 0, none⟩)) (wid zeroL wideL) A n c l tab W (TabV.of ht) (HA.out.below hb) HL.out (by omega) (fun s hs => (HOK.out s hs).below hb) (fun s hs => ⟨(HS2.out s hs).2.1, (HS2.out s hs).2.2, by have := (HS2.out s hs).1; omega⟩) HT.out t1 t2
      have HW0 : Hid (kok l → wrong18 l tab = 0) := Lib.hid fun h => by unfold wrong18; rw [if_neg (by simp; omega), if_pos ((kok_all l).1 h)]
      have HW4 : Hid (¬ kok l → wrong18 l tab = 4) := Lib.hid fun h => by unfold wrong18; rw [if_neg (by simp; omega), if_neg (fun hh => h ((kok_all l).2 hh))]
      go_enter Tryd.func11, Tryd.ntmps11
      go_wp2_with fail
      with_reducible refine (CLG.out).mono ?_
      rintro e w0 ⟨rfl, hb0⟩
      have HB0 := Lib.hid hb0
      clear hb0 CLG
      go_wp2_with fail
      with_reducible refine (CP.out _ HB0.out).mono ?_
      rintro e w1 ⟨tb, rfl, hb1, ht1⟩
      have HB1 := Lib.hid (HB0.out.trans (hb1.mono HB0.out.size))
      have CO1 := Lib.hid (CO.out tb w1 HB1.out ht1)
      clear hb1 ht1 CO CP HB0
      go_wp2_with fail
      with_reducible refine (CO1.out).mono ?_
      rintro e w2 ⟨hres, hb2⟩
      have HB2 := Lib.hid (HB1.out.trans (hb2.mono HB1.out.size))
      rcases hres with ⟨hk, m, v, rfl, ho⟩ | ⟨hk, rfl⟩
      · obtain ⟨A2, c2, rfl, hR2, hL2, hC2⟩ := rows_of_own encC_len (by omega) ho
        have HK := Lib.hid hk
        have HR2 := Lib.hid hR2
        have HL2 := Lib.hid hL2
        clear ho hR2 hL2 hC2 hb2 hk CO1
        have HWS : Hid (wsum (ofL (wid zeroL wideL) tab (l.map pt)) = (szs (wid zeroL wideL) tab 0 ((bareL (l.map pt)).map (·.r))).sum) := Lib.hid (wsum_ofL t1 (wid_bd zeroL wideL) t2 _)
        have HWB : Hid (∀ x ∈ ofL (wid zeroL wideL) tab (l.map pt), 0 ≤ x.wd ∧ x.wd ≤ 1099511627776) := Lib.hid (wd_ofL t1 (wid_bd zeroL wideL) t2 _)
        have hm2 : m ≤ 1000000 := by
          obtain ⟨hzb, _, _⟩ := szs_bd (wid_bd zeroL wideL) t1 t2 ((bareL (l.map pt)).map (·.r)) 0 (by omega)
          have a := putL_len (bareL (l.map pt)) _ (fun x hx => (hzb x hx).2)
          rw [show putL (bareL (l.map pt)) (szs (wid zeroL wideL) tab 0 ((bareL (l.map pt)).map (·.r))) = ofL (wid zeroL wideL) tab (l.map pt) from rfl, HL2.out] at a
          have := HT.out
          omega
        have HRS : Hid (∀ j, ((bareL ((l.take j).map pt)).map (·.r)).length ≤ 10000) := Lib.hid fun j => by rw [List.length_map]; have := bareL_le l j; have := HT.out; omega
        clear HW0 HW4
        generalize ofL (wid zeroL wideL) tab (l.map pt) = cs at *
        go_wp2_with fail
        go_loopg [7, 9, 33] n (fun g a x i wr => ∃ (j : Nat) (u : Value), i = .int .i64 j ∧ j ≤ n ∧ n - j ≤ g ∧ u = a ∧ Hid (Below w2.heap.size w2 wr) ∧ Hid (wr.ownsRow w2.heap.size 21 1 u ((bareL ((l.take j).map pt)).map (·.r)).length (((bareL ((l.take j).map pt)).map (·.r)).map (.int .i32))))
        case atStart => exact ⟨0, _, rfl, by omega, by omega, rfl, Lib.hid (Below.refl _ _), Lib.hid ⟨rfl, .inl ⟨rfl, rfl⟩⟩⟩
        case round =>
          obtain ⟨j, v, rfl, h1, h2, rfl, hb, hown⟩ := hrel
          by_cases hlt : j < n
          · have hjl : j < l.length := by rw [HL.out]; exact hlt
            have hbw := HB2.out.trans (hb.out.mono HB2.out.size)
            obtain ⟨bA, off, rfl, hbA, d0, d1, d2⟩ := (HA.out.below hbw).part3 hjl
            obtain ⟨o1, o2, o3, o4, o5, o6⟩ := (HOK.out _ (List.getElem_mem hjl)).below hbw
            have hbt := bareL_take hjl
            have hrn : (bareL ((l.take (j + 1)).map pt)).map (·.r) = (bareL ((l.take j).map pt)).map (·.r) ++ shown (pt l[j]) := by
              rw [hbt, List.map_append]
              congr 1
              exact placed_runes _ _ _
            have hle := HRS.out (j + 1)
            rw [hrn, List.length_append] at hle
            have HRN := Lib.hid hrn
            have hle0 := HRS.out j
            obtain ⟨q, hq⟩ : ∃ q, q = ((bareL ((l.take j).map pt)).map (·.r)).length := ⟨_, rfl⟩
            rw [← hq] at hown hle hle0
            have HQ := Lib.hid hq
            clear hbt hrn hbw hq
            generalize l[j] = s at *
            obtain ⟨k, p, As, ns, cs', rs⟩ := s
            simp only at d0 d1 d2 o1 o2 o3 o4 o5 o6
            have i1 : (0 : Int) ≤ j := by omega
            have i2 : (j : Int) < n := by omega
            have x1 : Below wr.heap.size wr (wr.alloc (.cells #[.int .i64 k, .int .i64 p, .slice As ns cs'] 64)) := (Below.refl _ _).alloc (Nat.le_refl _) _
            have HBB := Lib.hid hb.out.size
            by_cases k3 : k = 3
            · subst k3
              have hsh : shown (pt ⟨3, p, As, ns, cs', rs⟩) = [8230] := rfl
              rw [hsh] at HRN hle
              have x2 : Below wr.heap.size wr ((wr.alloc (.cells #[.int .i64 3, .int .i64 p, .slice As ns cs'] 64)).alloc (.cells #[.int .i32 8230] 21)) := x1.alloc x1.size _
              have HOW := Lib.hid (own_below hown.out x2)
              have HB3 := Lib.hid (hb.out.trans (x2.mono hb.out.size))
              have HRW : Hid (RowsAt (encN .i32) 1 ((wr.alloc (.cells #[.int .i64 3, .int .i64 p, .slice As ns cs'] 64)).alloc (.cells #[.int .i32 8230] 21)) (some ⟨wr.heap.size + 1, 0, none⟩) [8230]) := Lib.hid (by
                have := row_new (encN_len .i32) (wr.alloc (.cells #[.int .i64 3, .int .i64 p, .slice As ns cs'] 64)) [8230] #[.int .i32 8230] 21 rfl
                rwa [show (wr.alloc (.cells #[.int .i64 3, .int .i64 p, .slice As ns cs'] 64)).heap.size = wr.heap.size + 1 from by simp] at this)
              clear hown hb x1 x2 o1 o2 o3 o4 o5 o6 hsh
              go_wp2_with (at_builtin; go_loud (refine wpList_appK (enc := encN .i32) rune_slt (encN_len _) (by omega) rfl (.tmp 40) (.tmp 41) rfl rfl HOW.out (some ⟨wr.heap.size + 1, 0, none⟩) 1 1 ([8230]) rfl HRW.out ⟨Nat.le_refl _, fun h => by cases h⟩ rfl (kfl_one' (encN_one _) _) (by simp only [maxLen]; omega) (by omega) (by have := HBB.out; simp; omega) ?_; intro v5 w5 hown5 hg5 hn5))
              have HO5 := Lib.hid hown5
              have HB5 := Lib.hid (HB3.out.grown hg5 (by have := HBB.out; simp; omega) (fun k hk => (HOW.out.lt k hk).1))
              clear hown5 hg5 hn5
              go_roundg (gk - 1)
              case measure => omega
              case rel => exact ⟨j + 1, _, by go_num, by omega, by omega, rfl, HB5, Lib.hid (by have := HO5.out; rw [HRN.out, List.map_append, List.length_append, ← HQ.out]; rw [kfl_encN] at this; exact this)⟩
            · have k4 : (k == 3) = false := by simpa using k3
              have hsh : shown (pt ⟨k, p, As, ns, cs', rs⟩) = rs := by unfold shown pt; rw [if_neg k3]
              rw [hsh] at HRN hle
              rw [o1] at hle
              have HRS2 := Lib.hid o1
              have HOW := Lib.hid (own_below hown.out x1)
              have HB3 := Lib.hid (hb.out.trans (x1.mono hb.out.size))
              have HRW := Lib.hid (rows_ints (o4.below x1))
              have HCA := Lib.hid o3
              clear hown hb x1 o1 o2 o3 o4 o5 o6 hsh k3
              go_wp2_with (at_builtin; go_loud (refine wpList_appK (enc := encN .i32) rune_slt (encN_len _) (by omega) rfl (.tmp 43) (.tmp 45) rfl rfl HOW.out (As) ns cs' rs rfl HRW.out HCA.out HRS2.out (kfl_one' (encN_one _) _) (by simp only [maxLen]; omega) (by omega) (by have := HBB.out; simp; omega) ?_; intro v5 w5 hown5 hg5 hn5))
              have HO5 := Lib.hid hown5
              have HB5 := Lib.hid (HB3.out.grown hg5 (by have := HBB.out; simp; omega) (fun k hk => (HOW.out.lt k hk).1))
              clear hown5 hg5 hn5
              go_roundg (gk - 1)
              case measure => omega
              case rel => exact ⟨j + 1, _, by go_num, by omega, by omega, rfl, HB5, Lib.hid (by have := HO5.out; rw [HRN.out, List.map_append, List.length_append, ← HQ.out, HRS2.out]; rw [kfl_encN] at this; exact this)⟩
          · obtain rfl : j = n := by omega
            have h5 := hown.out
            have hq0 := HRS.out j
            rw [List.take_of_length_le (by rw [HL.out]; exact Nat.le_refl _)] at h5 hq0
            obtain ⟨A5, c5, rfl, I5, hl5, _⟩ := IntsAt.of_own h5
            have HB5 := Lib.hid (HB2.out.trans (hb.out.mono HB2.out.size))
            have HR5 := Lib.hid (HR2.out.below hb.out)
            have hzl := szs_length (wid zeroL wideL) tab ((bareL (l.map pt)).map (·.r)) 0
            have CCL := Lib.hid fun tb W (hb : Below wr.heap.size wr W) ht => rsCells_any tb zeroL wideL A5 _ c5 ((bareL (l.map pt)).map (·.r)) tab W ht (I5.below hb) rfl (by omega) t1 t2
            obtain ⟨Z, hZ⟩ : ∃ Z, Z = szs (wid zeroL wideL) tab 0 ((bareL (l.map pt)).map (·.r)) := ⟨_, rfl⟩
            rw [← hZ] at hzl
            simp only [← hZ] at CCL
            rw [← hZ] at HWS
            obtain ⟨q, hq⟩ : ∃ q, q = ((bareL (l.map pt)).map (·.r)).length := ⟨_, rfl⟩
            rw [← hq] at hzl hq0
            simp only [← hq] at CCL
            rw [← hq]
            have HZL := Lib.hid hzl
            have CWD := Lib.hid fun W (hb : Below wr.heap.size wr W) => cWidth_any A2 m c2 cs W (HR5.out.below hb) HL2.out hm2 HWB.out
            rw [HWS.out] at CWD
            clear h5 hown hb I5 hl5 hzl hZ hq
            go_wp2_with fail
            with_reducible refine (rplain_any _).mono ?_
            rintro e w6 ⟨tb6, rfl, hb6, ht6⟩
            have CCL6 := Lib.hid (CCL.out tb6 w6 hb6 ht6)
            have HB6 := Lib.hid hb6
            clear CCL hb6 ht6
            go_wp2_with fail
            with_reducible refine (CCL6.out).mono ?_
            rintro e w7 ⟨v7, rfl, o7, hb7⟩
            obtain ⟨A7, c7, rfl, I7, _, _⟩ := IntsAt.of_own o7
            have HB7 := Lib.hid (HB6.out.trans (hb7.mono HB6.out.size))
            obtain ⟨bC, offC, rfl, hbC, hcC⟩ := I7 (by rw [cls_length]; omega)
            have en := hcC q (by rw [cls_length, HZL.out]; omega)
            rw [show nth (cls Z) q = Z.sum from by have := cls_at Z q (by rw [HZL.out]; exact Nat.le_refl _); rw [List.take_of_length_le (by rw [HZL.out]; exact Nat.le_refl _)] at this; exact this] at en
            generalize Z.sum = zs at *
            have i7 : (q : Int) < (q : Int) + 1 := by omega
            have i8 : (0 : Int) ≤ q := by omega
            have CWD7 := Lib.hid (CWD.out w7.drew HB7.out.drew)
            have MK : Hid (∀ W : World, Below w7.heap.size w7 W → W.cell? ⟨bC, offC + q, none⟩ = some (.int .i64 zs)) := Lib.hid fun W hW => ((old_cells hW).1 _ _ hbC).trans en
            have hW2 : Below w7.heap.size w7 w7.drew := (Below.refl _ _).drew
            have HBA := Lib.hid (HB5.out.trans (HB7.out.mono HB5.out.size))
            clear o7 hb7 I7 hcC en CWD CCL6
            go_wp2_with fail
            refine wp_region_noPanic ?_
            refine wp_region_held_drew (S := (fun W => W.cell? ⟨bC, offC + q, none⟩ = some (.int .i64 zs))) (by kernel_rfl) (MK.out _ hW2) (fun hHeld => ?_)
            refine wpAnyH_take (i := 0) (v := ?_) rfl (by kernel_rfl) (by kernel_rfl) (by kernel_rfl) (fun _ _ _ h => h) (Or.inl ⟨by rfl, ?_⟩) hHeld ?_
            rotate_left
            · intro w hSw
              (try dsimp only at hSw)
              go_simp
              try with_reducible rfl
            go_simp
            refine wpAnyH_take (i := 2) (v := ?_) rfl (by kernel_rfl) (by kernel_rfl) (by kernel_rfl) (fun _ _ _ h => h) (Or.inl ⟨by rfl, ?_⟩) hHeld ?_
            rotate_left
            · intro w hSw
              (try dsimp only at hSw)
              go_simp
              try with_reducible rfl
            go_simp
            refine wpAnyH_take (i := 3) (v := ?_) rfl (by kernel_rfl) (by kernel_rfl) (by kernel_rfl) (fun _ _ _ h => h) (Or.inl ⟨by rfl, ?_⟩) hHeld ?_
            rotate_left
            · intro w hSw
              (try dsimp only at hSw)
              go_simp
              try with_reducible rfl
            go_simp
            refine wpAnyH_take (i := 4) (v := ?_) rfl (by kernel_rfl) (by kernel_rfl) (by kernel_rfl) (fun _ _ _ h => h) (Or.inl ⟨by rfl, ?_⟩) hHeld ?_
            rotate_left
            · intro w hSw
              (try dsimp only at hSw)
              go_simp
              try with_reducible rfl
            go_simp
            refine wpAnyH_take (i := 5) (v := ?_) rfl (by kernel_rfl) (by kernel_rfl) (by kernel_rfl) (fun _ _ _ h => h) (Or.inl ⟨by rfl, ?_⟩) hHeld ?_
            rotate_left
            · intro w hSw
              (try dsimp only at hSw)
              go_simp
              try with_reducible rfl
            go_simp
            refine wpAnyH_take (i := 6) (v := ?_) rfl (by kernel_rfl) (by kernel_rfl) (by kernel_rfl) (fun _ _ _ h => h) (Or.inl ⟨by rfl, ?_⟩) hHeld ?_
            rotate_left
            · intro w hSw
              (try dsimp only at hSw)
              go_simp
              try with_reducible rfl
            go_simp
            refine wpAnyH_ready (rs := [1]) (by kernel_rfl) (by simp) ?_
            refine AllReadyH.cons rfl (fun K hK => ?_) ?_
            rotate_left
            · exact AllReadyH.nil
            go_simp
            go_wp2_with (first | (go_at_call 33; ((with_reducible refine (CWD7.out).mono ?_); rintro e w8 ⟨rfl, hb8⟩); have hW2 := hW2.trans (hb8.mono hW2.size)) | (go_at_call 24; ((with_reducible refine (C4.out _ (HBA.out.trans (hW2.mono HBA.out.size))).mono ?_); rintro e w9 ⟨rfl, hb9⟩); have hW2 := hW2.trans (hb9.mono hW2.size)))
            refine hK.out _ _ (MK.out _ hW2) (fun hHeld => ?_)
            clear hK K
            go_simp
            refine wpAnyH_take (i := 7) (v := ?_) rfl (by kernel_rfl) (by kernel_rfl) (by kernel_rfl) (fun _ _ _ h => h) (Or.inl ⟨by rfl, ?_⟩) hHeld ?_
            rotate_left
            · intro w hSw
              (try dsimp only at hSw)
              go_simp
              try with_reducible rfl
            go_simp
            refine wpAnyH_take (i := 8) (v := ?_) rfl (by kernel_rfl) (by kernel_rfl) (by kernel_rfl) (fun _ _ _ h => h) (Or.inl ⟨by rfl, ?_⟩) hHeld ?_
            rotate_left
            · intro w hSw
              (try dsimp only at hSw)
              go_simp
              try with_reducible rfl
            go_simp
            refine wpAnyH_ready (rs := [9]) (by kernel_rfl) (by simp) ?_
            refine AllReadyH.cons rfl (fun K hK => ?_) ?_
            rotate_left
            · exact AllReadyH.nil
            go_simp
            go_wp2_with (first | (go_at_call 33; ((with_reducible refine (CWD7.out).mono ?_); rintro e w8 ⟨rfl, hb8⟩); have hW2 := hW2.trans (hb8.mono hW2.size)) | (go_at_call 24; ((with_reducible refine (C4.out _ (HBA.out.trans (hW2.mono HBA.out.size))).mono ?_); rintro e w9 ⟨rfl, hb9⟩); have hW2 := hW2.trans (hb9.mono hW2.size)))
            refine hK.out _ _ (MK.out _ hW2) (fun hHeld => ?_)
            clear hK K
            go_simp
            refine wpAnyH_take (i := 10) (v := ?_) rfl (by kernel_rfl) (by kernel_rfl) (by kernel_rfl) (fun _ _ _ h => h) (Or.inl ⟨by rfl, ?_⟩) hHeld ?_
            rotate_left
            · intro w hSw
              (try dsimp only at hSw)
              go_simp
              try with_reducible rfl
            go_simp
            refine wpAnyH_take (i := 11) (v := ?_) rfl (by kernel_rfl) (by kernel_rfl) (by kernel_rfl) (fun _ _ _ h => h) (Or.inl ⟨by rfl, ?_⟩) hHeld ?_
            rotate_left
            · intro w hSw
              (try dsimp only at hSw)
              go_simp
              try with_reducible rfl
            go_simp
            refine wpAnyH_done (by kernel_rfl) ?_ _
            refine NoPanic.normal ?_
            have HBZ := Lib.hid (HBA.out.trans (hW2.mono HBA.out.size))
            clear hW2 hHeld
            go_wp2
            go_ret
            exact ⟨rfl, HBZ.out⟩
      · have HWR := Lib.hid (HW4.out hk)
        clear hk hb2 CO1 HW0 HW4
        go_wp2_with fail
        with_reducible refine (CRF.out _ HB2.out).mono ?_
        rintro e w3 ⟨A3, c3, rfl, R3, hb3⟩
        have HB3 := Lib.hid (HB2.out.trans (hb3.mono HB2.out.size))
        have CW := Lib.hid (rWrong18_any A3 n c3 l tab w3 R3 HL.out (by omega))
        rw [HWR.out] at CW
        clear R3 hb3
        go_wp2_with fail
        with_reducible refine (CW.out).mono ?_
        rintro e w4 ⟨rfl, hb4⟩
        have HB4 := Lib.hid (HB3.out.trans (hb4.mono HB3.out.size))
        clear hb4
        go_wp2_with fail
        with_reducible refine (C4.out _ HB4.out).mono ?_
        rintro e w18 ⟨rfl, hb18⟩
        have HB18 := Lib.hid (HB4.out.trans (hb18.mono HB4.out.size))
        clear hb18
        go_wp2
        go_ret
        exact ⟨rfl, HB18.out⟩
    · have CO := Lib.hid fun tb W => cOf_bad (.pointer (some ⟨tb, 0, none⟩)) A n c tab W g2
      have HWR : Hid (wrong18 l tab = 1) := Lib.hid (by unfold wrong18; rw [if_pos g2])
      clear g2
      go_enter Tryd.func11, Tryd.ntmps11
      go_wp2_with fail
      with_reducible refine (CLG.out).mono ?_
      rintro e w0 ⟨rfl, hb0⟩
      have HB0 := Lib.hid hb0
      clear hb0 CLG
      go_wp2_with fail
      with_reducible refine (CP.out _ HB0.out).mono ?_
      rintro e w1 ⟨tb, rfl, hb1, ht1⟩
      have HB1 := Lib.hid (HB0.out.trans (hb1.mono HB0.out.size))
      clear hb1 ht1 CP HB0
      go_wp2_with fail
      with_reducible refine (CO.out _ _).mono ?_
      rintro e w2 ⟨rfl, hb2⟩
      have HB2 := Lib.hid (HB1.out.trans (hb2.mono HB1.out.size))
      clear hb2 CO HB1
      go_wp2_with fail
      with_reducible refine (CRF.out _ HB2.out).mono ?_
      rintro e w3 ⟨A3, c3, rfl, R3, hb3⟩
      have HB3 := Lib.hid (HB2.out.trans (hb3.mono HB2.out.size))
      have CW := Lib.hid (rWrong18_any A3 n c3 l tab w3 R3 HL.out (by omega))
      rw [HWR.out] at CW
      clear R3 hb3
      go_wp2_with fail
      with_reducible refine (CW.out).mono ?_
      rintro e w4 ⟨rfl, hb4⟩
      have HB4 := Lib.hid (HB3.out.trans (hb4.mono HB3.out.size))
      clear hb4
      go_wp2_with fail
      with_reducible refine (C4.out _ HB4.out).mono ?_
      rintro e w18 ⟨rfl, hb18⟩
      have HB18 := Lib.hid (HB4.out.trans (hb18.mono HB4.out.size))
      clear hb18
      go_wp2
      go_ret
      exact ⟨rfl, HB18.out⟩
  · have CLG := Lib.hid (long18_any A n c l true w HA.out HL.out ⟨fun _ => hS, fun _ => rfl⟩)
    clear hS
    go_enter Tryd.func11, Tryd.ntmps11
    go_wp2_with fail
    with_reducible refine (CLG.out).mono ?_
    rintro e w0 ⟨rfl, hb0⟩
    have HB0 := Lib.hid hb0
    clear hb0 CLG
    go_wp2_with fail
    with_reducible refine (C4.out _ HB0.out).mono ?_
    rintro e w18 ⟨rfl, hb18⟩
    have HB18 := Lib.hid (HB0.out.trans (hb18.mono HB0.out.size))
    clear hb18
    go_wp2
    go_ret
    exact ⟨rfl, HB18.out⟩
end Go.Proofs.YtbalafgoengppaaDoor
