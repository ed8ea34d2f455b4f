/- Inlays: the document's Splice. -/
import Derived.Test.YtbeclkhahdcmbaaGreatInN
import Derived.Test.YtbeclkhahdcmbaaGreatInS
namespace Go.Proofs.YtbeclkhahdcmbaaGreat
open Go.RowKit Go.Sort
set_option linter.unusedVariables false
theorem left_snoc (l : List In) (a : In) (r : List Int) : left (l ++ [a]) r = if a.id ∈ r then left l r else left l r ++ [a] := by
  unfold left
  by_cases h : a.id ∈ r <;> simp [List.filter_append, h]
theorem fnd_snoc (l : List In) (a : In) (r : List Int) : fnd (l ++ [a]) r = if r.count a.id = 1 then fnd l r + 1 else fnd l r := by
  unfold fnd
  by_cases h : r.count a.id = 1 <;> simp [List.filter_append, h]
theorem left_len (l : List In) (r : List Int) : (left l r).length ≤ l.length := List.length_filter_le _ _
theorem cell_far (w : World) (g i : Nat) (v : Value) (b o : Nat) (h : g ≠ b) : (w.setCell ⟨g, i, none⟩ v).cell? ⟨b, o, none⟩ = w.cell? ⟨b, o, none⟩ := World.cell?_setCell_other w ⟨g, i, none⟩ ⟨b, o, none⟩ v (fun e => h (by injection e))
/-- Rows of five cells lie in no block of three. -/
theorem rows_apart3 {w : World} {A : Option Addr} {l : List In} (h : RowsAt encI 5 w A l) {t : TypeId} {b : Nat} {x y z : Value} (r : RawAt t w b #[x, y, z]) (k : Nat) (u : Value) : RowsAt encI 5 (w.setCell ⟨b, k, none⟩ u) A l := by
  intro hl
  obtain ⟨b', off, rfl, h1, h2⟩ := h hl
  have hne : b ≠ b' := fun e => by
    subst e
    have := h2 0 hl 4 (by omega)
    rw [RawAt.cell r] at this
    simp [encI] at this
  exact ⟨b', off, rfl, Nat.lt_of_lt_of_le h1 ((Below.refl 0 w).setCell (p := ⟨b, k, none⟩) (Nat.zero_le _) u).size, fun j h3 c h4 => by rw [cell_far w b k u b' _ hne]; exact h2 j h3 c h4⟩
theorem fnd_len (l : List In) (r : List Int) : fnd l r ≤ l.length := List.length_filter_le _ _
set_option maxHeartbeats 16000000 in
set_option maxRecDepth 100000 in
theorem rSplice13_any (n er : Int) (A : Option Addr) (m c : Nat) (o : List In) (RA : Option Addr) (rm rc : Nat) (rem : List Int) (AA : Option Addr) (am ac : Nat) (add : List In) (w : World) (hA : RowsAt encI 5 w A o) (hl : o.length = m) (hm : m ≤ 100000) (hap : IApart o) (hR : IntsAt .i64 w RA rem) (hrl : rem.length = rm) (hrm : rm ≤ 1000000) (hD : RowsAt encI 5 w AA add) (hdl : add.length = am) (hdc : Caps AA am ac) (ham : am ≤ 100000) (hto : ∀ a ∈ o, a.tx.size ≤ 100000000) (hta : ∀ a ∈ add, a.tx.size ≤ 100000000) (r : Int) (hr : r = if remOk o rem then iwrong n (left o rem ++ add) else 6) :
    Calls Tryz.prog 10 #[.agg #[.int .i64 n, .slice A m c, .int .i64 er], .slice RA rm rc, .slice AA am ac] w (NewRes n (left o rem ++ add) w r) := by
  have ST := in_slt
  have HA := Lib.hid hA
  have HL := Lib.hid hl
  have HAP := Lib.hid hap
  have HD := Lib.hid hD
  have HDL := Lib.hid hdl
  have HDC := Lib.hid hdc
  have HRL := Lib.hid hrl
  have HRR := Lib.hid hr
  have HTX : Hid (∀ a ∈ left o rem ++ add, a.tx.size ≤ 100000000) := Lib.hid fun a ha => by
    rcases List.mem_append.1 ha with g | g
    · exact hto a (List.mem_filter.1 g).1
    · exact hta a g
  have CT := Lib.hid fun (x : Int) (W : World) (hW : Below w.heap.size w W) => times13_any x RA rm rc rem W (hR.below hW) hrl hrm
  clear hA hl hap hR hrl hD hdl hdc hto hta hr
  have x0 : Below w.heap.size w (w.alloc (.cells #[.int .i64 n, .slice A m c, .int .i64 er] 33)) := (Below.refl _ _).alloc (Nat.le_refl _) _
  have r0 : RawAt 33 (w.alloc (.cells #[.int .i64 n, .slice A m c, .int .i64 er] 33)) w.heap.size #[.int .i64 n, .slice A m c, .int .i64 er] := heap_alloc_new w _
  have x1 : Below (w.alloc (.cells #[.int .i64 n, .slice A m c, .int .i64 er] 33)).heap.size (w.alloc (.cells #[.int .i64 n, .slice A m c, .int .i64 er] 33)) ((w.alloc (.cells #[.int .i64 n, .slice A m c, .int .i64 er] 33)).alloc (.cells #[.int .i64 0, .slice none 0 0, .int .i64 0] 33)) := (Below.refl _ _).alloc (Nat.le_refl _) _
  have r1 : RawAt 33 ((w.alloc (.cells #[.int .i64 n, .slice A m c, .int .i64 er] 33)).alloc (.cells #[.int .i64 0, .slice none 0 0, .int .i64 0] 33)) (w.alloc (.cells #[.int .i64 n, .slice A m c, .int .i64 er] 33)).heap.size #[.int .i64 0, .slice none 0 0, .int .i64 0] := heap_alloc_new (w.alloc (.cells #[.int .i64 n, .slice A m c, .int .i64 er] 33)) _
  rw [show (w.alloc (.cells #[.int .i64 n, .slice A m c, .int .i64 er] 33)).heap.size = w.heap.size + 1 by simp] at r1
  have r0 := RawAt.below r0 x1 r0.lt
  have X1 := Lib.hid (x0.trans (x1.mono x0.size))
  obtain ⟨W1, hW1⟩ : ∃ W1, W1 = ((w.alloc (.cells #[.int .i64 n, .slice A m c, .int .i64 er] 33)).alloc (.cells #[.int .i64 0, .slice none 0 0, .int .i64 0] 33)) := ⟨_, rfl⟩
  rw [← hW1] at r0 r1 X1
  have HZ1 := Lib.hid r1.lt
  have c0 := RawAt.cell r0 0
  have c1 := RawAt.cell r0 1
  simp at c0 c1
  have HW1 := Lib.hid hW1
  have R0 := Lib.hid r0
  have R1 := Lib.hid r1
  clear x0 x1 r0 r1 hW1
  go_enter Tryz.func10, Tryz.ntmps10
  go_wp2_with fail
  rw [← HW1.out]
  clear HW1
  go_loopg [7, 8, 15] m (fun g v f i wr => ∃ (k q : Nat), i = .int .i64 k ∧ f = .int .i64 q ∧ k ≤ m ∧ m - k ≤ g ∧ q ≤ k ∧ Hid (q = fnd (o.take k) rem) ∧ Hid (Below W1.heap.size W1 wr) ∧ Hid (wr.ownsRow W1.heap.size 48 5 v (left (o.take k) rem).length (kfl encI (left (o.take k) rem))))
  case atStart => exact ⟨0, 0, rfl, rfl, by omega, by omega, by omega, Lib.hid (by simp [fnd]), Lib.hid (Below.refl _ _), Lib.hid (World.ownsRow_nil _ _ _ _)⟩
  case round =>
    clear c0 c1
    obtain ⟨k, q, rfl, rfl, h1, h2, h3, hq, hb, hown⟩ := hrel
    by_cases hlt : k < m
    · have hkl : k < o.length := by rw [HL.out]; exact hlt
      obtain ⟨bA, off, rfl, hbA, hce⟩ := (HA.out.below (X1.out.trans (hb.out.mono X1.out.size))).at1 hkl
      have f0 := hce 0 (by omega)
      have f1 := hce 1 (by omega)
      have f2 := hce 2 (by omega)
      have f3 := hce 3 (by omega)
      have f4 := hce 4 (by omega)
      rw [Nat.add_zero] at f0
      have htk : o.take (k + 1) = o.take k ++ [o[k]] := by rw [List.take_succ_eq_append_getElem hkl]
      have hls := left_snoc (o.take k) o[k] rem
      have hfs := fnd_snoc (o.take k) o[k] rem
      rw [← htk] at hls hfs
      rw [← hq.out] at hfs
      have hll := left_len (o.take k) rem
      rw [List.length_take] at hll
      have HLS := Lib.hid hls
      have HFS := Lib.hid hfs
      clear htk hls hfs hce hq
      generalize o[k] = a at *
      simp [encI] at f0 f1 f2 f3 f4
      have i1 : (0 : Int) ≤ k := by omega
      have i2 : (k : Int) < m := by omega
      have x3 : Below wr.heap.size wr (wr.alloc (.cells #[.int .i64 a.id, .int .i64 a.pl, .int .i64 a.bi, .int .i64 a.ky, .string a.tx] 48)) := (Below.refl _ _).alloc (Nat.le_refl _) _
      have R3 : RawAt 48 (wr.alloc (.cells #[.int .i64 a.id, .int .i64 a.pl, .int .i64 a.bi, .int .i64 a.ky, .string a.tx] 48)) wr.heap.size #[.int .i64 a.id, .int .i64 a.pl, .int .i64 a.bi, .int .i64 a.ky, .string a.tx] := heap_alloc_new wr _
      have g0 := RawAt.cell R3 0
      simp at g0
      have HB3 := Lib.hid (hb.out.trans (x3.mono hb.out.size))
      have HO3 := Lib.hid (own_below hown.out x3)
      obtain ⟨A3, c3, rfl⟩ := own_form hown.out
      have hlt4 := hown.out.lt
      have CTK := Lib.hid (CT.out a.id _ (X1.out.trans (HB3.out.mono X1.out.size)))
      have hmem : a.id ∈ rem ↔ rem.count a.id ≠ 0 := by rw [← List.count_pos_iff]; omega
      have HME := Lib.hid hmem
      have R3 := Lib.hid R3
      clear x3 hown hb hmem
      generalize hcn : rem.count a.id = cn at *
      clear hcn
      go_wp2_with fail
      with_reducible refine (CTK.out).mono ?_
      rintro e5 w5 ⟨rfl, b5⟩
      have R5 := RawAt.below R3.out b5 R3.out.lt
      have HB5 := HB3.out.trans (b5.mono HB3.out.size)
      have HO5 := own_below HO3.out b5
      have q0 := RawAt.cell R5 0
      have q1 := RawAt.cell R5 1
      have q2 := RawAt.cell R5 2
      have q3 := RawAt.cell R5 3
      have q4 := RawAt.cell R5 4
      simp at q0 q1 q2 q3 q4
      have HB5 := Lib.hid HB5
      have HO5 := Lib.hid HO5
      clear R5 R3 HB3 HO3 b5 CTK g0
      by_cases p0 : cn = 0
      · have HN := HLS.out
        rw [if_neg (fun h => HME.out.1 h p0)] at HN
        have HN := Lib.hid HN
        have HF : Hid (q = fnd (o.take (k + 1)) rem) := Lib.hid (by rw [HFS.out, if_neg (by omega)])
        subst p0
        clear HLS HFS
        have x4 : Below w5.heap.size w5 (w5.alloc (.cells #[.int .i64 a.id, .int .i64 a.pl, .int .i64 a.bi, .int .i64 a.ky, .string a.tx] 48)) := (Below.refl _ _).alloc (Nat.le_refl _) _
        have R4 : RawAt 48 (w5.alloc (.cells #[.int .i64 a.id, .int .i64 a.pl, .int .i64 a.bi, .int .i64 a.ky, .string a.tx] 48)) w5.heap.size #[.int .i64 a.id, .int .i64 a.pl, .int .i64 a.bi, .int .i64 a.ky, .string a.tx] := heap_alloc_new w5 _
        have HO4 := Lib.hid (own_below HO5.out x4)
        have HS4 : Hid (RowsAt encI 5 (w5.alloc (.cells #[.int .i64 a.id, .int .i64 a.pl, .int .i64 a.bi, .int .i64 a.ky, .string a.tx] 48)) (some ⟨w5.heap.size, 0, none⟩) [a]) := Lib.hid (rows_of_block (enc := encI) (k := 5) encI_len R4 (l := [a]) rfl)
        have HB4 := Lib.hid (HB5.out.trans (x4.mono HB5.out.size))
        clear x4 R4 HB5 HO5
        go_wp2_with (at_builtin; refine wpList_appK (enc := encI) ST encI_len (by omega) rfl (.tmp 25) (.tmp 27) rfl (base := W1.heap.size) (v := .slice A3 (left (o.take k) rem).length c3) rfl HO4.out _ 1 1 [a] rfl HS4.out ⟨Nat.le_refl _, fun h => by cases h⟩ rfl (kfl_one' encI_one _) (by simp only [maxLen]; omega) (by omega) HB4.out.size ?_; intro v5 w6 hown5 hg5 hor5; have HB6 := Lib.hid (HB4.out.grown hg5 HB4.out.size (fun j hj => (hlt4 j hj).1)); have HO6 : Hid (w6.ownsRow W1.heap.size 48 5 v5 (left (o.take (k + 1)) rem).length (kfl encI (left (o.take (k + 1)) rem))) := Lib.hid (by rw [HN.out, kfl_append, List.length_append]; exact hown5); clear hown5 hg5 hor5 HO4 HS4 HB4)
        go_roundg (gk - 1)
        case measure => omega
        case rel => exact ⟨k + 1, q, by go_num, rfl, by omega, by omega, by omega, HF, HB6, HO6⟩
      · have HN := HLS.out
        rw [if_pos (HME.out.2 p0)] at HN
        have HN := Lib.hid HN
        have k1 : decide ((cn : Int) = 0) = false := decide_eq_false (by omega)
        have k1b : ((cn : Int) == 0) = false := by simp; omega
        by_cases p1 : cn = 1
        · have HF : Hid (q + 1 = fnd (o.take (k + 1)) rem) := Lib.hid (by rw [HFS.out, if_pos p1])
          subst p1
          have HW5 : Hid (w5.ownsRow W1.heap.size 48 5 (.slice A3 (left (o.take k) rem).length c3) (left (o.take (k + 1)) rem).length (kfl encI (left (o.take (k + 1)) rem))) := Lib.hid (by rw [HN.out]; exact HO5.out)
          clear HLS HFS HN HO5 p0 k1 k1b
          go_wp2
          go_roundg (gk - 1)
          case measure => omega
          case rel => exact ⟨k + 1, q + 1, by go_num, by go_num, by omega, by omega, by omega, HF, HB5, HW5⟩
        · have HF : Hid (q = fnd (o.take (k + 1)) rem) := Lib.hid (by rw [HFS.out, if_neg p1])
          have HW5 : Hid (w5.ownsRow W1.heap.size 48 5 (.slice A3 (left (o.take k) rem).length c3) (left (o.take (k + 1)) rem).length (kfl encI (left (o.take (k + 1)) rem))) := Lib.hid (by rw [HN.out]; exact HO5.out)
          have k2 : decide ((cn : Int) = 1) = false := decide_eq_false (by omega)
          have k2b : ((cn : Int) == 1) = false := by simp; omega
          clear HLS HFS HN HO5
          go_wp2
          go_roundg (gk - 1)
          case measure => omega
          case rel => exact ⟨k + 1, q, by go_num, rfl, by omega, by omega, by omega, HF, HB5, HW5⟩
    · obtain rfl : m = k := by omega
      have e2 : o.take m = o := List.take_of_length_le (by rw [HL.out]; exact Nat.le_refl _)
      have ho2 := hown.out
      have hq2 := hq.out
      rw [e2] at ho2 hq2
      have hok := fnd_ok HAP.out rem
      rw [← hq2, HRL.out] at hok
      have hll := left_len o rem
      rw [HL.out] at hll
      have HO2 := Lib.hid ho2
      have HB := Lib.hid hb.out
      have hS1 := RawAt.below R1.out HB.out R1.out.lt
      have hS0 := RawAt.below R0.out HB.out R0.out.lt
      have q0 := RawAt.cell hS1 0
      have q1 := RawAt.cell hS1 1
      have q2 := RawAt.cell hS1 2
      have f0 := RawAt.free hS1 0
      have f1 := RawAt.free hS1 1
      have f2 := RawAt.free hS1 2
      simp at q0 q1 q2
      have HZ := Lib.hid (X1.out.trans (HB.out.mono X1.out.size))
      obtain ⟨A3, c3, rfl⟩ := own_form ho2
      have hlt4 := ho2.lt
      clear e2 hq hq2 hown ho2 hb
      by_cases p : q < rm
      · have k0 : decide (q < rm) = true := decide_eq_true p
        have k1 : decide ((q : Int) < rm) = true := decide_eq_true (by omega)
        have e : r = 6 := by rw [HRR.out, if_neg (hok.1 p)]
        subst e
        have HR1 := Lib.hid hS1
        clear HRR hok hS0 hS1
        go_wp2
        have t0 := ((HR1.out.set_ 0 (.int .i64 0)).set_ 1 (.slice none 0 0)).set_ 2 (.int .i64 6)
        have z0 := RawAt.cell t0 0
        have z1 := RawAt.cell t0 1
        have z2 := RawAt.cell t0 2
        simp at z0 z1 z2
        refine bodyPost_ret (v := .agg #[.int .i64 0, .slice none 0 0, .int .i64 6]) (by simp [results, Tryz.results10, go_sem, z0, z1, z2]) rfl ⟨0, none, 0, 0, rfl, fun h => absurd h (by decide), ?_⟩
        exact (((HZ.out.setCell (p := ⟨w.heap.size + 1, 0, none⟩) (Nat.le_succ _) _).setCell (p := ⟨w.heap.size + 1, 1, none⟩) (Nat.le_succ _) _).setCell (p := ⟨w.heap.size + 1, 2, none⟩) (Nat.le_succ _) _)
      · have k0 : decide (q < rm) = false := decide_eq_false p
        have k1 : decide ((q : Int) < rm) = false := decide_eq_false (by omega)
        have hyes : remOk o rem := Decidable.byContradiction fun h => p (hok.2 h)
        have HE : Hid (iwrong n (left o rem ++ add) = r) := Lib.hid (by rw [HRR.out, if_pos hyes])
        have HAD := Lib.hid (HD.out.below HZ.out)
        have R01 := Lib.hid hS0
        have R11 := Lib.hid hS1
        have CNW := Lib.hid fun (A' : Option Addr) (m' c' : Nat) (W : World) (h1 : RowsAt encI 5 W A' (left o rem ++ add)) (h2 : Caps A' m' c') (h3 : (left o rem ++ add).length = m') => rNew13_any n A' m' c' (left o rem ++ add) W h1 h2 h3 HTX.out r HE.out
        clear HRR hok hyes q0 q1 q2 f0 f1 f2 hS0 hS1
        go_wp2_with (at_builtin; refine wpList_appK (enc := encI) ST encI_len (by omega) rfl (.tmp 39) (.tmp 40) rfl (base := W1.heap.size) (v := .slice A3 (left o rem).length c3) rfl HO2.out AA am ac add rfl HAD.out HDC.out HDL.out (kfl_one' encI_one _) (by simp only [maxLen]; omega) (by omega) HB.out.size ?_; intro v5 w6 hown5 hg5 hor5; have hb6 := HB.out.grown hg5 HB.out.size (fun j hj => (hlt4 j hj).1); have HB6 := Lib.hid hb6; have hS0 := RawAt.below R0.out hb6 R0.out.lt; have c0 := RawAt.cell hS0 0; simp at c0; have hl6 : (left o rem ++ add).length = (left o rem).length + am := (by rw [List.length_append, HDL.out]); have hown6 : w6.ownsRow W1.heap.size 48 5 v5 (left o rem ++ add).length (kfl encI (left o rem ++ add)) := (by rw [hl6, kfl_append]; exact hown5); obtain ⟨A6, c6, e6, hR6, _, hC6⟩ := rows_of_own encI_len (by omega) hown6; subst e6; have CNW6 := Lib.hid (CNW.out A6 _ c6 w6 hR6 (hl6 ▸ hC6) hl6); clear hown5 hg5 hor5 hown6 hR6 hC6 hS0 hb6)
        with_reducible refine (CNW6.out).mono ?_
        rintro e7 w7 ⟨nn, A7, m7, c7, rfl, hres, b7⟩
        have hS1 := RawAt.below R1.out (HB6.out.trans (b7.mono HB6.out.size)) R1.out.lt
        have q0 := RawAt.cell hS1 0
        have q1 := RawAt.cell hS1 1
        have q2 := RawAt.cell hS1 2
        have f0 := RawAt.free hS1 0
        have f1 := RawAt.free hS1 1
        have f2 := RawAt.free hS1 2
        simp at q0 q1 q2
        have HR1 := Lib.hid hS1
        have HZ7 := Lib.hid (X1.out.trans ((HB6.out.trans (b7.mono HB6.out.size)).mono X1.out.size))
        have HRES := Lib.hid hres
        clear hres b7 hS1 CNW6 CNW
        go_wp2
        have t0 := ((HR1.out.set_ 0 (.int .i64 nn)).set_ 1 (.slice A7 m7 c7)).set_ 2 (.int .i64 r)
        have z0 := RawAt.cell t0 0
        have z1 := RawAt.cell t0 1
        have z2 := RawAt.cell t0 2
        simp at z0 z1 z2
        refine bodyPost_ret (v := .agg #[.int .i64 nn, .slice A7 m7 c7, .int .i64 r]) (by simp [results, Tryz.results10, go_sem, z0, z1, z2]) rfl ⟨nn, A7, m7, c7, rfl, fun hr0 => ?_, ?_⟩
        · obtain ⟨y1, y2, y3⟩ := HRES.out hr0
          exact ⟨y1, y2, rows_apart3 (rows_apart3 (rows_apart3 y3 HR1.out _ _) (RawAt.of_eq (HR1.out.set_ 0 (.int .i64 nn)) rfl) _ _) (RawAt.of_eq ((HR1.out.set_ 0 (.int .i64 nn)).set_ 1 (.slice A7 m7 c7)) rfl) _ _⟩
        · exact (((HZ7.out.setCell (p := ⟨w.heap.size + 1, 0, none⟩) (Nat.le_succ _) _).setCell (p := ⟨w.heap.size + 1, 1, none⟩) (Nat.le_succ _) _).setCell (p := ⟨w.heap.size + 1, 2, none⟩) (Nat.le_succ _) _)
end Go.Proofs.YtbeclkhahdcmbaaGreat
