/- Cells: those of parts, without widths: the contracts of bare and of runes. -/
import Derived.Test.YtbalafgoengppaaDoorClC
namespace Go.Proofs.YtbalafgoengppaaDoor
open Go.RowKit
set_option linter.unusedVariables false
def pt (s : PtV) : Pt := ⟨s.k, s.p, s.rs⟩
def kok (l : List PtV) : Prop := ∀ x ∈ l, 1 ≤ x.k ∧ x.k ≤ 3
theorem ints_keep {kd : IntKind} {W1 W2 : World} {A : Option Addr} {sh : List Int} {N B : Nat} {u : Value} (h : IntsAt kd W1 A sh) (hb : Below B W1 W2) (hm : Mid N W1 W2 u) (hr : ∀ b off, A = some ⟨b, off, none⟩ → b < B ∨ N ≤ b) : IntsAt kd W2 A sh := by
  intro hl
  obtain ⟨b, off, rfl, h1, h2⟩ := h hl
  have he : W2.heap[b]? = W1.heap[b]? := by
    rcases hr b off rfl with h | h
    · exact hb.block b h
    · exact hm.mid b h h1
  exact ⟨b, off, rfl, Nat.lt_of_lt_of_le h1 hm.size, fun k hk => (World.cell?_of_block (a := ⟨b, off + k, none⟩) he).trans (h2 k hk)⟩
theorem ints_keep' {kd : IntKind} {W1 W2 : World} {A : Option Addr} {sh : List Int} {N B ns : Nat} {u : Value} (h : IntsAt kd W1 A sh) (hb : Below B W1 W2) (hm : Mid N W1 W2 u) (hl : sh.length = ns) (hr : ∀ b off, A = some ⟨b, off, none⟩ → 0 < ns → b < B ∨ N ≤ b) : IntsAt kd W2 A sh := by
  intro h0
  exact ints_keep h hb hm (fun b off he => hr b off he (by omega)) h0
theorem part_info : (Tryd.prog.info? 64).map (fun i => (i.zero, i.size, i.bytes)) = some (some (.agg #[.int .i64 0, .int .i64 0, .slice none 0 0]), 3, 40) := by kernel_rfl
theorem RowsAt.part3 {w : World} {A : Option Addr} {l : List PtV} (h : RowsAt ptcs 3 w A l) {j : Nat} (hj : j < l.length) : ∃ b off, A = some ⟨b, off, none⟩ ∧ b < w.heap.size ∧
    w.cell? ⟨b, off + j * 3, none⟩ = some (.int .i64 l[j].k) ∧ w.cell? ⟨b, off + j * 3 + 1, none⟩ = some (.int .i64 l[j].p) ∧ w.cell? ⟨b, off + j * 3 + 2, none⟩ = some (.slice l[j].A l[j].n l[j].c) := by
  obtain ⟨b, off, e, hb, hc⟩ := h.at1 hj
  exact ⟨b, off, e, hb, hc 0 (by omega), hc 1 (by omega), hc 2 (by omega)⟩
theorem bareL_take {l : List PtV} {j : Nat} (h : j < l.length) : bareL ((l.take (j + 1)).map pt) = bareL ((l.take j).map pt) ++ bareP (pt l[j]) := by
  rw [List.take_succ_eq_append_getElem h, List.map_append]
  exact bareL_snoc _ _
theorem bareP_length (x : Pt) : (bareP x).length = (shown x).length := placed_length x _ _
theorem bareL_length (l : List Pt) : (bareL l).length = ((l.map fun x => (shown x).length)).sum := by
  unfold bareL
  rw [List.length_flatMap]
  congr 1
  exact List.map_congr_left fun x _ => bareP_length x
theorem bareL_le (l : List PtV) (j : Nat) : (bareL ((l.take j).map pt)).length ≤ (bareL (l.map pt)).length := by
  have : bareL (l.map pt) = bareL ((l.take j).map pt) ++ bareL ((l.drop j).map pt) := by
    rw [show ∀ a b, bareL a ++ bareL b = bareL (a ++ b) from fun a b => by simp [bareL], ← List.map_append, List.take_append_drop]
  rw [this, List.length_append]
  omega
def BareRes (w : World) (l : List PtV) (e : Ending) (w' : World) : Prop :=
  (kok l ∧ ∃ (m : Nat) (v : Value), e = .returned (.tuple #[v, .int .i64 0]) ∧ w'.ownsRow w.heap.size 58 4 v m (kfl encC (bareL (l.map pt)))) ∨ (¬ kok l ∧ e = .returned (.tuple #[.slice none 0 0, .int .i64 4]))
set_option maxHeartbeats 8000000 in
set_option maxRecDepth 100000 in
theorem cBare_any (A : Option Addr) (n c : Nat) (l : List PtV) (w : World) (hA : RowsAt ptcs 3 w A l) (hl : l.length = n) (hn : n ≤ 1000) (hok : ∀ s ∈ l, PtOk w s) (hp : ∀ s ∈ l, 0 ≤ s.p ∧ s.p ≤ 1099511627776 ∧ s.n ≤ 1000) (ht : (bareL (l.map pt)).length ≤ 1000000) :
    Calls Tryd.prog 40 #[.slice A n c] w fun e w' => BareRes w l e w' ∧ Below w.heap.size w w' := by
  have HA := Lib.hid hA
  have HL := Lib.hid hl
  have HOK := Lib.hid hok
  have HPB := Lib.hid hp
  have HTT := Lib.hid ht
  clear hA hl hok hp ht
  go_enter Tryd.func40, Tryd.ntmps40
  go_wp2_with fail
  go_loopg [4, 6, 7, 8, 9, 12] n (fun g a x y z t i wr => ∃ (j : Nat) (u : Value) (m : Nat), i = .int .i64 j ∧ j ≤ n ∧ n - j ≤ g ∧ u = a ∧ Hid (Below w.heap.size w wr) ∧ Hid (wr.ownsRow w.heap.size 58 4 u m (kfl encC (bareL ((l.take j).map pt)))) ∧ Hid (kok (l.take j)))
  case atStart => exact ⟨0, _, 0, rfl, by omega, by omega, rfl, Lib.hid (Below.refl _ _), Lib.hid ⟨rfl, .inl ⟨rfl, rfl⟩⟩, Lib.hid (fun x hx => absurd hx (by simp))⟩
  case round =>
    obtain ⟨j, v, m, rfl, h1, h2, rfl, hb, hown, hok⟩ := hrel
    by_cases hlt : j < n
    · have hjl : j < l.length := by rw [HL.out]; exact hlt
      obtain ⟨bA, off, rfl, hbA, d0, d1, d2⟩ := (HA.out.below hb.out).part3 hjl
      obtain ⟨o1, o2, o3, o4, o5, o6⟩ := (HOK.out _ (List.getElem_mem hjl)).below hb.out
      obtain ⟨p1, p2, p3⟩ := HPB.out _ (List.getElem_mem hjl)
      have HTK := Lib.hid (List.take_succ_eq_append_getElem hjl)
      have hbt := bareL_take hjl
      have hle1 := bareL_le l (j + 1)
      have HOLD : Hid (∀ b off, l[j].A = some ⟨b, off, none⟩ → 0 < l[j].n → b < w.heap.size) := Lib.hid fun b off he h0 => by
        obtain ⟨q1, q2, q3, q4, q5, q6⟩ := HOK.out _ (List.getElem_mem hjl)
        obtain ⟨b', off', he', hb', _⟩ := q4 (by omega)
        rw [he] at he'
        injection he' with he'
        injection he' with e1
        omega
      have HNK : Hid (¬ (1 ≤ l[j].k ∧ l[j].k ≤ 3) → ¬ kok l) := Lib.hid fun h hk => h (hk _ (List.getElem_mem hjl))
      rw [hbt, List.length_append, bareP_length] at hle1
      have HBT := Lib.hid hbt
      clear hbt
      generalize l[j] = s at *
      obtain ⟨k, p, As, ns, cs, rs⟩ := s
      simp only at d0 d1 d2 o1 o2 o3 o4 o5 o6 p1 p2 p3 HOLD HNK
      have i1 : (0 : Int) ≤ j := by omega
      have i2 : (j : Int) < n := by omega
      have HRS := Lib.hid o1
      have HIA := Lib.hid o4
      have HLE1 := Lib.hid hle1
      obtain ⟨G, hG⟩ : ∃ G, G = gk := ⟨_, rfl⟩
      subst hG
      clear o1 o2 o3 o4 o5 o6 hle1
      by_cases k1 : k = 1
      · subst k1
        have x1 : Below wr.heap.size wr (wr.alloc (.cells #[.int .i64 1, .int .i64 p, .slice As ns cs] 64)) := (Below.refl _ _).alloc (Nat.le_refl _) _
        have HRP : Hid (RawAt 64 (wr.alloc (.cells #[.int .i64 1, .int .i64 p, .slice As ns cs] 64)) wr.heap.size #[.int .i64 1, .int .i64 p, .slice As ns cs]) := Lib.hid (heap_alloc_new wr _)
        have HM1 := Lib.hid ((Mid.start (B := wr.heap.size) (w4 := wr.alloc (.cells #[.int .i64 1, .int .i64 p, .slice As ns cs] 64)) (u := v) fun b hb => .inl (hown.out.lt b hb).2))
        have HO1 := Lib.hid (own_below hown.out x1)
        have HBW := Lib.hid (hb.out.trans (x1.mono hb.out.size))
        have HN1 : Hid (wr.heap.size < (wr.alloc (.cells #[.int .i64 1, .int .i64 p, .slice As ns cs] 64)).heap.size) := Lib.hid (by simp)
        have HSH : Hid (bareL ((l.take j).map pt) ++ placed ⟨1, p, rs⟩ 0 rs = bareL ((l.take (j + 1)).map pt)) := Lib.hid (by rw [HBT.out]; rfl)
        have HLE : Hid (∀ i', (bareL ((l.take j).map pt) ++ placed ⟨1, p, rs⟩ 0 (rs.take i')).length ≤ 1000000) := Lib.hid fun i' => by
          have a := HLE1.out
          have b := HTT.out
          rw [List.length_append, placed_length, List.length_take]
          rw [show (shown (pt ⟨1, p, As, ns, cs, rs⟩)).length = rs.length from rfl] at a
          omega
        have HK : Hid (1 ≤ (1 : Int) ∧ (1 : Int) ≤ 3) := Lib.hid (by omega)
        have hls := HRS.out
        have HIS : Hid (IntsAt .i32 (wr.alloc (.cells #[.int .i64 1, .int .i64 p, .slice As ns cs] 64)) As rs) := Lib.hid (HIA.out.below x1)
        have HKP : Hid (∀ b off, As = some ⟨b, off, none⟩ → 0 < ns → b < w.heap.size ∨ wr.heap.size ≤ b) := Lib.hid fun b off he h0 => .inl (HOLD.out b off he h0)
        clear hb hown x1 HIA
        obtain ⟨sh, hsh⟩ : ∃ sh, sh = rs := ⟨_, rfl⟩
        subst hsh
        have HLS := Lib.hid hls
        clear hls
        go_wp2_with fail
        generalize wr.alloc (.cells #[.int .i64 1, .int .i64 p, .slice As ns cs] 64) = W1 at *
        clear d0 d1 d2
        generalize wr.heap.size = N at *
        go_loopg [4, 8, 9, 29] ns (fun g a x y i wr => ∃ (i' : Nat) (u : Value) (m' : Nat), i = .int .i64 i' ∧ i' ≤ ns ∧ ns - i' ≤ g ∧ u = a ∧ Hid (Below w.heap.size w wr) ∧ Hid (Below w.heap.size W1 wr) ∧ Hid (Mid N W1 wr u) ∧ Hid (wr.ownsRow w.heap.size 58 4 u m' (kfl encC (bareL ((l.take j).map pt) ++ placed ⟨1, p, sh⟩ 0 (sh.take i')))))
        case atStart => exact ⟨0, _, _, rfl, by omega, by omega, rfl, HBW, Lib.hid (Below.refl _ _), HM1, Lib.hid (by rw [List.take_zero, placed, List.append_nil]; exact HO1.out)⟩
        case round =>
          obtain ⟨i', a, m', rfl, h3, h4, rfl, hbw, hb1, hM, hown2⟩ := hrel
          have hIq := ints_keep' HIS.out hb1.out hM.out HLS.out HKP.out
          have hR := (hM.out.mid N (Nat.le_refl _) HN1.out).trans HRP.out
          have c0 := RawAt.cell hR 0
          have c1 := RawAt.cell hR 1
          simp at c0 c1
          by_cases hl2 : i' < ns
          · have hil : i' < sh.length := by rw [HLS.out]; exact hl2
            obtain ⟨bR, offR, rfl, hbR, hcR⟩ := hIq (by omega)
            have r0 := hcR i' hil
            have hsn : placed ⟨1, p, sh⟩ 0 (sh.take (i' + 1)) = placed ⟨1, p, sh⟩ 0 (sh.take i') ++ [⟨nth sh i', 1, 0, p + (i' : Int)⟩] := by
              rw [List.take_succ_eq_append_getElem hil, placed_snoc, nth_flat hil]
              congr 3
              rw [List.length_take, Nat.min_eq_left (by omega)]
              simp
            have HSN := Lib.hid hsn
            have hlen : m' ≤ 1000000 := by
              have := own_len encC_len (by omega) hown2.out
              rw [← this]
              exact HLE.out i'
            have i1 : (0 : Int) ≤ i' := by omega
            have i2 : (i' : Int) < ns := by omega
            clear hcR hsn hIq hR
            generalize nth sh i' = r at *
            have x3 : Below wr.heap.size wr (wr.alloc (.cells #[.int .i32 r, .int .i64 1, .int .i64 0, .int .i64 (p + (i' : Int))] 58)) := (Below.refl _ _).alloc (Nat.le_refl _) _
            have HOW := Lib.hid (own_below hown2.out x3)
            have HM3 := Lib.hid (hM.out.below x3)
            have HBB := Lib.hid hbw.out.size
            have HW3 := Lib.hid (hbw.out.trans (x3.mono hbw.out.size))
            have HB3 := Lib.hid (hb1.out.trans (x3.mono hbw.out.size))
            have HRW : Hid (RowsAt encC 4 (wr.alloc (.cells #[.int .i32 r, .int .i64 1, .int .i64 0, .int .i64 (p + (i' : Int))] 58)) (some ⟨wr.heap.size, 0, none⟩) [⟨r, 1, 0, p + (i' : Int)⟩]) := Lib.hid (row_new encC_len wr [⟨r, 1, 0, p + (i' : Int)⟩] #[.int .i32 r, .int .i64 1, .int .i64 0, .int .i64 (p + (i' : Int))] 58 rfl)
            clear hbw hb1 hM hown2 x3
            go_wp2_with (at_builtin; go_loud (refine wpList_appK (enc := encC) cell_slt encC_len (by omega) rfl (.tmp 34) (.tmp 45) rfl rfl HOW.out (some ⟨wr.heap.size, 0, none⟩) 1 1 [⟨r, 1, 0, p + (i' : Int)⟩] rfl HRW.out ⟨Nat.le_refl _, fun h => by cases h⟩ rfl (kfl_one' encC_one _) (by simp only [maxLen]; omega) (by omega) (by have := HBB.out; simp; omega) ?_; intro v5 w5 hown5 hg5 hn5))
            have HO5 := Lib.hid hown5
            have HB5 := Lib.hid (HB3.out.grown hg5 (by have := HBB.out; simp; omega) (fun k hk => (HOW.out.lt k hk).1))
            have HW5 := Lib.hid (HW3.out.grown hg5 (by have := HBB.out; simp; omega) (fun k hk => (HOW.out.lt k hk).1))
            have HM5 := Lib.hid (HM3.out.grown hg5 hn5)
            clear hown5 hg5 hn5
            go_roundg (gk - 1)
            case measure => omega
            case rel => exact ⟨i' + 1, _, _, by go_num, by omega, by omega, rfl, HW5, HB5, HM5, Lib.hid (by have := HO5.out; rw [← kfl_append, List.append_assoc, ← HSN.out] at this; exact this)⟩
          · obtain rfl : i' = ns := by omega
            have h5 := hown2.out
            rw [List.take_of_length_le (l := sh) (by rw [HLS.out]; exact Nat.le_refl _), HSH.out] at h5
            have H5 := Lib.hid h5
            clear h5 hown2 hM c0 c1 hR hIq
            go_wp2
            go_roundg (G - 1)
            case measure => omega
            case rel => exact ⟨j + 1, _, _, by go_num, by omega, by omega, rfl, hbw, H5, Lib.hid (by rw [HTK.out]; intro x hx; rcases List.mem_append.1 hx with hx | hx; exact hok.out x hx; rw [List.mem_singleton.1 hx]; exact HK.out)⟩
      · have k4 : (k == 1) = false := by simpa using k1
        by_cases k2 : k = 2
        · subst k2
          have x1 : Below wr.heap.size wr (wr.alloc (.cells #[.int .i64 2, .int .i64 p, .slice As ns cs] 64)) := (Below.refl _ _).alloc (Nat.le_refl _) _
          have HRP : Hid (RawAt 64 (wr.alloc (.cells #[.int .i64 2, .int .i64 p, .slice As ns cs] 64)) wr.heap.size #[.int .i64 2, .int .i64 p, .slice As ns cs]) := Lib.hid (heap_alloc_new wr _)
          have HM1 := Lib.hid ((Mid.start (B := wr.heap.size) (w4 := wr.alloc (.cells #[.int .i64 2, .int .i64 p, .slice As ns cs] 64)) (u := v) fun b hb => .inl (hown.out.lt b hb).2))
          have HO1 := Lib.hid (own_below hown.out x1)
          have HBW := Lib.hid (hb.out.trans (x1.mono hb.out.size))
          have HN1 : Hid (wr.heap.size < (wr.alloc (.cells #[.int .i64 2, .int .i64 p, .slice As ns cs] 64)).heap.size) := Lib.hid (by simp)
          have HSH : Hid (bareL ((l.take j).map pt) ++ placed ⟨2, p, rs⟩ 0 rs = bareL ((l.take (j + 1)).map pt)) := Lib.hid (by rw [HBT.out]; rfl)
          have HLE : Hid (∀ i', (bareL ((l.take j).map pt) ++ placed ⟨2, p, rs⟩ 0 (rs.take i')).length ≤ 1000000) := Lib.hid fun i' => by
            have a := HLE1.out
            have b := HTT.out
            rw [List.length_append, placed_length, List.length_take]
            rw [show (shown (pt ⟨2, p, As, ns, cs, rs⟩)).length = rs.length from rfl] at a
            omega
          have HK : Hid (1 ≤ (2 : Int) ∧ (2 : Int) ≤ 3) := Lib.hid (by omega)
          have hls := HRS.out
          have HIS : Hid (IntsAt .i32 (wr.alloc (.cells #[.int .i64 2, .int .i64 p, .slice As ns cs] 64)) As rs) := Lib.hid (HIA.out.below x1)
          have HKP : Hid (∀ b off, As = some ⟨b, off, none⟩ → 0 < ns → b < w.heap.size ∨ wr.heap.size ≤ b) := Lib.hid fun b off he h0 => .inl (HOLD.out b off he h0)
          clear hb hown x1 HIA k1 k4
          obtain ⟨sh, hsh⟩ : ∃ sh, sh = rs := ⟨_, rfl⟩
          subst hsh
          have HLS := Lib.hid hls
          clear hls
          go_wp2_with fail
          generalize wr.alloc (.cells #[.int .i64 2, .int .i64 p, .slice As ns cs] 64) = W1 at *
          clear d0 d1 d2
          generalize wr.heap.size = N at *
          go_loopg [4, 8, 9, 29] ns (fun g a x y i wr => ∃ (i' : Nat) (u : Value) (m' : Nat), i = .int .i64 i' ∧ i' ≤ ns ∧ ns - i' ≤ g ∧ u = a ∧ Hid (Below w.heap.size w wr) ∧ Hid (Below w.heap.size W1 wr) ∧ Hid (Mid N W1 wr u) ∧ Hid (wr.ownsRow w.heap.size 58 4 u m' (kfl encC (bareL ((l.take j).map pt) ++ placed ⟨2, p, sh⟩ 0 (sh.take i')))))
          case atStart => exact ⟨0, _, _, rfl, by omega, by omega, rfl, HBW, Lib.hid (Below.refl _ _), HM1, Lib.hid (by rw [List.take_zero, placed, List.append_nil]; exact HO1.out)⟩
          case round =>
            obtain ⟨i', a, m', rfl, h3, h4, rfl, hbw, hb1, hM, hown2⟩ := hrel
            have hIq := ints_keep' HIS.out hb1.out hM.out HLS.out HKP.out
            have hR := (hM.out.mid N (Nat.le_refl _) HN1.out).trans HRP.out
            have c0 := RawAt.cell hR 0
            have c1 := RawAt.cell hR 1
            simp at c0 c1
            by_cases hl2 : i' < ns
            · have hil : i' < sh.length := by rw [HLS.out]; exact hl2
              obtain ⟨bR, offR, rfl, hbR, hcR⟩ := hIq (by omega)
              have r0 := hcR i' hil
              have hsn : placed ⟨2, p, sh⟩ 0 (sh.take (i' + 1)) = placed ⟨2, p, sh⟩ 0 (sh.take i') ++ [⟨nth sh i', 2, 0, p⟩] := by
                rw [List.take_succ_eq_append_getElem hil, placed_snoc, nth_flat hil]
                congr 3
                rw [List.length_take, Nat.min_eq_left (by omega)]
                simp
              have HSN := Lib.hid hsn
              have hlen : m' ≤ 1000000 := by
                have := own_len encC_len (by omega) hown2.out
                rw [← this]
                exact HLE.out i'
              have i1 : (0 : Int) ≤ i' := by omega
              have i2 : (i' : Int) < ns := by omega
              clear hcR hsn hIq hR
              generalize nth sh i' = r at *
              have x3 : Below wr.heap.size wr (wr.alloc (.cells #[.int .i32 r, .int .i64 2, .int .i64 0, .int .i64 (p)] 58)) := (Below.refl _ _).alloc (Nat.le_refl _) _
              have HOW := Lib.hid (own_below hown2.out x3)
              have HM3 := Lib.hid (hM.out.below x3)
              have HBB := Lib.hid hbw.out.size
              have HW3 := Lib.hid (hbw.out.trans (x3.mono hbw.out.size))
              have HB3 := Lib.hid (hb1.out.trans (x3.mono hbw.out.size))
              have HRW : Hid (RowsAt encC 4 (wr.alloc (.cells #[.int .i32 r, .int .i64 2, .int .i64 0, .int .i64 (p)] 58)) (some ⟨wr.heap.size, 0, none⟩) [⟨r, 2, 0, p⟩]) := Lib.hid (row_new encC_len wr [⟨r, 2, 0, p⟩] #[.int .i32 r, .int .i64 2, .int .i64 0, .int .i64 (p)] 58 rfl)
              clear hbw hb1 hM hown2 x3
              go_wp2_with (at_builtin; go_loud (refine wpList_appK (enc := encC) cell_slt encC_len (by omega) rfl (.tmp 34) (.tmp 45) rfl rfl HOW.out (some ⟨wr.heap.size, 0, none⟩) 1 1 [⟨r, 2, 0, p⟩] rfl HRW.out ⟨Nat.le_refl _, fun h => by cases h⟩ rfl (kfl_one' encC_one _) (by simp only [maxLen]; omega) (by omega) (by have := HBB.out; simp; omega) ?_; intro v5 w5 hown5 hg5 hn5))
              have HO5 := Lib.hid hown5
              have HB5 := Lib.hid (HB3.out.grown hg5 (by have := HBB.out; simp; omega) (fun k hk => (HOW.out.lt k hk).1))
              have HW5 := Lib.hid (HW3.out.grown hg5 (by have := HBB.out; simp; omega) (fun k hk => (HOW.out.lt k hk).1))
              have HM5 := Lib.hid (HM3.out.grown hg5 hn5)
              clear hown5 hg5 hn5
              go_roundg (gk - 1)
              case measure => omega
              case rel => exact ⟨i' + 1, _, _, by go_num, by omega, by omega, rfl, HW5, HB5, HM5, Lib.hid (by have := HO5.out; rw [← kfl_append, List.append_assoc, ← HSN.out] at this; exact this)⟩
            · obtain rfl : i' = ns := by omega
              have h5 := hown2.out
              rw [List.take_of_length_le (l := sh) (by rw [HLS.out]; exact Nat.le_refl _), HSH.out] at h5
              have H5 := Lib.hid h5
              clear h5 hown2 hM c0 c1 hR hIq
              go_wp2
              go_roundg (G - 1)
              case measure => omega
              case rel => exact ⟨j + 1, _, _, by go_num, by omega, by omega, rfl, hbw, H5, Lib.hid (by rw [HTK.out]; intro x hx; rcases List.mem_append.1 hx with hx | hx; exact hok.out x hx; rw [List.mem_singleton.1 hx]; exact HK.out)⟩
        · by_cases k3 : k = 3
          · subst k3
            have x0 : Below wr.heap.size wr (wr.alloc (.cells #[.int .i64 3, .int .i64 p, .slice (some ⟨wr.heap.size + 1, 0, none⟩) 1 1] 64)) := (Below.refl _ _).alloc (Nat.le_refl _) _
            have x1 : Below wr.heap.size wr ((wr.alloc (.cells #[.int .i64 3, .int .i64 p, .slice (some ⟨wr.heap.size + 1, 0, none⟩) 1 1] 64)).alloc (.cells #[.int .i32 8230] 21)) := x0.alloc x0.size _
            have hr2 := new2 wr 64 21 #[.int .i64 3, .int .i64 p, .slice (some ⟨wr.heap.size + 1, 0, none⟩) 1 1] #[.int .i32 8230]
            have HRP := Lib.hid hr2.1
            have HM1 := Lib.hid ((Mid.start (B := wr.heap.size) (w4 := (wr.alloc (.cells #[.int .i64 3, .int .i64 p, .slice (some ⟨wr.heap.size + 1, 0, none⟩) 1 1] 64)).alloc (.cells #[.int .i32 8230] 21)) (u := v) fun b hb => .inl (hown.out.lt b hb).2))
            have HO1 := Lib.hid (own_below hown.out x1)
            have HBW := Lib.hid (hb.out.trans (x1.mono hb.out.size))
            have HN1 : Hid (wr.heap.size < ((wr.alloc (.cells #[.int .i64 3, .int .i64 p, .slice (some ⟨wr.heap.size + 1, 0, none⟩) 1 1] 64)).alloc (.cells #[.int .i32 8230] 21)).heap.size) := Lib.hid (by simp; omega)
            have HSH : Hid (bareL ((l.take j).map pt) ++ placed ⟨3, p, [8230]⟩ 0 [8230] = bareL ((l.take (j + 1)).map pt)) := Lib.hid (by rw [HBT.out]; rfl)
            have HLE : Hid (∀ i', (bareL ((l.take j).map pt) ++ placed ⟨3, p, [8230]⟩ 0 ([8230].take i')).length ≤ 1000000) := Lib.hid fun i' => by
              have a := HLE1.out
              have b := HTT.out
              rw [List.length_append, placed_length, List.length_take]
              rw [show (shown (pt ⟨3, p, As, ns, cs, rs⟩)).length = 1 from rfl] at a
              simp only [List.length_cons, List.length_nil]
              omega
            have HK : Hid (1 ≤ (3 : Int) ∧ (3 : Int) ≤ 3) := Lib.hid (by omega)
            have HIS : Hid (IntsAt .i32 ((wr.alloc (.cells #[.int .i64 3, .int .i64 p, .slice (some ⟨wr.heap.size + 1, 0, none⟩) 1 1] 64)).alloc (.cells #[.int .i32 8230] 21)) (some ⟨wr.heap.size + 1, 0, none⟩) [8230]) := Lib.hid (by
              intro _
              refine ⟨wr.heap.size + 1, 0, rfl, RawAt.lt hr2.2.1, fun k hk => ?_⟩
              obtain rfl : k = 0 := by simp at hk; exact hk
              exact RawAt.cell hr2.2.1 0)
            have HKP : Hid (∀ b off, (some ⟨wr.heap.size + 1, 0, none⟩ : Option Addr) = some ⟨b, off, none⟩ → 0 < 1 → b < w.heap.size ∨ wr.heap.size ≤ b) := Lib.hid fun b off he _ => .inr (by injection he with he; injection he with e1; omega)
            clear hb hown x0 x1 HIA k1 k2 k4 hr2
            obtain ⟨sh, hsh⟩ : ∃ sh, sh = [(8230 : Int)] := ⟨_, rfl⟩
            rw [← hsh] at HSH HLE HIS
            have hls : sh.length = 1 := by rw [hsh]; rfl
            clear hsh
            have HLS := Lib.hid hls
            clear hls
            go_wp2_with fail
            generalize (wr.alloc (.cells #[.int .i64 3, .int .i64 p, .slice (some ⟨wr.heap.size + 1, 0, none⟩) 1 1] 64)).alloc (.cells #[.int .i32 8230] 21) = W1 at *
            clear d0 d1 d2
            generalize wr.heap.size = N at *
            generalize (some ⟨N + 1, 0, none⟩ : Option Addr) = As3 at *
            go_loopg [4, 8, 9, 29] 1 (fun g a x y i wr => ∃ (i' : Nat) (u : Value) (m' : Nat), i = .int .i64 i' ∧ i' ≤ 1 ∧ 1 - i' ≤ g ∧ u = a ∧ Hid (Below w.heap.size w wr) ∧ Hid (Below w.heap.size W1 wr) ∧ Hid (Mid N W1 wr u) ∧ Hid (wr.ownsRow w.heap.size 58 4 u m' (kfl encC (bareL ((l.take j).map pt) ++ placed ⟨3, p, sh⟩ 0 (sh.take i')))))
            case atStart => exact ⟨0, _, _, rfl, by omega, by omega, rfl, HBW, Lib.hid (Below.refl _ _), HM1, Lib.hid (by rw [List.take_zero, placed, List.append_nil]; exact HO1.out)⟩
            case round =>
              obtain ⟨i', a, m', rfl, h3, h4, rfl, hbw, hb1, hM, hown2⟩ := hrel
              have hIq := ints_keep' HIS.out hb1.out hM.out HLS.out HKP.out
              have hR := (hM.out.mid N (Nat.le_refl _) HN1.out).trans HRP.out
              have c0 := RawAt.cell hR 0
              have c1 := RawAt.cell hR 1
              simp at c0 c1
              by_cases hl2 : i' < 1
              · have hil : i' < sh.length := by rw [HLS.out]; exact hl2
                obtain ⟨bR, offR, rfl, hbR, hcR⟩ := hIq (by omega)
                have r0 := hcR i' hil
                have hsn : placed ⟨3, p, sh⟩ 0 (sh.take (i' + 1)) = placed ⟨3, p, sh⟩ 0 (sh.take i') ++ [⟨nth sh i', 3, 0, p⟩] := by
                  rw [List.take_succ_eq_append_getElem hil, placed_snoc, nth_flat hil]
                  congr 3
                  rw [List.length_take, Nat.min_eq_left (by omega)]
                  simp
                have HSN := Lib.hid hsn
                have hlen : m' ≤ 1000000 := by
                  have := own_len encC_len (by omega) hown2.out
                  rw [← this]
                  exact HLE.out i'
                have i1 : (0 : Int) ≤ i' := by omega
                have i2 : (i' : Int) < 1 := by omega
                clear hcR hsn hIq hR
                generalize nth sh i' = r at *
                have x3 : Below wr.heap.size wr (wr.alloc (.cells #[.int .i32 r, .int .i64 3, .int .i64 0, .int .i64 (p)] 58)) := (Below.refl _ _).alloc (Nat.le_refl _) _
                have HOW := Lib.hid (own_below hown2.out x3)
                have HM3 := Lib.hid (hM.out.below x3)
                have HBB := Lib.hid hbw.out.size
                have HW3 := Lib.hid (hbw.out.trans (x3.mono hbw.out.size))
                have HB3 := Lib.hid (hb1.out.trans (x3.mono hbw.out.size))
                have HRW : Hid (RowsAt encC 4 (wr.alloc (.cells #[.int .i32 r, .int .i64 3, .int .i64 0, .int .i64 (p)] 58)) (some ⟨wr.heap.size, 0, none⟩) [⟨r, 3, 0, p⟩]) := Lib.hid (row_new encC_len wr [⟨r, 3, 0, p⟩] #[.int .i32 r, .int .i64 3, .int .i64 0, .int .i64 (p)] 58 rfl)
                clear hbw hb1 hM hown2 x3
                go_wp2_with (at_builtin; go_loud (refine wpList_appK (enc := encC) cell_slt encC_len (by omega) rfl (.tmp 34) (.tmp 45) rfl rfl HOW.out (some ⟨wr.heap.size, 0, none⟩) 1 1 [⟨r, 3, 0, p⟩] rfl HRW.out ⟨Nat.le_refl _, fun h => by cases h⟩ rfl (kfl_one' encC_one _) (by simp only [maxLen]; omega) (by omega) (by have := HBB.out; simp; omega) ?_; intro v5 w5 hown5 hg5 hn5))
                have HO5 := Lib.hid hown5
                have HB5 := Lib.hid (HB3.out.grown hg5 (by have := HBB.out; simp; omega) (fun k hk => (HOW.out.lt k hk).1))
                have HW5 := Lib.hid (HW3.out.grown hg5 (by have := HBB.out; simp; omega) (fun k hk => (HOW.out.lt k hk).1))
                have HM5 := Lib.hid (HM3.out.grown hg5 hn5)
                clear hown5 hg5 hn5
                go_roundg (gk - 1)
                case measure => omega
                case rel => exact ⟨i' + 1, _, _, by go_num, by omega, by omega, rfl, HW5, HB5, HM5, Lib.hid (by have := HO5.out; rw [← kfl_append, List.append_assoc, ← HSN.out] at this; exact this)⟩
              · obtain rfl : i' = 1 := by omega
                have h5 := hown2.out
                rw [List.take_of_length_le (l := sh) (by rw [HLS.out]; exact Nat.le_refl _), HSH.out] at h5
                have H5 := Lib.hid h5
                clear h5 hown2 hM c0 c1 hR hIq
                go_wp2
                go_roundg (G - 1)
                case measure => omega
                case rel => exact ⟨j + 1, _, _, by go_num, by omega, by omega, rfl, hbw, H5, Lib.hid (by rw [HTK.out]; intro x hx; rcases List.mem_append.1 hx with hx | hx; exact hok.out x hx; rw [List.mem_singleton.1 hx]; exact HK.out)⟩
          · have k5 : (k == 2) = false := by simpa using k2
            have k6 : (k == 3) = false := by simpa using k3
            have HN := Lib.hid (HNK.out (by omega))
            clear k1 k2 k3
            go_wp2
            go_ret2
            exact ⟨.inr ⟨HN.out, rfl⟩, hb.out.alloc hb.out.size _⟩
    · obtain rfl : j = n := by omega
      have e1 : l.take j = l := List.take_of_length_le (by rw [HL.out]; exact Nat.le_refl _)
      have h5 := hown.out
      have h6 := hok.out
      rw [e1] at h5 h6
      have H5 := Lib.hid h5
      have H6 := Lib.hid h6
      obtain ⟨A5, c5, rfl⟩ := own_form h5
      clear h5 h6 hown hok e1
      go_wp2
      go_ret2
      exact ⟨.inl ⟨H6.out, _, _, rfl, H5.out⟩, hb.out⟩
end Go.Proofs.YtbalafgoengppaaDoor
