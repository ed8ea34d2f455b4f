/- The document's lines of a text: the contract of bodkinref08.Spans. The document's lines of a text: the contract of bodkinref08.PointAt. -/
import Derived.Test.YtglalmhpgdgeeaaGreatLnA
import Derived.Test.YtglalmhpgdgeeaaGreatBase
namespace Go.Proofs.YtglalmhpgdgeeaaGreat
open Go.RowKit
theorem span_info : (Tryz.prog.info? 32).map (fun i => (i.zero, i.size, i.bytes)) = some (some (.agg #[.int .i64 0, .int .i64 0]), 2, 16) := by kernel_rfl
/-- Rows' places as values. -/
def sflat (o : List (Int × Int)) : List Value := o.flatMap fun x => [.int .i64 x.1, .int .i64 x.2]
theorem sflat_append (a b : List (Int × Int)) : sflat (a ++ b) = sflat a ++ sflat b := by simp [sflat]
theorem sflat_length (o : List (Int × Int)) : (sflat o).length = o.length * 2 := by
  induction o with
  | nil => rfl
  | cons x o ih => rw [show sflat (x :: o) = [.int .i64 x.1, .int .i64 x.2] ++ sflat o from rfl, List.length_append, ih, List.length_cons]; simp; omega
def oth (o : List (Int × Int)) (k : Nat) : Int × Int := o.getD k (0, 0)
theorem sflat_at : ∀ (o : List (Int × Int)) (k : Nat), k < o.length → (sflat o)[k * 2]? = some (.int .i64 (oth o k).1) ∧ (sflat o)[k * 2 + 1]? = some (.int .i64 (oth o k).2)
  | x :: o, 0, _ => ⟨rfl, rfl⟩
  | x :: o, k + 1, h => by
    have := sflat_at o k (by simpa using h)
    rw [show (k + 1) * 2 = k * 2 + 2 from by omega, show k * 2 + 2 + 1 = k * 2 + 1 + 2 from by omega]
    simpa [sflat, oth, List.getD] using this
/-- Rows' places lie from an address on. -/
def SpsAt (w : World) (A : Option Addr) (o : List (Int × Int)) : Prop :=
  0 < o.length → ∃ b off, A = some ⟨b, off, none⟩ ∧ b < w.heap.size ∧ ∀ k, k < o.length → w.cell? ⟨b, off + k * 2, none⟩ = some (.int .i64 (oth o k).1) ∧ w.cell? ⟨b, off + k * 2 + 1, none⟩ = some (.int .i64 (oth o k).2)
theorem SpsAt.below {w w' : World} {A : Option Addr} {o : List (Int × Int)} (h : SpsAt w A o) (hb : Below w.heap.size w w') : SpsAt w' A o := by
  intro hl
  obtain ⟨b, off, rfl, h1, h2⟩ := h hl
  refine ⟨b, off, rfl, Nat.lt_of_lt_of_le h1 hb.size, fun k hk => ?_⟩
  obtain ⟨c0, c1⟩ := h2 k hk
  have H := (old_cells hb).1
  exact ⟨(H _ _ h1).trans c0, (H _ _ h1).trans c1⟩
theorem sps_of_own {w : World} {base n : Nat} {e : TypeId} {v : Value} {o : List (Int × Int)} (h : w.ownsRow base e 2 v n (sflat o)) : ∃ A c, v = .slice A n c ∧ SpsAt w A o ∧ o.length = n ∧ Caps A n c := by
  have hl : o.length = n := by have := h.1; rw [sflat_length] at this; omega
  rcases h.2 with ⟨rfl, rfl⟩ | ⟨g, cap, cur, rfl, hbg, hh, hnc, _, hsz, htake⟩
  · exact ⟨none, 0, rfl, fun hp => by omega, hl, Nat.le_refl _, fun _ => rfl⟩
  · refine ⟨_, cap, rfl, fun _ => ⟨g, 0, rfl, block_lt hh, fun k hk => ?_⟩, hl, hnc, fun h => by cases h⟩
    obtain ⟨c0, c1⟩ := sflat_at o k hk
    have key : ∀ j u, (sflat o)[j]? = some u → w.cell? ⟨g, 0 + j, none⟩ = some u := fun j u hu => by
      rw [cell_of_row w g _ cur e (0, 0) hh, ← Array.getElem?_toList, Nat.zero_add]
      have hj : j < n * 2 := by
        rcases Nat.lt_or_ge j (n * 2) with h9 | h9
        · exact h9
        · rw [List.getElem?_eq_none (by rw [sflat_length]; omega)] at hu; cases hu
      rw [← htake, List.getElem?_take, if_pos hj] at hu
      exact hu
    exact ⟨key _ _ c0, by rw [Nat.add_assoc]; exact key _ _ c1⟩
/-- Rows' places, as they are: of the rows whose breaks stand in the first i runes. -/
structure RwsOk (l : List Int) (i : Nat) (o : List (Int × Int)) : Prop where
  len : (o.length : Int) = szl (l.take i) 2
  at_ : ∀ k, k < o.length → ∃ j j' : Nat, AheadIs l 2 k j ∧ AheadIs l 2 (k + 1) j' ∧ oth o k = ((j : Int), (j' : Int) - 1)
theorem oth_snoc (o : List (Int × Int)) (x : Int × Int) (k : Nat) : oth (o ++ [x]) k = if k < o.length then oth o k else if k = o.length then x else (0, 0) := by
  unfold oth
  simp only [List.getD]
  split
  · rw [List.getElem?_append_left (by omega)]
  · split
    · subst_vars; simp
    · rw [List.getElem?_eq_none (by simp; omega)]; rfl
/-- All rows' places. -/
structure SpsOk (l : List Int) (o : List (Int × Int)) : Prop where
  len : (o.length : Int) = (brks l : Int) + 1
  at_ : ∀ k, k < o.length → SpanIs l k (oth o k).1 (oth o k).2 0
theorem RwsOk.last {l : List Int} {o : List (Int × Int)} (h : RwsOk l l.length o) {f : Nat} (hf : AheadIs l 2 (brks l) f) : SpsOk l (o ++ [((f : Int), (l.length : Int))]) := by
  have hl := h.len
  rw [szl_all, brks_szl] at hl
  refine ⟨by rw [List.length_append]; simp; exact hl, fun k hk => ?_⟩
  rw [List.length_append] at hk
  simp at hk
  rw [oth_snoc]
  by_cases hk2 : k < o.length
  · rw [if_pos hk2]
    obtain ⟨j, j', h1, h2, h3⟩ := h.at_ k hk2
    rw [h3]
    exact .inr ⟨by omega, by omega, rfl, j, h1, rfl, .inr ⟨by omega, j', h2, rfl⟩⟩
  · rw [if_neg hk2, if_pos (by omega)]
    have hkb : (k : Int) = brks l := by omega
    exact .inr ⟨by omega, by omega, rfl, f, by rw [hkb]; exact hf, rfl, .inl ⟨hkb, rfl⟩⟩
set_option maxHeartbeats 4000000 in
set_option maxRecDepth 100000 in
theorem f8spans (A : Option Addr) (n c : Nat) (l : List Int) (w : World) (hA : IntsAt .i32 w A l) (hl : l.length = n) (hn : n ≤ 100000) :
    Calls Tryz.prog 13 #[.slice A n c] w fun e w' => ∃ A' c' o, e = .returned (.slice A' o.length c') ∧ SpsOk l o ∧ SpsAt w' A' o ∧ Caps A' o.length c' ∧ Below w.heap.size w w' := by
  have HA := Lib.hid hA; clear hA
  have HL := Lib.hid hl; clear hl
  go_enter Tryz.func13, Tryz.ntmps13
  obtain ⟨i0, hi0, hz0, hz1, hz2⟩ := info_parts span_info
  go_wp2_with fail
  go_loopg [3, 4, 9] n (fun g v x i wr => ∃ (j m f : Nat) (o : List (Int × Int)), i = .int .i64 j ∧ j ≤ n ∧ n - j ≤ g ∧ Below w.heap.size w wr ∧ m ≤ j ∧ f ≤ j ∧ x = .int .i64 f ∧ Hid (wr.ownsRow w.heap.size 32 2 v m (sflat o)) ∧ Hid (o.length = m) ∧ Hid (RwsOk l j o) ∧ Hid (AheadIs l 2 m f))
  case atStart => exact ⟨0, 0, 0, [], rfl, by omega, by omega, Below.refl _ _, Nat.le_refl _, Nat.le_refl _, rfl, Lib.hid (World.ownsRow_nil _ _ _ _), Lib.hid rfl, Lib.hid ⟨by rw [List.take_zero, szl_nil]; rfl, fun k hk => absurd hk (Nat.not_lt_zero _)⟩, Lib.hid (ah_zero l)⟩
  case round =>
    obtain ⟨j, m, f, o, rfl, h1, h2, hb, hmj, hfj, rfl, hown, hol, hok, hah⟩ := hrel
    have hlt4 := hown.out.lt
    have hszw := hb.size
    by_cases hlt : j < n
    · have hml : j < l.length := by rw [HL.out]; omega
      obtain ⟨bA, off, rfl, hbA, hcell⟩ := HA.out (by omega)
      have q0 := hcell j hml
      have q := ((old_cells hb).1 _ _ hbA).trans q0
      clear hcell q0
      have hst := nth_szl hml 2
      rw [szl_one2] at hst
      have d1 : decide (n ≤ j) = false := decide_eq_false (by omega)
      have i1 : (0 : Int) ≤ j := by omega
      have i2 : (j : Int) < n := by omega
      by_cases h10 : nth l j = 10
      · rw [if_pos h10] at hst
        rw [h10] at q
        have HOK := Lib.hid (show RwsOk l (j + 1) (o ++ [((f : Int), (j : Int))]) from by
          have hl0 := hok.out.len
          have hm0 := hol.out
          have hup : AheadIs l 2 ((m : Int) + 1) (j + 1) := ⟨by omega, fun i hi => by have h9 := szl_mono l 2 (show i ≤ j by omega); omega, by rw [hst]; omega⟩
          refine ⟨by rw [List.length_append, hst]; simp; omega, fun k hk => ?_⟩
          rw [List.length_append] at hk
          simp at hk
          rw [oth_snoc]
          by_cases hk2 : k < o.length
          · rw [if_pos hk2]; exact hok.out.at_ k hk2
          · rw [if_neg hk2, if_pos (by omega)]
            obtain rfl : k = m := by omega
            exact ⟨f, j + 1, hah.out, hup, by simp⟩)
        have HUP := Lib.hid (show AheadIs l 2 ((m + 1 : Nat) : Int) (j + 1) from by
          have hl0 := hok.out.len
          have hm0 := hol.out
          exact ⟨by omega, fun i hi => by have h9 := szl_mono l 2 (show i ≤ j by omega); omega, by rw [hst]; omega⟩)
        have HOL := Lib.hid (show (o ++ [((f : Int), (j : Int))]).length = m + 1 from by rw [List.length_append, hol.out]; rfl)
        have hsf := Lib.hid (show sflat (o ++ [((f : Int), (j : Int))]) = sflat o ++ [.int .i64 (f : Int), .int .i64 (j : Int)] from by rw [sflat_append]; rfl)
        clear hst h10 hok hah hol
        have a3 := hb.alloc hb.size (.cells #[.int .i64 (f : Int), .int .i64 (j : Int)] 32)
        go_wp2_with (at_builtin; refine wpList_append_own _ rfl (.tmp 16) (.tmp 20) _ rfl w.heap.size 32 i0 _ 2 16 Tryz.underlying29 hi0 hz0 hz1 hz2 rfl (by omega) _ m (sflat o) rfl (hown.out.alloc _) ⟨wr.heap.size, 0, none⟩ 1 1 [.int .i64 (f : Int), .int .i64 (j : Int)] rfl rfl (World.news_of_block (cs := #[.int .i64 (f : Int), .int .i64 (j : Int)]) (t := 32) (fr := (0, 0)) (heap_alloc_new wr _)) (by simp [Value.oneCell']) (by simp only [maxLen]; omega) (by omega) (by simp; omega) ?_; intro v4 w4 hown4 hg4 hnil4; clear hnil4)
        have hb4 : Below w.heap.size w w4 := a3.grown hg4 (by simp; omega) (fun k hk => (hlt4 k hk).1)
        have HO4 := Lib.hid hown4
        clear hown4 hg4 a3
        go_wp2
        go_roundg (gk - 1)
        case measure => omega
        case rel => exact ⟨j + 1, m + 1, j + 1, _, by go_num, by omega, by omega, hb4, by omega, Nat.le_refl _, by go_num, Lib.hid (by rw [hsf.out]; exact HO4.out), HOL, HOK, HUP⟩
      · rw [if_neg h10, Int.add_zero] at hst
        have hrb := i32_10 _ h10
        have HOK := Lib.hid (show RwsOk l (j + 1) o from ⟨by rw [hst]; exact hok.out.len, hok.out.at_⟩)
        clear hst h10 hok
        generalize nth l j = r at *
        go_wp2
        go_roundg (gk - 1)
        case measure => omega
        case rel => exact ⟨j + 1, m, f, o, by go_num, by omega, by omega, hb, by omega, by omega, rfl, hown, hol, HOK, hah⟩
    · have hj : j = n := by omega
      subst hj
      have HSP := Lib.hid (show SpsOk l (o ++ [((f : Int), (j : Int))]) from by
        have h9 := hok.out
        rw [← HL.out] at h9 ⊢
        refine h9.last ?_
        have h8 := h9.len
        rw [szl_all, brks_szl] at h8
        rw [← h8, hol.out]
        exact hah.out)
      have HOL := Lib.hid (show (o ++ [((f : Int), (j : Int))]).length = m + 1 from by rw [List.length_append, hol.out]; rfl)
      have hsf := Lib.hid (show sflat (o ++ [((f : Int), (j : Int))]) = sflat o ++ [.int .i64 (f : Int), .int .i64 (j : Int)] from by rw [sflat_append]; rfl)
      clear hok hah hol hlt
      have a3 := hb.alloc hb.size (.cells #[.int .i64 (f : Int), .int .i64 (j : Int)] 32)
      go_wp2_with (at_builtin; refine wpList_append_own _ rfl (.tmp 25) (.tmp 30) _ rfl w.heap.size 32 i0 _ 2 16 Tryz.underlying29 hi0 hz0 hz1 hz2 rfl (by omega) _ m (sflat o) rfl (hown.out.alloc _) ⟨wr.heap.size, 0, none⟩ 1 1 [.int .i64 (f : Int), .int .i64 (j : Int)] rfl rfl (World.news_of_block (cs := #[.int .i64 (f : Int), .int .i64 (j : Int)]) (t := 32) (fr := (0, 0)) (heap_alloc_new wr _)) (by simp [Value.oneCell']) (by simp only [maxLen]; omega) (by omega) (by simp; omega) ?_; intro v4 w4 hown4 hg4 hnil4; clear hnil4)
      have hb4 : Below w.heap.size w w4 := a3.grown hg4 (by simp; omega) (fun k hk => (hlt4 k hk).1)
      obtain ⟨A7, c7, e7, hI7, hl7, hC7⟩ := sps_of_own (o := o ++ [((f : Int), (j : Int))]) (by rw [hsf.out]; exact hown4)
      have HI7 := Lib.hid hI7
      have HC7 := Lib.hid hC7
      subst e7
      clear hown4 hg4 hI7 hC7 hl7 a3
      go_wp2
      go_ret
      exact ⟨A7, c7, _, by rw [HOL.out]; rfl, HSP.out, HI7.out, by rw [HOL.out]; exact HC7.out, hb4⟩
theorem cut_hd8 {P : Program} {t e : TypeId} (ht : P.underlying t = some (.slice e)) {i : TypeInfo} (hi : P.info? e = some i) (A : Option Addr) (n c k : Nat) (hk : k ≤ c) (w : World) :
    (Instr.slice t (.slice A n c) none (some (.int .i64 k)) none).run P w = .ok (.slice A k c) w := by
  have he : P.elem t = e := by simp [Program.elem, ht]
  subst he
  rw [run_slice_h _ _ _ _ _ ht _ _ (by omega) (by omega), run_sizeOf _ hi]
  have h0 : (A.map fun x => x.add 0) = A := by cases A <;> simp [Addr.add]
  simp [Result.andThen, sliced, h0]
set_option maxHeartbeats 4000000 in
set_option maxRecDepth 100000 in
theorem f8point (A : Option Addr) (n c : Nat) (l : List Int) (w : World) (hA : IntsAt .i32 w A l) (hl : l.length = n) (hc : Caps A n c) (hn : n ≤ 100000) (m : Nat) (hm : m ≤ n) :
    Calls Tryz.prog 19 #[.slice A n c, .int .i64 m] w fun e w' => ∃ r k, PointIs l m r k 0 ∧ e = .returned (.agg #[.int .i64 r, .int .i64 k]) ∧ Below w.heap.size w w' := by
  have HA := Lib.hid hA; clear hA
  have HL := Lib.hid hl; clear hl
  obtain ⟨i0, hi0, hz0, hz1, hz2⟩ := info_parts i32_info
  have hs := fun W => cut_hd8 (P := Tryz.prog) Tryz.underlying27 hi0 A n c m (by have := hc.1; omega) W
  have hcm : m ≤ c := by have := hc.1; omega
  clear hc
  obtain ⟨R0, R1, hb0, hs0⟩ := new2 w 41 41 #[.int .i64 0, .int .i64 0] #[.int .i64 0, .int .i64 0]
  have HR0 := Lib.hid R0
  have HR1 := Lib.hid R1
  clear R0 R1 hs0
  go_enter Tryz.func19, Tryz.ntmps19
  go_wp2_with fail
  generalize ((w.alloc (.cells #[.int .i64 0, .int .i64 0] 41)).alloc (.cells #[.int .i64 0, .int .i64 0] 41)) = W1 at *
  go_loopg [13] m (fun g i wr => ∃ (j f : Nat), i = .int .i64 j ∧ j ≤ m ∧ m - j ≤ g ∧ Below w.heap.size w wr ∧ f ≤ j ∧ Hid (RawAt 41 wr w.heap.size #[.int .i64 0, .int .i64 0]) ∧ Hid (RawAt 41 wr (w.heap.size + 1) #[.int .i64 (szl (l.take j) 2), .int .i64 ((j : Int) - (f : Int))]) ∧ Hid (AheadIs l 2 (szl (l.take j) 2) f))
  case atStart => exact ⟨0, 0, rfl, by omega, by omega, hb0, Nat.le_refl _, HR0, Lib.hid (by rw [List.take_zero, szl_nil]; exact HR1.out), Lib.hid (by rw [List.take_zero, szl_nil]; exact ah_zero l)⟩
  case round =>
    obtain ⟨j, f, rfl, h1, h2, hb, hfj, hA0, hB0, hah⟩ := hrel
    have hb1 : 0 ≤ szl (l.take j) 2 ∧ szl (l.take j) 2 ≤ 400000 := by
      have h3 := szl_le (l.take j) 2
      have h4 := szl_nonneg (l.take j) 2
      have h5 : (l.take j).length ≤ l.length := by rw [List.length_take]; omega
      have h6 := HL.out
      omega
    obtain ⟨b1, b2⟩ := hb1
    by_cases hlt : j < m
    · have hml : j < l.length := by rw [HL.out]; omega
      obtain ⟨bA, off, rfl, hbA, hcell⟩ := HA.out (by omega)
      have q0 := hcell j hml
      have q := ((old_cells hb).1 _ _ hbA).trans q0
      clear hcell q0
      have hst := nth_szl hml 2
      rw [szl_one2] at hst
      have f0 := RawAt.free hB0.out 0
      have f1 := RawAt.free hB0.out 1
      have p0 := RawAt.cell hB0.out 0
      have p1 := RawAt.cell hB0.out 1
      simp at p0 p1
      by_cases h10 : nth l j = 10
      · rw [if_pos h10] at hst
        rw [h10] at q
        have HUP := Lib.hid (show AheadIs l 2 (szl (l.take (j + 1)) 2) (j + 1) from ⟨by omega, fun i hi => by have h9 := szl_mono l 2 (show i ≤ j by omega); omega, Int.le_refl _⟩)
        have HST := Lib.hid hst
        clear hst h10 hah
        generalize szl (l.take j) 2 = z at *
        go_wp2
        go_roundg (gk - 1)
        case measure => omega
        case rel =>
          refine ⟨j + 1, j + 1, by go_num, by omega, by omega, (hb.setCell (p := ⟨w.heap.size + 1, 0, none⟩) (by simp) _).setCell (p := ⟨w.heap.size + 1, 1, none⟩) (by simp) _, Nat.le_refl _, Lib.hid (RawAt.set_other (RawAt.set_other hA0.out (by omega) _ _) (by omega) _ _), Lib.hid ((RawAt.set_ (RawAt.set_ hB0.out 0 (.int .i64 (z + 1))) 1 (.int .i64 0)).of_eq (by rw [HST.out]; simp)), HUP⟩
      · rw [if_neg h10, Int.add_zero] at hst
        have hrb := i32_10 _ h10
        have HST := Lib.hid hst
        clear hst h10
        generalize hz : szl (l.take j) 2 = z at *
        have HZ := Lib.hid hz
        clear hz
        generalize nth l j = r at *
        have hw : IntKind.i64.wrap ((j : Int) - (f : Int) + 1) = (j : Int) - (f : Int) + 1 := IntWalk.i64_in _ (by omega)
        go_wp2
        go_roundg (gk - 1)
        case measure => omega
        case rel =>
          refine ⟨j + 1, f, by go_num, by omega, by omega, (hb.setCell (p := ⟨w.heap.size + 1, 1, none⟩) (by simp) _), by omega, Lib.hid (RawAt.set_other hA0.out (by omega) _ _), Lib.hid ((RawAt.set_ hB0.out 1 (.int .i64 ((j : Int) - (f : Int) + 1))).of_eq (by rw [HST.out]; simp; omega)), Lib.hid (by rw [HST.out]; exact hah.out)⟩
    · have hj : j = m := by omega
      subst hj
      have H := Lib.hid (show PointIs l j (szl (l.take j) 2) ((j : Int) - (f : Int)) 0 from .inr ⟨by omega, by rw [HL.out]; omega, rfl, by rw [Int.toNat_natCast], f, hah.out, rfl⟩)
      have p0 := RawAt.cell hB0.out 0
      have p1 := RawAt.cell hB0.out 1
      have f0 := RawAt.free hA0.out 0
      have f1 := RawAt.free hA0.out 1
      have s0 := RawAt.cell hA0.out 0
      have s1 := RawAt.cell hA0.out 1
      simp at p0 p1 s0 s1
      clear hah
      generalize szl (l.take j) 2 = z at *
      go_wp2
      refine bodyPost_ret (v := .agg #[.int .i64 z, .int .i64 ((j : Int) - (f : Int))]) (by simp [results, Tryz.results19, go_sem, s0, s1]) rfl ⟨_, _, H.out, rfl, ?_⟩
      (repeat' (first | (with_reducible exact hb) | (with_reducible refine Below.setCell ?_ ?_ _) | (with_reducible refine Below.drew ?_))) <;> (simp; done)
end Go.Proofs.YtglalmhpgdgeeaaGreat
