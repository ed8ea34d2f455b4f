/- Anchors: the document's Shifted; places behind a patch. -/
import Derived.Test.YtncbhbjhfmbbkaaAnG
import Derived.Test.YtncbhbjhfmbbkaaAnJ
namespace Go.Proofs.Ytncbhbjhfmbbkaa
open Go.RowKit Go.Sort
set_option linter.unusedVariables false
theorem ashift_snoc (p : List Ch) (l : List An) (a : An) : ashift p (l ++ [a]) = ashift p l ++ [⟨a.id, mp 0 0 p a.pl a.bi, a.bi⟩] := by unfold ashift; rw [List.map_append]; rfl
theorem mp_low {M : Int} : ∀ {p q : Int} {fi : Bool} {l : List Ch}, nrm M p q fi l → ∀ (y bj : Int), p ≤ y → q ≤ mp p q l y bj
  | p, q, fi, [], _, y, bj, h => by unfold mp; omega
  | p, q, fi, c :: l, hn, y, bj, h => by
    obtain ⟨⟨c1, c2, c3, c4, c5, c6, c7, c8, c9, c10⟩, hl⟩ := hn
    unfold mp
    split
    · omega
    · split
      · split <;> omega
      · have := mp_low hl y bj (by omega)
        omega
/-- The last end of old, from a place on. -/
def lst (p : Int) : List Ch → Int
  | [] => p
  | c :: l => lst c.ob l
theorem lst_ge {M : Int} : ∀ {p q : Int} {fi : Bool} {l : List Ch}, nrm M p q fi l → p ≤ lst p l
  | p, q, fi, [], _ => Int.le_refl _
  | p, q, fi, c :: l, hn => by
    obtain ⟨⟨c1, c2, c3, c4, c5, c6, c7, c8, c9, c10⟩, hl⟩ := hn
    have := lst_ge hl
    unfold lst
    omega
theorem lst_olast : ∀ (c : Ch) (l : List Ch), lst c.ob l = olast (c :: l)
  | c, [] => rfl
  | c, d :: l => by
    unfold lst
    rw [lst_olast d l]
    simp [olast]
theorem dlt_cons (c : Ch) (l : List Ch) : dlt (c :: l) = ((c.nb - c.na) - (c.ob - c.oa)) + dlt l := by simp [dlt]
theorem mp_high {M : Int} : ∀ {p q : Int} {fi : Bool} {l : List Ch}, nrm M p q fi l → ∀ (n y bj : Int), y ≤ n → lst p l ≤ n → p ≤ n → mp p q l y bj ≤ n - p + q + dlt l ∧ q ≤ n - p + q + dlt l
  | p, q, fi, [], _, n, y, bj, h, _, hp => by unfold mp; simp [dlt]; omega
  | p, q, fi, c :: l, hn, n, y, bj, h, hl, hp => by
    obtain ⟨⟨c1, c2, c3, c4, c5, c6, c7, c8, c9, c10⟩, hll⟩ := hn
    unfold lst at hl
    have hg := lst_ge hll
    have ih := mp_high hll n y bj h hl (by omega)
    rw [dlt_cons]
    unfold mp
    refine ⟨?_, by omega⟩
    split
    · omega
    · split
      · split <;> omega
      · omega
theorem lst_le {n : Int} (h0 : 0 ≤ n) {p : List Ch} (h : ¬ n < olast p) : lst 0 p ≤ n := by
  cases p with
  | nil => exact h0
  | cons c l => rw [show lst 0 (c :: l) = lst c.ob l from rfl, lst_olast]; omega
theorem aw_fine {n : Int} : ∀ {l seen : List An}, (∀ a ∈ l, aOk n a) → Apart (seen ++ l) → aw n seen l = 0
  | [], seen, _, _ => rfl
  | a :: l, seen, h, hp => by
    unfold aw
    rw [if_neg (fun g => g (h a (by simp)))]
    have h1 : (seen.any fun b => b.id == a.id) = false := by
      rw [List.any_eq_false]
      intro b hb
      have := (List.pairwise_append.1 hp).2.2 b hb a (by simp)
      simpa using this
    rw [h1]
    exact aw_fine (fun x hx => h x (List.mem_cons_of_mem _ hx)) (by simpa using hp)
theorem apart_ord {l : List An} (h : Apart l) : Apart (ord alt l) := (ord_perm alt alt_swo l).symm.pairwise h (fun h => Ne.symm h)
theorem apart_ashift {p : List Ch} {l : List An} (h : Apart l) : Apart (ashift p l) := by
  unfold ashift
  exact List.Pairwise.map _ (fun a b h => h) h
/-- Why a shift by a normal patch is refused, or that it isn't. -/
theorem ashift_wrong {n : Int} {p : List Ch} {l : List An} (h0 : 0 ≤ n) (hn : nrm M40 0 0 true p) (ho : ¬ n < olast p) (hl : l.length ≤ 200) (ha : Apart l) (hk : ∀ a ∈ l, aOk n a) : awrong (n + dlt p) (ashift p l) = if 1099511627776 < n + dlt p then 1 else 0 := by
  have hlst := lst_le h0 ho
  have hz := (mp_high hn n 0 0 h0 hlst h0).2
  unfold awrong
  by_cases g : 1099511627776 < n + dlt p
  · rw [if_pos (.inr g), if_pos g]
  · rw [if_neg (by omega), if_neg (by rw [ashift_len]; omega), if_neg g]
    refine aw_fine (fun x hx => ?_) (by rw [List.nil_append]; exact apart_ashift ha)
    obtain ⟨a, ham, rfl⟩ := List.mem_map.1 hx
    obtain ⟨k1, k2, k3⟩ := hk a ham
    have h1 := mp_low hn a.pl a.bi k1
    have h2 := (mp_high hn n a.pl a.bi k2 hlst h0).1
    exact ⟨h1, by simp only; omega, k3⟩
/-- The order of what is shifted does not ask for the order before. -/
theorem ord_ashift {p : List Ch} {l : List An} (h : Apart l) : ord alt (ashift p (ord alt l)) = ord alt (ashift p l) := by
  refine ord_uniq alt alt_swo ((ord_perm alt alt_swo _).trans ((ord_perm alt alt_swo l).map _)) (ord_sorted alt alt_swo _) ?_
  intro x hx y hy g1 g2
  refine apart_inj (apart_ashift h) x hx y hy ?_
  simp only [alt, decide_eq_false_iff_not] at g1 g2
  omega
set_option maxHeartbeats 16000000 in
set_option maxRecDepth 100000 in
theorem rShifted_any (A : Option Addr) (m c : Nat) (o : List An) (PA : Option Addr) (pm pc : Nat) (p : List Ch) (w : World) (hA : RowsAt encA 3 w A o) (hl : o.length = m) (hm : m ≤ 100000) (hok : ∀ a ∈ o, 0 ≤ a.pl ∧ a.pl ≤ 1099511627776) (hP : ChsAt w PA p) (hp : p.length = pm) (hpm : pm ≤ 1000) (hn : nrm M40 0 0 true p) :
    Calls Try.prog 28 #[.slice A m c, .slice PA pm pc] w fun e w' => ∃ A' c', e = .returned (.slice A' m c') ∧ RowsAt encA 3 w' A' (ord alt (ashift p o)) ∧ Below w.heap.size w w' := by
  have HR := Lib.hid hA
  have HM := Lib.hid hl
  have HOK := Lib.hid hok
  have ST := ran_slt
  have CM0 := Lib.hid fun (x y : Int) (W : World) (hW : Below w.heap.size w W) (g1 : 0 ≤ x) (g2 : x ≤ 1099511627776) => rMap_any PA pm pc p x y W (hP.below hW) hp (by omega) (nrm_mem hn) g1 g2
  have CM : Hid (∀ (x y : Int) (W : World), Below w.heap.size w W → 0 ≤ x → x ≤ 1099511627776 → Calls Try.prog 65 #[.slice PA pm pc, .int .i64 x, .int .i64 y] W fun e w' => e = .returned (.int .i64 (mp 0 0 p x y)) ∧ Below W.heap.size W w') := Lib.hid fun x y W hW g1 g2 => by
    rw [← mpR_mp (p := 0) (q := 0) hn x y]
    exact CM0.out x y W hW g1 g2
  have CO := Lib.hid fun (A' : Option Addr) (c' : Nat) (W : World) (h1 : RowsAt encA 3 W A' (ashift p o)) => rOrdered_any A' m c' (ashift p o) W h1 (by rw [ashift_len, HM.out]) hm
  clear hA hl hok hP hp hn CM0
  go_enter Try.func28, Try.ntmps28
  go_wp2_with fail
  go_loopg [5, 10] m (fun g v i wr => ∃ (k : Nat), i = .int .i64 k ∧ k ≤ m ∧ m - k ≤ g ∧ Hid (Below w.heap.size w wr) ∧ Hid (wr.ownsRow w.heap.size 35 3 v k (kfl encA (ashift p (o.take k)))))
  case atStart => exact ⟨0, rfl, by omega, by omega, Lib.hid (Below.refl _ _), Lib.hid (World.ownsRow_nil _ _ _ _)⟩
  case round =>
    obtain ⟨k, rfl, h1, h2, hb, hown⟩ := hrel
    by_cases hlt : k < m
    · have hkl : k < o.length := by rw [HM.out]; exact hlt
      obtain ⟨bA, off, rfl, hbA, hce⟩ := (HR.out.below hb.out).at1 hkl
      have f0 := hce 0 (by omega)
      have f1 := hce 1 (by omega)
      have f2 := hce 2 (by omega)
      rw [Nat.add_zero] at f0
      have htk : ashift p (o.take (k + 1)) = ashift p (o.take k) ++ [⟨o[k].id, mp 0 0 p o[k].pl o[k].bi, o[k].bi⟩] := by rw [List.take_succ_eq_append_getElem hkl, ashift_snoc]
      have HTK := Lib.hid htk
      have hoa := HOK.out _ (List.getElem_mem hkl)
      clear htk hce
      generalize o[k] = a at *
      simp [encA] at f0 f1 f2
      have i1 : (0 : Int) ≤ k := by omega
      have i2 : (k : Int) < m := by omega
      have x3 : Below wr.heap.size wr (wr.alloc (.cells #[.int .i64 a.id, .int .i64 a.pl, .int .i64 a.bi] 35)) := (Below.refl _ _).alloc (Nat.le_refl _) _
      have R3 : RawAt 35 (wr.alloc (.cells #[.int .i64 a.id, .int .i64 a.pl, .int .i64 a.bi] 35)) wr.heap.size #[.int .i64 a.id, .int .i64 a.pl, .int .i64 a.bi] := heap_alloc_new wr _
      have HB3 := Lib.hid (hb.out.trans (x3.mono hb.out.size))
      have HO3 := Lib.hid (own_below hown.out x3)
      obtain ⟨A3, c3, rfl⟩ := own_form hown.out
      have hlt4 := hown.out.lt
      have CMK := Lib.hid fun (W : World) (hW : Below w.heap.size w W) => CM.out a.pl a.bi W hW hoa.1 hoa.2
      generalize mp 0 0 p a.pl a.bi = z at *
      have MK : Hid (∀ W : World, RawAt 35 W wr.heap.size #[.int .i64 a.id, .int .i64 a.pl, .int .i64 a.bi] → (fun W : World => W.cell? ⟨wr.heap.size, 0, none⟩ = some (.int .i64 a.id) ∧ W.cell? ⟨wr.heap.size, 1, none⟩ = some (.int .i64 a.pl) ∧ W.cell? ⟨wr.heap.size, 2, none⟩ = some (.int .i64 a.bi)) W) := Lib.hid fun W h1 => ⟨RawAt.cell h1 0, RawAt.cell h1 1, RawAt.cell h1 2⟩
      clear hown hb
      go_wp2_with fail
      generalize wr.alloc (.cells #[.int .i64 a.id, .int .i64 a.pl, .int .i64 a.bi] 35) = W3 at *
      have hW2 : Below W3.heap.size W3 W3.drew := (Below.refl _ _).drew
      have Rx : RawAt 35 W3.drew wr.heap.size #[.int .i64 a.id, .int .i64 a.pl, .int .i64 a.bi] := R3
      refine wp_region_noPanic ?_
      refine wp_region_held_drew (S := (fun W => W.cell? ⟨wr.heap.size, 0, none⟩ = some (.int .i64 a.id) ∧ W.cell? ⟨wr.heap.size, 1, none⟩ = some (.int .i64 a.pl) ∧ W.cell? ⟨wr.heap.size, 2, none⟩ = some (.int .i64 a.bi))) (by kernel_rfl) (MK.out _ Rx) (fun hHeld => ?_)
      refine wpAnyH_take (i := 0) (v := ?_) rfl (by kernel_rfl) (by kernel_rfl) (by kernel_rfl) (fun _ _ _ h => h) (Or.inl ⟨by rfl, ?_⟩) hHeld ?_
      rotate_left
      · intro w hSw
        (try dsimp only at hSw)
        go_simp
        try with_reducible rfl
      go_simp
      refine wpAnyH_take (i := 1) (v := ?_) rfl (by kernel_rfl) (by kernel_rfl) (by kernel_rfl) (fun _ _ _ h => h) (Or.inl ⟨by rfl, ?_⟩) hHeld ?_
      rotate_left
      · intro w hSw
        (try dsimp only at hSw)
        go_simp
        try with_reducible rfl
      go_simp
      refine wpAnyH_take (i := 2) (v := ?_) rfl (by kernel_rfl) (by kernel_rfl) (by kernel_rfl) (fun _ _ _ h => h) (Or.inl ⟨by rfl, ?_⟩) hHeld ?_
      rotate_left
      · intro w hSw
        (try dsimp only at hSw)
        go_simp
        try with_reducible rfl
      go_simp
      refine wpAnyH_take (i := 3) (v := ?_) rfl (by kernel_rfl) (by kernel_rfl) (by kernel_rfl) (fun _ _ _ h => h) (Or.inl ⟨by rfl, ?_⟩) hHeld ?_
      rotate_left
      · intro w hSw
        (try dsimp only at hSw)
        go_simp
        try with_reducible rfl
      go_simp
      refine wpAnyH_take (i := 4) (v := ?_) rfl (by kernel_rfl) (by kernel_rfl) (by kernel_rfl) (fun _ _ _ h => h) (Or.inl ⟨by rfl, ?_⟩) hHeld ?_
      rotate_left
      · intro w hSw
        (try dsimp only at hSw)
        go_simp
        try with_reducible rfl
      go_simp
      refine wpAnyH_take (i := 5) (v := ?_) rfl (by kernel_rfl) (by kernel_rfl) (by kernel_rfl) (fun _ _ _ h => h) (Or.inl ⟨by rfl, ?_⟩) hHeld ?_
      rotate_left
      · intro w hSw
        (try dsimp only at hSw)
        go_simp
        try with_reducible rfl
      go_simp
      refine wpAnyH_take (i := 6) (v := ?_) rfl (by kernel_rfl) (by kernel_rfl) (by kernel_rfl) (fun _ _ _ h => h) (Or.inl ⟨by rfl, ?_⟩) hHeld ?_
      rotate_left
      · intro w hSw
        (try dsimp only at hSw)
        go_simp
        try with_reducible rfl
      go_simp
      refine wpAnyH_take (i := 7) (v := ?_) rfl (by kernel_rfl) (by kernel_rfl) (by kernel_rfl) (fun _ _ _ h => h) (Or.inl ⟨by rfl, ?_⟩) hHeld ?_
      rotate_left
      · intro w hSw
        (try dsimp only at hSw)
        go_simp
        try with_reducible rfl
      go_simp
      refine wpAnyH_take (i := 9) (v := ?_) rfl (by kernel_rfl) (by kernel_rfl) (by kernel_rfl) (fun _ _ _ h => h) (Or.inl ⟨by rfl, ?_⟩) hHeld ?_
      rotate_left
      · intro w hSw
        (try dsimp only at hSw)
        go_simp
        try with_reducible rfl
      go_simp
      refine wpAnyH_take (i := 10) (v := ?_) rfl (by kernel_rfl) (by kernel_rfl) (by kernel_rfl) (fun _ _ _ h => h) (Or.inl ⟨by rfl, ?_⟩) hHeld ?_
      rotate_left
      · intro w hSw
        (try dsimp only at hSw)
        go_simp
        try with_reducible rfl
      go_simp
      refine wpAnyH_ready (rs := [8]) (by kernel_rfl) (by simp) ?_
      refine AllReadyH.cons rfl (fun K hK => ?_) ?_
      rotate_left
      · exact AllReadyH.nil
      go_simp
      go_wp2_with (first | (go_at_call 65; (with_reducible refine (CMK.out _ (HB3.out.trans (hW2.mono HB3.out.size))).mono ?_); rintro e w9 ⟨rfl, b9⟩; have Rx := RawAt.below Rx b9 Rx.lt; have hW2 := hW2.trans (b9.mono hW2.size)))
      refine hK.out _ _ (by first | (with_reducible exact MK.out _ Rx) | exact MK.out _ (RawAt.below Rx ((Below.refl _ _).alloc (Nat.le_refl _) _) Rx.lt)) (fun hHeld => ?_)
      clear hK K
      go_simp
      refine wpAnyH_take (i := 11) (v := ?_) rfl (by kernel_rfl) (by kernel_rfl) (by kernel_rfl) (fun _ _ _ h => h) (Or.inl ⟨by rfl, ?_⟩) hHeld ?_
      rotate_left
      · intro w hSw
        (try dsimp only at hSw)
        go_simp
        try with_reducible rfl
      go_simp
      refine wpAnyH_ready (rs := [12]) (by kernel_rfl) (by simp) ?_
      refine AllReadyH.cons rfl (fun K hK => ?_) ?_
      rotate_left
      · exact AllReadyH.nil
      go_simp
      go_wp2_with (first | (go_at_call 65; (with_reducible refine (CMK.out _ (HB3.out.trans (hW2.mono HB3.out.size))).mono ?_); rintro e w9 ⟨rfl, b9⟩; have Rx := RawAt.below Rx b9 Rx.lt; have hW2 := hW2.trans (b9.mono hW2.size)))
      refine hK.out _ _ (by first | (with_reducible exact MK.out _ Rx) | exact MK.out _ (RawAt.below Rx ((Below.refl _ _).alloc (Nat.le_refl _) _) Rx.lt)) (fun hHeld => ?_)
      clear hK K
      go_simp
      refine wpAnyH_ready (rs := [13]) (by kernel_rfl) (by simp) ?_
      refine AllReadyH.cons rfl (fun K hK => ?_) ?_
      rotate_left
      · exact AllReadyH.nil
      have x9 : Below w9.heap.size w9 (w9.alloc (.cells #[.int .i64 a.id, .int .i64 z, .int .i64 a.bi] 35)) := (Below.refl _ _).alloc (Nat.le_refl _) _
      have R9 : RawAt 35 (w9.alloc (.cells #[.int .i64 a.id, .int .i64 z, .int .i64 a.bi] 35)) w9.heap.size #[.int .i64 a.id, .int .i64 z, .int .i64 a.bi] := heap_alloc_new w9 _
      have hrow := rows_of_block (enc := encA) (k := 3) encA_len R9 (l := [⟨a.id, z, a.bi⟩]) rfl
      have HB9 := HB3.out.trans (hW2.mono HB3.out.size)
      have HB10 := HB9.trans (x9.mono HB9.size)
      refine step_appK (enc := encA) ST encA_len (by omega) rfl (.tmp 14) (.tmp 26) rfl (base := w.heap.size) (v := .slice A3 k c3) (n := k) (xs := kfl encA (ashift p (o.take k))) (by simp [Act.eval]) (own_below (own_below HO3.out hW2) x9) (some ⟨w9.heap.size, 0, none⟩) 1 1 [⟨a.id, z, a.bi⟩] (by simp [Act.eval]) hrow ⟨Nat.le_refl _, fun h => by cases h⟩ rfl (kfl_one' encA_one _) (by simp only [maxLen]; omega) (by omega) HB10.size ?_
      intro v5 w5 hown5 hg5 hor5
      have HB5 := HB10.grown hg5 HB10.size (fun j hj => (hlt4 j hj).1)
      have Rx10 := RawAt.below Rx x9 Rx.lt
      have Rx : RawAt 35 w5 wr.heap.size #[.int .i64 a.id, .int .i64 a.pl, .int .i64 a.bi] := (hg5.block wr.heap.size Rx10.lt (fun hk => by have := (hlt4 _ hk.symm).2; omega)).trans Rx10
      refine hK.out _ _ (by first | (with_reducible exact MK.out _ Rx) | exact MK.out _ (RawAt.below Rx ((Below.refl _ _).alloc (Nat.le_refl _) _) Rx.lt)) (fun hHeld => ?_)
      clear hK K
      go_simp
      refine wpAnyH_take (i := 14) (v := ?_) rfl (by kernel_rfl) (by kernel_rfl) (by kernel_rfl) (fun _ _ _ h => h) (Or.inl ⟨by rfl, ?_⟩) hHeld ?_
      rotate_left
      · intro w hSw
        (try dsimp only at hSw)
        go_simp
        try with_reducible rfl
      go_simp
      refine wpAnyH_done (by kernel_rfl) ?_ _
      refine NoPanic.normal ?_
      have HB5 := Lib.hid HB5
      have HO5 : Hid (w5.ownsRow w.heap.size 35 3 v5 (k + 1) (kfl encA (ashift p (o.take (k + 1))))) := Lib.hid (by rw [HTK.out, kfl_append]; exact hown5)
      clear hown5 hg5 hor5 HB10 HB9 hrow R9 x9 Rx10 Rx hW2 MK HO3 HB3 R3
      go_wp2
      go_roundg (gk - 1)
      case measure => omega
      case rel => exact ⟨k + 1, by go_num, by omega, by omega, HB5, HO5⟩
    · obtain rfl : m = k := by omega
      have e2 : o.take m = o := List.take_of_length_le (by rw [HM.out]; exact Nat.le_refl _)
      have ho2 := hown.out
      rw [e2] at ho2
      have hlp : (ashift p o).length = m := by rw [ashift_len, HM.out]
      rw [← hlp] at ho2
      obtain ⟨A5, c5, e5, hR5, _, _⟩ := rows_of_own encA_len (by omega) ho2
      rw [hlp] at e5
      subst e5
      have CO5 := Lib.hid (CO.out A5 c5 wr hR5)
      have HB := Lib.hid hb.out
      clear ho2 hown hR5 hb
      go_wp2_with fail
      with_reducible refine (CO5.out).mono ?_
      rintro e6 w6 ⟨v6, rfl, o6, b6⟩
      have hl6 : (ord alt (ashift p o)).length = m := by rw [(ord_perm alt alt_swo _).length_eq, ashift_len, HM.out]
      have o6 := o6
      rw [← hl6] at o6
      obtain ⟨A6, c6, e6, hR6, _, _⟩ := rows_of_own encA_len (by omega) o6
      rw [hl6] at e6
      subst e6
      have HB6 := Lib.hid (HB.out.trans (b6.mono HB.out.size))
      have HR6 := Lib.hid hR6
      clear o6 hR6 b6 CO5
      go_wp2
      go_ret
      exact ⟨A6, c6, rfl, HR6.out, HB6.out⟩
end Go.Proofs.Ytncbhbjhfmbbkaa
