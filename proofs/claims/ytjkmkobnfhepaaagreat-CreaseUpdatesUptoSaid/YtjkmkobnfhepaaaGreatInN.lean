/- A line's end among a text's runes is one among its bytes. Inlays: a cleaned text is short, and stays when it is cleaned again. Inlays: plain facts: what may be removed, what is left; where one is. Equal inlays, by the statements' own. Inlays: the law's long; the document's ahead and wrong. Inlays: the document's ahead and wrong. Inlays: the document's New. -/
import Derived.Test.YtjkmkobnfhepaaaGreatInD
import Derived.Test.YtjkmkobnfhepaaaGreatInA
import Derived.Test.YtjkmkobnfhepaaaGreatRDec
import Derived.Test.YtjkmkobnfhepaaaGreatKRow
namespace Go.Proofs.YtjkmkobnfhepaaaGreat
section
open Go.RowKit Go.Lib
set_option linter.unusedVariables false
theorem decodeN_high (n b0 b1 b2 b3 : Nat) (h : 128 ≤ b0) : (decodeN n b0 b1 b2 b3).1 ≠ 10 ∧ ((decodeN n b0 b1 b2 b3).2 = 1 ∨ ((decodeN n b0 b1 b2 b3).2 = 2 ∧ b1 / 64 = 2) ∨ ((decodeN n b0 b1 b2 b3).2 = 3 ∧ b1 / 64 = 2 ∧ b2 / 64 = 2) ∨ ((decodeN n b0 b1 b2 b3).2 = 4 ∧ b1 / 64 = 2 ∧ b2 / 64 = 2 ∧ b3 / 64 = 2)) := by
  rcases decodeN_shape n b0 b1 b2 b3 with ⟨c, e⟩ | ⟨c1, c2, c3, cv, e⟩ | ⟨c1, c2, c3, c4, cv, cs, e⟩ | ⟨c1, c2, c3, c4, c5, cv, cw, e⟩ | e
  · omega
  · rw [e]; exact ⟨fun h => by simp only at h; omega, .inr (.inl ⟨rfl, c3⟩)⟩
  · rw [e]; exact ⟨fun h => by simp only at h; omega, .inr (.inr (.inl ⟨rfl, c3, c4⟩))⟩
  · rw [e]; exact ⟨fun h => by simp only at h; omega, .inr (.inr (.inr ⟨rfl, c3, c4, c5⟩))⟩
  · rw [e]; exact ⟨by decide, .inl rfl⟩
theorem getD_ten {t : List UInt8} {i : Nat} (h : (t.getD i 0).toNat / 64 = 2) : t.getD i 0 ≠ 10 := by
  intro e
  rw [e] at h
  exact absurd h (by decide)
theorem decD_ten : ∀ (n : Nat) (l : List UInt8), l.length ≤ n → ((10 : Int) ∈ decD l ↔ (10 : UInt8) ∈ l)
  | n, [], _ => by simp [decD, decGo]
  | 0, b :: t, h => absurd h (by simp)
  | n + 1, b :: t, h => by
    rw [decD_step (by simp)]
    by_cases hb : b.toNat < 128
    · rw [decodeL_ascii b t hb]
      have ih := decD_ten n t (by simpa using h)
      rw [List.mem_cons, List.mem_cons, show (b :: t).drop 1 = t from rfl, ih]
      have : (10 : Int) = ((b.toNat : Nat) : Int) ↔ 10 = b := by
        constructor
        · intro e
          apply UInt8.toNat_inj.1
          show 10 = b.toNat
          omega
        · intro e; rw [← e]; rfl
      rw [this]
    · have hN := decodeN_high (b :: t).length b.toNat (t.getD 0 0).toNat (t.getD 1 0).toNat (t.getD 2 0).toNat (by omega)
      have hL : decodeL (b :: t) = decodeN (b :: t).length b.toNat (t.getD 0 0).toNat (t.getD 1 0).toNat (t.getD 2 0).toNat := by rw [decodeL_N]; rfl
      rw [← hL] at hN
      have hw := decodeL_width (b :: t)
      generalize decodeL (b :: t) = rk at *
      obtain ⟨r, k⟩ := rk
      simp only at hN hw ⊢
      obtain ⟨h1, h2⟩ := hN
      have ih := decD_ten n ((b :: t).drop k) (by rw [List.length_drop]; simp at h ⊢; omega)
      rw [List.mem_cons, ih]
      have hne : ¬ (10 : Int) = (r : Int) := by omega
      have hbne : ¬ (10 : UInt8) = b := by rintro rfl; exact hb (by decide)
      have key : ∀ (t : List UInt8) (j : Nat), (∀ i, i < j → t.getD i 0 ≠ 10) → ((10 : UInt8) ∈ t.drop j ↔ (10 : UInt8) ∈ t) := by
        intro t
        induction t with
        | nil => intro j _; simp
        | cons x t iht =>
          intro j hj
          cases j with
          | zero => simp
          | succ j =>
            have h0 := hj 0 (by omega)
            simp at h0
            rw [List.drop_succ_cons, iht j (fun i hi => by have := hj (i + 1) (by omega); simpa using this), List.mem_cons]
            constructor
            · exact .inr
            · rintro (e | e)
              · exact absurd e.symm h0
              · exact e
      simp only [hne, false_or]
      rcases h2 with h2 | ⟨h2, a⟩ | ⟨h2, a, c⟩ | ⟨h2, a, c, d⟩ <;> subst h2 <;> rw [List.drop_succ_cons, List.mem_cons, key]
      · simp [hbne]
      · intro i hi; omega
      · simp [hbne]
      · intro i hi
        obtain rfl : i = 0 := by omega
        exact getD_ten a
      · simp [hbne]
      · intro i hi
        have : i = 0 ∨ i = 1 := by omega
        rcases this with rfl | rfl
        · exact getD_ten a
        · exact getD_ten c
      · simp [hbne]
      · intro i hi
        have : i = 0 ∨ i = 1 ∨ i = 2 := by omega
        rcases this with rfl | rfl | rfl
        · exact getD_ten a
        · exact getD_ten c
        · exact getD_ten d
theorem has10_dec (s : ByteArray) : has10 s = true ↔ (10 : Int) ∈ dec s := by
  rw [dec_list, decD_ten _ _ (Nat.le_refl _)]
  unfold has10
  rw [decide_eq_true_eq]
  constructor
  · intro h
    obtain ⟨o, ho⟩ : ∃ o : Nat, indexByte s.data.toList 10 = o := ⟨(indexByte s.data.toList 10).toNat, by omega⟩
    exact List.mem_of_getElem? (indexByte_some ho).1
  · intro h
    obtain ⟨k, hk⟩ := List.mem_iff_getElem?.1 h
    have h1 := indexByte_ge s.data.toList 10
    by_cases h2 : indexByte s.data.toList 10 = -1
    · exact absurd hk (indexByte_none h2 k)
    · omega
end
section
open Go.RowKit Go.Sort
set_option linter.unusedVariables false
theorem dec_again (s : ByteArray) : dec ⟨(encAll (dec s)).toArray⟩ = dec s := by
  rw [dec_list ⟨(encAll (dec s)).toArray⟩]
  show decD (encAll (dec s)) = dec s
  rw [decD_encAll, dec_list]
  unfold decD
  exact decoded_clean _ _
theorem icl_dec (a : In) : dec (icl a).tx = dec a.tx := dec_again a.tx
theorem icl_icl (a : In) : icl (icl a) = icl a := by
  show (⟨a.id, a.pl, a.bi, a.ky, ⟨(encAll (dec (icl a).tx)).toArray⟩⟩ : In) = icl a
  rw [icl_dec]
  rfl
theorem icl_has10 (a : In) : has10 (icl a).tx = has10 a.tx := by
  have h1 := has10_dec (icl a).tx
  rw [icl_dec, ← has10_dec a.tx] at h1
  cases h : has10 a.tx <;> cases h2 : has10 (icl a).tx <;> simp_all
theorem icl_iwr (n : Int) (a : In) : iwr n (icl a) = iwr n a := by
  unfold iwr
  rw [icl_dec, icl_has10]
  rfl
theorem icl_len (a : In) : (icl a).tx.size ≤ 4 * (dec a.tx).length := by
  show (encAll (dec a.tx)).toArray.size ≤ _
  simpa using encAll_len (dec a.tx)
theorem icl_size {n : Int} {a : In} (h : iwr n a = 0) : (icl a).tx.size ≤ 160 := by
  have h1 := icl_len a
  unfold iwr at h
  by_cases c : a.id < 1 ∨ a.pl < 0 ∨ n < a.pl ∨ (a.bi ≠ 0 ∧ a.bi ≠ 1)
  · rw [if_pos c] at h; exact absurd h (by decide)
  · rw [if_neg c] at h
    by_cases d : 40 < (dec a.tx).length
    · rw [if_pos d] at h; exact absurd h (by decide)
    · omega
/-- Of a list that is right each one is right, and no two are of one number. -/
theorem iw_each (n : Int) : ∀ (l seen : List In), iw n seen l = 0 → ∀ a ∈ l, iwr n a = 0
  | [], _, _, a, h => absurd h (by simp)
  | b :: l, seen, h, a, ha => by
    rw [iw] at h
    by_cases c : iwr n b = 0
    · rw [if_neg (fun h => h c)] at h
      by_cases d : seen.any (fun x => x.id == b.id) = true
      · rw [if_pos d] at h; exact absurd h (by decide)
      · rw [if_neg d] at h
        rcases List.mem_cons.1 ha with rfl | ha
        · exact c
        · exact iw_each n l _ h a ha
    · rw [if_pos c] at h; exact absurd h c
theorem iwrong_each {n : Int} {l : List In} (h : iwrong n l = 0) : ∀ a ∈ l, iwr n a = 0 := by
  unfold iwrong at h
  by_cases c : n < 0 ∨ 1099511627776 < n
  · rw [if_pos c] at h; exact absurd h (by decide)
  · rw [if_neg c] at h
    by_cases d : 60 < l.length
    · rw [if_pos d] at h; exact absurd h (by decide)
    · rw [if_neg d] at h; exact iw_each n l [] h
theorem ord_size {n : Int} {l : List In} (h : iwrong n l = 0) : ∀ a ∈ ord ilt (l.map icl), a.tx.size ≤ 160 ∧ iwr n a = 0 ∧ icl a = a := by
  intro a ha
  obtain ⟨b, hb, rfl⟩ := List.mem_map.1 ((ord_perm ilt ilt_swo _).mem_iff.1 ha)
  have := iwrong_each h b hb
  exact ⟨icl_size this, by rw [icl_iwr]; exact this, icl_icl b⟩
end
section
open Go.RowKit Go.Sort
set_option linter.unusedVariables false
theorem nodup_erase_len {x : Int} {l : List Int} (h : x ∈ l) : (l.erase x).length + 1 = l.length := by
  rw [List.length_erase_of_mem h]
  have := List.length_pos_of_mem h
  omega
theorem sub_len : ∀ {F l : List Int}, F.Nodup → (∀ x ∈ F, x ∈ l) → F.length ≤ l.length
  | [], _, _, _ => Nat.zero_le _
  | x :: F, l, h1, h2 => by
    obtain ⟨n1, n2⟩ := List.nodup_cons.1 h1
    have hx := h2 x (by simp)
    have := sub_len (F := F) (l := l.erase x) n2 (fun y hy => by
      have hne : y ≠ x := fun e => n1 (e ▸ hy)
      exact (List.mem_erase_of_ne hne).2 (h2 y (by simp [hy])))
    have := nodup_erase_len hx
    simp only [List.length_cons]
    omega
theorem sub_full : ∀ {F l : List Int}, F.Nodup → (∀ x ∈ F, l.count x = 1) → F.length = l.length → l.Nodup ∧ ∀ x ∈ l, x ∈ F
  | [], l, _, _, h => by
    obtain rfl : l = [] := List.eq_nil_of_length_eq_zero h.symm
    exact ⟨List.nodup_nil, fun x hx => hx⟩
  | x :: F, l, h1, h2, h3 => by
    obtain ⟨n1, n2⟩ := List.nodup_cons.1 h1
    have hc := h2 x (by simp)
    have hx : x ∈ l := List.count_pos_iff.1 (by omega)
    have hl := nodup_erase_len hx
    obtain ⟨m1, m2⟩ := sub_full (F := F) (l := l.erase x) n2 (fun y hy => by
      have hne : y ≠ x := fun e => n1 (e ▸ hy)
      rw [List.count_erase_of_ne hne]
      exact h2 y (by simp [hy])) (by simp only [List.length_cons] at h3; omega)
    have hp := List.perm_cons_erase hx
    have hn : x ∉ l.erase x := fun hm => by
      have : (l.erase x).count x = 0 := by rw [List.count_erase_self]; omega
      exact absurd (List.count_pos_iff.2 hm) (by omega)
    refine ⟨hp.nodup_iff.2 (List.nodup_cons.2 ⟨hn, m1⟩), fun y hy => ?_⟩
    rcases List.mem_cons.1 (hp.mem_iff.1 hy) with e | e
    · simp [e]
    · exact List.mem_cons_of_mem _ (m2 y e)
/-- May these be removed: each one is there, and once. -/
def remOk (o : List In) (r : List Int) : Prop := r.Nodup ∧ ∀ x ∈ r, ∃ a ∈ o, a.id = x
instance (o : List In) (r : List Int) : Decidable (remOk o r) := by unfold remOk; exact inferInstance
/-- What is left. -/
def left (o : List In) (r : List Int) : List In := o.filter fun a => decide (a.id ∉ r)
/-- How many are found, by the document. -/
def fnd (o : List In) (r : List Int) : Nat := (o.filter fun a => r.count a.id == 1).length
theorem ids_nodup {o : List In} (h : IApart o) : (o.map (·.id)).Nodup := by
  unfold IApart at h
  induction o with
  | nil => simp
  | cons a o ih =>
    rw [List.pairwise_cons] at h
    rw [List.map_cons, List.nodup_cons]
    refine ⟨fun hm => ?_, ih h.2⟩
    obtain ⟨b, hb, e⟩ := List.mem_map.1 hm
    exact h.1 b hb e.symm
theorem apart_filter {o : List In} (h : IApart o) (p : In → Bool) : IApart (o.filter p) := List.Pairwise.filter p h
theorem fnd_ok {o : List In} (h : IApart o) (r : List Int) : fnd o r < r.length ↔ ¬ remOk o r := by
  have hn := ids_nodup (apart_filter h (fun a => r.count a.id == 1))
  have hc : ∀ x ∈ (o.filter fun a => r.count a.id == 1).map (·.id), r.count x = 1 := by
    intro x hx
    obtain ⟨a, ha, rfl⟩ := List.mem_map.1 hx
    simpa using (List.mem_filter.1 ha).2
  have hlen : fnd o r = ((o.filter fun a => r.count a.id == 1).map (·.id)).length := by simp [fnd]
  have hle := sub_len hn (l := r) (fun x hx => List.count_pos_iff.1 (by rw [hc x hx]; omega))
  constructor
  · intro hlt hok
    have h2 := sub_len (F := r) (l := (o.filter fun a => r.count a.id == 1).map (·.id)) hok.1 (fun x hx => by
      obtain ⟨a, ha, e⟩ := hok.2 x hx
      refine List.mem_map.2 ⟨a, List.mem_filter.2 ⟨ha, ?_⟩, e⟩
      have h1 := List.nodup_iff_count.1 hok.1 x
      have h2 := List.count_pos_iff.2 hx
      simp [e]
      omega)
    omega
  · intro hno
    rcases Nat.lt_or_ge (fnd o r) r.length with g | g
    · exact g
    · exfalso
      obtain ⟨m1, m2⟩ := sub_full hn hc (by omega)
      exact hno ⟨m1, fun x hx => by
        obtain ⟨a, ha, e⟩ := List.mem_map.1 (m2 x hx)
        exact ⟨a, (List.mem_filter.1 ha).1, e⟩⟩
theorem iwrong_is {n : Int} {l : List In} (h : iwrong n l = 0) : 0 ≤ n ∧ n ≤ 1099511627776 ∧ l.length ≤ 60 ∧ IApart l ∧ ∀ a ∈ l, iwr n a = 0 := by
  have hs := h
  unfold iwrong at hs
  split at hs
  · cases hs
  · rename_i g1
    split at hs
    · cases hs
    · rename_i g2
      have := iw_apart hs (List.Pairwise.nil)
      exact ⟨by omega, by omega, by omega, by simpa using this.1, this.2⟩
theorem ord_icl {n : Int} {l : List In} (h : iwrong n l = 0) : IApart (ord ilt (l.map icl)) ∧ (ord ilt (l.map icl)).length = l.length ∧ ∀ a ∈ ord ilt (l.map icl), iwr n a = 0 ∧ icl a = a := by
  have hp := ord_perm ilt ilt_swo (l.map icl)
  refine ⟨?_, by rw [hp.length_eq, List.length_map], fun a ha => (ord_size h a ha).2⟩
  have h1 := iapart_icl (iwrong_is h).2.2.2.1
  exact (hp.pairwise_iff (fun {_ _} h => fun e => h e.symm)).2 h1
end
section
open Go.RowKit
set_option linter.unusedVariables false
theorem RowsAt.in5 {w : World} {A : Option Addr} {l : List In} (h : RowsAt encI 5 w A l) {j : Nat} (hj : j < l.length) : ∃ b off, A = some ⟨b, off, none⟩ ∧ b < w.heap.size ∧
    w.cell? ⟨b, off + j * 5, none⟩ = some (.int .i64 l[j].id) ∧ w.cell? ⟨b, off + j * 5 + 1, none⟩ = some (.int .i64 l[j].pl) ∧ w.cell? ⟨b, off + j * 5 + 2, none⟩ = some (.int .i64 l[j].bi) ∧ w.cell? ⟨b, off + j * 5 + 3, none⟩ = some (.int .i64 l[j].ky) ∧ w.cell? ⟨b, off + j * 5 + 4, none⟩ = some (.string l[j].tx) := by
  obtain ⟨b, off, e, hb, hc⟩ := h.at1 hj
  exact ⟨b, off, e, hb, hc 0 (by omega), hc 1 (by omega), hc 2 (by omega), hc 3 (by omega), hc 4 (by omega)⟩
end
section
open Go.RowKit Go.Sort
set_option linter.unusedVariables false
/-- What is wrong with an inlay, by the document, ahead of which some stand. -/
def wr13 (n : Int) (seen : List In) (x : In) : Int := if iwr n x ≠ 0 then iwr n x else if seen.any (fun b => b.id == x.id) then 8 else 0
end
section
open Go.RowKit Go.Sort
set_option linter.unusedVariables false
theorem inm_nth {l : List Int} {j : Nat} (h : j < l.length) : nth l j = l[j] := by simp [nth, List.getD, h]
theorem inm_in {l : List Int} {j : Nat} (h : j < l.length) : nth l j ∈ l := by rw [inm_nth h]; exact List.getElem_mem h
theorem inm_take {l : List Int} {j : Nat} (h : j < l.length) : l.take (j + 1) = l.take j ++ [nth l j] := by rw [inm_nth h]; exact List.take_succ_eq_append_getElem h
set_option maxHeartbeats 4000000 in
set_option maxRecDepth 100000 in
theorem iahead_any (x y : In) (w : World) (b : Bool) (hb : b = ilt x y) :
    Calls Tryz.prog 28 #[.agg #[.int .i64 x.id, .int .i64 x.pl, .int .i64 x.bi, .int .i64 x.ky, .string x.tx], .agg #[.int .i64 y.id, .int .i64 y.pl, .int .i64 y.bi, .int .i64 y.ky, .string y.tx]] w fun e w' => e = .returned (.bool b) ∧ Below w.heap.size w w' := by
  have x1 : Below w.heap.size w (w.alloc (.cells #[.int .i64 x.id, .int .i64 x.pl, .int .i64 x.bi, .int .i64 x.ky, .string x.tx] 56)) := (Below.refl _ _).alloc (Nat.le_refl _) _
  have x2 : Below w.heap.size w ((w.alloc (.cells #[.int .i64 x.id, .int .i64 x.pl, .int .i64 x.bi, .int .i64 x.ky, .string x.tx] 56)).alloc (.cells #[.int .i64 y.id, .int .i64 y.pl, .int .i64 y.bi, .int .i64 y.ky, .string y.tx] 56)) := x1.alloc x1.size _
  have HX := Lib.hid x2
  have HB := Lib.hid hb
  clear x1 x2 hb
  by_cases p : x.pl = y.pl
  · have e1a : decide (x.pl = y.pl) = true := decide_eq_true p
    have e2a : (x.pl == y.pl) = true := by simp [p]
    have e3a : (x.pl != y.pl) = false := by simp [p]
    by_cases s : x.ky = y.ky
    · have e1b : decide (x.ky = y.ky) = true := decide_eq_true s
      have e2b : (x.ky == y.ky) = true := by simp [s]
      have e3b : (x.ky != y.ky) = false := by simp [s]
      by_cases q : x.id < y.id
      · have hbb : b = true := by rw [HB.out]; unfold ilt; exact decide_eq_true (by omega)
        subst hbb
        have k : decide (x.id < y.id) = true := decide_eq_true q
        clear q HB p s
        go_enter Tryz.func28, Tryz.ntmps28
        go_wp2
        go_ret
        exact ⟨rfl, HX.out⟩
      · have hbb : b = false := by rw [HB.out]; unfold ilt; exact decide_eq_false (by omega)
        subst hbb
        have k : decide (x.id < y.id) = false := decide_eq_false q
        clear q HB p s
        go_enter Tryz.func28, Tryz.ntmps28
        go_wp2
        go_ret
        exact ⟨rfl, HX.out⟩
    · have e1b : decide (x.ky = y.ky) = false := decide_eq_false s
      have e2b : (x.ky == y.ky) = false := by simp [s]
      have e3b : (x.ky != y.ky) = true := by simp [s]
      by_cases q : x.ky < y.ky
      · have hbb : b = true := by rw [HB.out]; unfold ilt; exact decide_eq_true (by omega)
        subst hbb
        have k : decide (x.ky < y.ky) = true := decide_eq_true q
        clear q HB p s
        go_enter Tryz.func28, Tryz.ntmps28
        go_wp2
        go_ret
        exact ⟨rfl, HX.out⟩
      · have hbb : b = false := by rw [HB.out]; unfold ilt; exact decide_eq_false (by omega)
        subst hbb
        have k : decide (x.ky < y.ky) = false := decide_eq_false q
        clear q HB p s
        go_enter Tryz.func28, Tryz.ntmps28
        go_wp2
        go_ret
        exact ⟨rfl, HX.out⟩
  · have e1a : decide (x.pl = y.pl) = false := decide_eq_false p
    have e2a : (x.pl == y.pl) = false := by simp [p]
    have e3a : (x.pl != y.pl) = true := by simp [p]
    by_cases q : x.pl < y.pl
    · have hbb : b = true := by rw [HB.out]; unfold ilt; exact decide_eq_true (by omega)
      subst hbb
      have k : decide (x.pl < y.pl) = true := decide_eq_true q
      clear q HB p
      go_enter Tryz.func28, Tryz.ntmps28
      go_wp2
      go_ret
      exact ⟨rfl, HX.out⟩
    · have hbb : b = false := by rw [HB.out]; unfold ilt; exact decide_eq_false (by omega)
      subst hbb
      have k : decide (x.pl < y.pl) = false := decide_eq_false q
      clear q HB p
      go_enter Tryz.func28, Tryz.ntmps28
      go_wp2
      go_ret
      exact ⟨rfl, HX.out⟩
set_option maxHeartbeats 16000000 in
set_option maxRecDepth 100000 in
theorem rwrong13_any (n : Int) (A : Option Addr) (m c : Nat) (seen : List In) (a : In) (w : World) (hA : RowsAt encI 5 w A seen) (hl : seen.length = m) (hm : m ≤ 1000000) (hs : a.tx.size ≤ 100000000) (r : Int) (hr : r = wr13 n seen a) :
    Calls Tryz.prog 25 #[.int .i64 n, .slice A m c, .agg #[.int .i64 a.id, .int .i64 a.pl, .int .i64 a.bi, .int .i64 a.ky, .string a.tx]] w fun e w' => e = .returned (.int .i64 r) ∧ Below w.heap.size w w' := by
  have HA := Lib.hid hA
  have HL := Lib.hid hl
  have CC := Lib.hid fun (W : World) => rdecode_any a.tx W (by omega)
  have HTEN := Lib.hid (has10_dec a.tx)
  have HR := Lib.hid hr
  clear hr hA hl
  have x1 : Below w.heap.size w (w.alloc (.cells #[.int .i64 a.id, .int .i64 a.pl, .int .i64 a.bi, .int .i64 a.ky, .string a.tx] 56)) := (Below.refl _ _).alloc (Nat.le_refl _) _
  have R1 : RawAt 56 (w.alloc (.cells #[.int .i64 a.id, .int .i64 a.pl, .int .i64 a.bi, .int .i64 a.ky, .string a.tx] 56)) w.heap.size #[.int .i64 a.id, .int .i64 a.pl, .int .i64 a.bi, .int .i64 a.ky, .string a.tx] := heap_alloc_new w _
  obtain ⟨D, hD⟩ : ∃ D, D = dec a.tx := ⟨_, rfl⟩
  have HD := Lib.hid hD
  rw [← hD] at CC HTEN
  obtain ⟨len, hlen⟩ : ∃ k, k = D.length := ⟨_, rfl⟩
  have HLN := Lib.hid hlen
  have hle : len ≤ 100000000 := by rw [hlen, hD]; exact Nat.le_trans (dec_len a.tx) hs
  rw [← hlen] at CC
  clear hlen hs hD
  obtain ⟨W1, hW1⟩ : ∃ W1, W1 = w.alloc (.cells #[.int .i64 a.id, .int .i64 a.pl, .int .i64 a.bi, .int .i64 a.ky, .string a.tx] 56) := ⟨_, rfl⟩
  rw [← hW1] at x1 R1
  have HW1 := Lib.hid hW1
  have X1 := Lib.hid x1
  have RR := Lib.hid R1
  clear hW1 x1 R1
  by_cases c1 : a.id < 1
  · have kc1 : decide (a.id < 1) = true := decide_eq_true c1
    have hr : r = 1 := by rw [HR.out, wr13, iwr, if_pos (show a.id < 1 ∨ a.pl < 0 ∨ n < a.pl ∨ (a.bi ≠ 0 ∧ a.bi ≠ 1) by omega)]; rfl
    subst hr
    clear HR CC
    have e0 := RawAt.cell RR.out 0
    have e1 := RawAt.cell RR.out 1
    have e2 := RawAt.cell RR.out 2
    have e4 := RawAt.cell RR.out 4
    simp at e0 e1 e2 e4
    go_enter Tryz.func25, Tryz.ntmps25
    go_wp2_with fail
    rw [← HW1.out]
    go_wp2
    go_ret
    exact ⟨rfl, X1.out⟩
  · have kc1 : decide (a.id < 1) = false := decide_eq_false c1
    by_cases c2 : a.pl < 0
    · have kc2 : decide (a.pl < 0) = true := decide_eq_true c2
      have hr : r = 1 := by rw [HR.out, wr13, iwr, if_pos (show a.id < 1 ∨ a.pl < 0 ∨ n < a.pl ∨ (a.bi ≠ 0 ∧ a.bi ≠ 1) by omega)]; rfl
      subst hr
      clear HR CC
      have e0 := RawAt.cell RR.out 0
      have e1 := RawAt.cell RR.out 1
      have e2 := RawAt.cell RR.out 2
      have e4 := RawAt.cell RR.out 4
      simp at e0 e1 e2 e4
      go_enter Tryz.func25, Tryz.ntmps25
      go_wp2_with fail
      rw [← HW1.out]
      go_wp2
      go_ret
      exact ⟨rfl, X1.out⟩
    · have kc2 : decide (a.pl < 0) = false := decide_eq_false c2
      by_cases c3 : n < a.pl
      · have kc3 : decide (n < a.pl) = true := decide_eq_true c3
        have hr : r = 1 := by rw [HR.out, wr13, iwr, if_pos (show a.id < 1 ∨ a.pl < 0 ∨ n < a.pl ∨ (a.bi ≠ 0 ∧ a.bi ≠ 1) by omega)]; rfl
        subst hr
        clear HR CC
        have e0 := RawAt.cell RR.out 0
        have e1 := RawAt.cell RR.out 1
        have e2 := RawAt.cell RR.out 2
        have e4 := RawAt.cell RR.out 4
        simp at e0 e1 e2 e4
        go_enter Tryz.func25, Tryz.ntmps25
        go_wp2_with fail
        rw [← HW1.out]
        go_wp2
        go_ret
        exact ⟨rfl, X1.out⟩
      · have kc3 : decide (n < a.pl) = false := decide_eq_false c3
        by_cases c4 : a.bi ≠ 0 ∧ a.bi ≠ 1
        · obtain ⟨c4, c5⟩ := c4
          have k4 : (a.bi != 0) = true := by simp [c4]
          have k5 : (a.bi != 1) = true := by simp [c5]
          have k6 : (a.bi == 0) = false := by simp [c4]
          have k7 : (a.bi == 1) = false := by simp [c5]
          have hr : r = 1 := by rw [HR.out, wr13, iwr, if_pos (show a.id < 1 ∨ a.pl < 0 ∨ n < a.pl ∨ (a.bi ≠ 0 ∧ a.bi ≠ 1) by omega)]; rfl
          subst hr
          clear HR CC
          have e0 := RawAt.cell RR.out 0
          have e1 := RawAt.cell RR.out 1
          have e2 := RawAt.cell RR.out 2
          have e4 := RawAt.cell RR.out 4
          simp at e0 e1 e2 e4
          go_enter Tryz.func25, Tryz.ntmps25
          go_wp2_with fail
          rw [← HW1.out]
          go_wp2
          go_ret
          exact ⟨rfl, X1.out⟩
        · have hn : ¬ (a.id < 1 ∨ a.pl < 0 ∨ n < a.pl ∨ (a.bi ≠ 0 ∧ a.bi ≠ 1)) := by omega
          have HN := Lib.hid hn
          clear hn
          have kb : (a.bi = 0 ∨ a.bi = 1) := by omega
          clear c4 c1 c2 c3
          have HF : Hid (∀ v : Int, iwr n a = v → r = if v ≠ 0 then v else if seen.any (fun b => b.id == a.id) then 8 else 0) := Lib.hid fun v h => by rw [HR.out, wr13, h]
          clear HR
          have HI : Hid (iwr n a = if 40 < len then 2 else if len = 0 ∨ has10 a.tx = true then 4 else 0) := Lib.hid (by rw [iwr, if_neg HN.out, ← HD.out, ← HLN.out])
          clear HN
          rcases kb with kb | kb
          · have HK := Lib.hid kb
            have k4 : (a.bi != 0) = false := by simp [kb]
            have k6 : (a.bi == 0) = true := by simp [kb]
            clear kb
            have e0 := RawAt.cell RR.out 0
            have e1 := RawAt.cell RR.out 1
            have e2 := RawAt.cell RR.out 2
            have e4 := RawAt.cell RR.out 4
            simp at e0 e1 e2 e4
            by_cases d1 : 40 < len
            · have m1 : decide (40 < len) = true := decide_eq_true d1
              have m2 : decide ((40 : Int) < (len : Int)) = true := decide_eq_true (by omega)
              have hr : r = 2 := HF.out 2 (by rw [HI.out, if_pos d1])
              subst hr
              clear HF HI d1
              go_enter Tryz.func25, Tryz.ntmps25
              go_wp2_with fail
              rw [← HW1.out]
              go_wp2_with fail
              with_reducible refine (CC.out _).mono ?_
              rintro e w2 ⟨A2, c2, rfl, b2, hI2, hC2⟩
              have R2 := RawAt.below RR.out b2 RR.out.lt
              have e0' := RawAt.cell R2 0
              simp at e0'
              have Q2 := Lib.hid (X1.out.trans (b2.mono X1.out.size))
              have HI2 := Lib.hid hI2
              have HR2 := Lib.hid R2
              have HCC := Lib.hid CC.out
              clear R2 b2 hI2 hC2 CC RR
              go_wp2
              go_ret
              exact ⟨rfl, Q2.out⟩
            · have m1 : decide (40 < len) = false := decide_eq_false d1
              have m2 : decide ((40 : Int) < (len : Int)) = false := decide_eq_false (by omega)
              by_cases d2 : len = 0
              · subst d2
                have hr : r = 4 := HF.out 4 (by rw [HI.out, if_neg (by omega), if_pos (Or.inl rfl)])
                subst hr
                clear HF HI d1
                go_enter Tryz.func25, Tryz.ntmps25
                go_wp2_with fail
                rw [← HW1.out]
                go_wp2_with fail
                with_reducible refine (CC.out _).mono ?_
                rintro e w2 ⟨A2, c2, rfl, b2, hI2, hC2⟩
                have R2 := RawAt.below RR.out b2 RR.out.lt
                have e0' := RawAt.cell R2 0
                simp at e0'
                have Q2 := Lib.hid (X1.out.trans (b2.mono X1.out.size))
                have HI2 := Lib.hid hI2
                have HR2 := Lib.hid R2
                have HCC := Lib.hid CC.out
                clear R2 b2 hI2 hC2 CC RR
                go_wp2
                go_ret
                exact ⟨rfl, Q2.out⟩
              · have m3 : (len == 0) = false := by simp [d2]
                have m4 : decide (len = 0) = false := decide_eq_false d2
                have m5 : ((len : Int) == 0) = false := by simp [d2]
                have m6 : decide ((len : Int) = 0) = false := decide_eq_false (by omega)
                have HI3 : Hid (iwr n a = if has10 a.tx = true then 4 else 0) := Lib.hid (by rw [HI.out, if_neg d1]; simp only [d2, false_or])
                clear HI d1 d2
                go_enter Tryz.func25, Tryz.ntmps25
                go_wp2_with fail
                rw [← HW1.out]
                go_wp2_with fail
                with_reducible refine (CC.out _).mono ?_
                rintro e w2 ⟨A2, c2, rfl, b2, hI2, hC2⟩
                have R2 := RawAt.below RR.out b2 RR.out.lt
                have e0' := RawAt.cell R2 0
                simp at e0'
                have Q2 := Lib.hid (X1.out.trans (b2.mono X1.out.size))
                have HI2 := Lib.hid hI2
                have HR2 := Lib.hid R2
                have HCC := Lib.hid CC.out
                clear R2 b2 hI2 hC2 CC RR
                go_wp2_with fail
                go_loopg [9, 47] len (fun g x i wr => ∃ (j : Nat), i = .int .i64 j ∧ j ≤ len ∧ len - j ≤ g ∧ Hid (Below w2.heap.size w2 wr) ∧ Hid ((10 : Int) ∉ D.take j))
                case atStart => exact ⟨0, rfl, by omega, by omega, Lib.hid (Below.refl _ _), Lib.hid (by simp)⟩
                case round =>
                  obtain ⟨j, rfl, h1, h2, hb, hno⟩ := hrel
                  by_cases hlt : j < len
                  · have hjl : j < D.length := by rw [← HLN.out]; exact hlt
                    obtain ⟨bD, offD, rfl, hbD, hcD⟩ := (HI2.out.below hb.out) (by omega)
                    have q := hcD j hjl
                    have hmem : nth D j ∈ D := inm_in hjl
                    have htk : D.take (j + 1) = D.take j ++ [nth D j] := inm_take hjl
                    have HTK := Lib.hid htk
                    have HME := Lib.hid hmem
                    clear hcD htk hmem hjl
                    generalize nth D j = z at *
                    have i1 : (0 : Int) ≤ j := by omega
                    have i2 : (j : Int) < len := by omega
                    by_cases hz : z = 10
                    · subst hz
                      have hr : r = 4 := HF.out 4 (by rw [HI3.out, if_pos (HTEN.out.2 HME.out)])
                      subst hr
                      have HQ := Lib.hid (Q2.out.trans (hb.out.mono Q2.out.size))
                      clear HF HI3 hno hb HTEN
                      go_wp2
                      go_ret
                      exact ⟨rfl, HQ.out⟩
                    · have z1 : (z == 10) = false := by simp [hz]
                      have z2 : decide (z = 10) = false := decide_eq_false hz
                      have HNO : Hid ((10 : Int) ∉ D.take (j + 1)) := Lib.hid (by
                        rw [HTK.out]
                        intro h
                        rcases List.mem_append.1 h with h | h
                        · exact hno.out h
                        · exact hz (List.mem_singleton.1 h).symm)
                      clear hno hz
                      go_wp2
                      go_roundg (gk - 1)
                      case measure => omega
                      case rel => exact ⟨j + 1, by go_num, by omega, by omega, hb, HNO⟩
                  · obtain rfl : len = j := by omega
                    have hz : iwr n a = 0 := by
                      rw [HI3.out, if_neg]
                      intro h
                      have := HTEN.out.1 h
                      have h3 := hno.out
                      rw [List.take_of_length_le (by rw [← HLN.out]; exact Nat.le_refl _)] at h3
                      exact h3 this
                    have hg : r = if seen.any (fun b => b.id == a.id) then 8 else 0 := by
                      have := HF.out 0 hz
                      rw [this, if_neg (by simp)]
                    have HG := Lib.hid hg
                    have HQ := Lib.hid (Q2.out.trans (hb.out.mono Q2.out.size))
                    have HBX := Lib.hid (HR2.out.below hb.out HR2.out.lt)
                    obtain ⟨V, hV⟩ : ∃ V, V = wr := ⟨_, rfl⟩
                    have HSA := Lib.hid (HA.out.below HQ.out)
                    rw [← hV] at HQ HBX HSA
                    have HVV := Lib.hid hV
                    clear hg hz hno hb HF HI3 HTEN HI2 hV
                    go_wp2_with fail
                    rw [← HVV.out]
                    go_loopg [11, 56] m (fun g x i wr3 => ∃ (j : Nat), i = .int .i64 j ∧ j ≤ m ∧ m - j ≤ g ∧ Hid (Below V.heap.size V wr3) ∧ Hid (∀ x ∈ seen.take j, (x.id == a.id) = false))
                    case atStart => exact ⟨0, rfl, by omega, by omega, Lib.hid (Below.refl _ _), Lib.hid (fun x hx => absurd hx (by simp))⟩
                    case round =>
                      obtain ⟨j, rfl, g1, g2, hb, hno⟩ := hrel
                      by_cases hlt : j < m
                      · have hjl : j < seen.length := by rw [HL.out]; exact hlt
                        obtain ⟨bA, off, rfl, hbA, d0, d1, d2, d3, d4⟩ := (HSA.out.below hb.out).in5 hjl
                        have HTK := Lib.hid (List.take_succ_eq_append_getElem hjl)
                        have HME := Lib.hid (List.getElem_mem hjl)
                        generalize seen[j] = o at *
                        have i1 : (0 : Int) ≤ j := by omega
                        have i2 : (j : Int) < m := by omega
                        have hB2 := HBX.out.below hb.out HBX.out.lt
                        have f0 := RawAt.cell hB2 0
                        have hB3 := hB2.below ((Below.refl wr.heap.size wr).alloc (Nat.le_refl _) (.cells #[.int .i64 o.id, .int .i64 o.pl, .int .i64 o.bi, .int .i64 o.ky, .string o.tx] 56)) hB2.lt
                        have f1 := RawAt.cell hB3 0
                        simp at f0 f1
                        have HB3 := Lib.hid (hb.out.trans (((Below.refl wr.heap.size wr).alloc (Nat.le_refl _) (.cells #[.int .i64 o.id, .int .i64 o.pl, .int .i64 o.bi, .int .i64 o.ky, .string o.tx] 56)).mono hb.out.size))
                        clear hb hB2 hB3
                        by_cases q : o.id = a.id
                        · have q1 : (o.id == a.id) = true := by simp [q]
                          have q2 : decide (o.id = a.id) = true := decide_eq_true q
                          have hr : r = 8 := by
                            rw [HG.out, if_pos]
                            exact List.any_eq_true.2 ⟨o, HME.out, q1⟩
                          subst hr
                          have HQ3 := Lib.hid (HQ.out.trans (HB3.out.mono HQ.out.size))
                          clear HG q HB3 hno
                          go_wp2
                          go_ret
                          exact ⟨rfl, HQ3.out⟩
                        · have q1 : (o.id == a.id) = false := by simp [q]
                          have q2 : decide (o.id = a.id) = false := decide_eq_false q
                          have HNO : Hid (∀ x ∈ seen.take (j + 1), (x.id == a.id) = false) := Lib.hid (by
                            rw [HTK.out]
                            intro x hx
                            rcases List.mem_append.1 hx with hx | hx
                            · exact hno.out x hx
                            · rw [List.mem_singleton.1 hx]; exact q1)
                          clear q hno HG
                          go_wp2
                          go_roundg (gk - 1)
                          case measure => omega
                          case rel => exact ⟨j + 1, by go_num, by omega, by omega, HB3, HNO⟩
                      · obtain rfl : j = m := by omega
                        have hr : r = 0 := by
                          rw [HG.out, if_neg]
                          intro h
                          obtain ⟨x, hx, hx2⟩ := List.any_eq_true.1 h
                          have h3 := hno.out
                          rw [List.take_of_length_le (by rw [HL.out]; exact Nat.le_refl _)] at h3
                          rw [h3 x hx] at hx2
                          exact absurd hx2 (by simp)
                        subst hr
                        have HQ3 := Lib.hid (HQ.out.trans (hb.out.mono HQ.out.size))
                        clear HG hno hb
                        go_wp2
                        go_ret
                        exact ⟨rfl, HQ3.out⟩
          · have HK := Lib.hid kb
            have k4 : (a.bi != 0) = true := by simp [kb]
            have k6 : (a.bi == 0) = false := by simp [kb]
            have k5 : (a.bi != 1) = false := by simp [kb]
            have k7 : (a.bi == 1) = true := by simp [kb]
            clear kb
            have e0 := RawAt.cell RR.out 0
            have e1 := RawAt.cell RR.out 1
            have e2 := RawAt.cell RR.out 2
            have e4 := RawAt.cell RR.out 4
            simp at e0 e1 e2 e4
            by_cases d1 : 40 < len
            · have m1 : decide (40 < len) = true := decide_eq_true d1
              have m2 : decide ((40 : Int) < (len : Int)) = true := decide_eq_true (by omega)
              have hr : r = 2 := HF.out 2 (by rw [HI.out, if_pos d1])
              subst hr
              clear HF HI d1
              go_enter Tryz.func25, Tryz.ntmps25
              go_wp2_with fail
              rw [← HW1.out]
              go_wp2_with fail
              with_reducible refine (CC.out _).mono ?_
              rintro e w2 ⟨A2, c2, rfl, b2, hI2, hC2⟩
              have R2 := RawAt.below RR.out b2 RR.out.lt
              have e0' := RawAt.cell R2 0
              simp at e0'
              have Q2 := Lib.hid (X1.out.trans (b2.mono X1.out.size))
              have HI2 := Lib.hid hI2
              have HR2 := Lib.hid R2
              have HCC := Lib.hid CC.out
              clear R2 b2 hI2 hC2 CC RR
              go_wp2
              go_ret
              exact ⟨rfl, Q2.out⟩
            · have m1 : decide (40 < len) = false := decide_eq_false d1
              have m2 : decide ((40 : Int) < (len : Int)) = false := decide_eq_false (by omega)
              by_cases d2 : len = 0
              · subst d2
                have hr : r = 4 := HF.out 4 (by rw [HI.out, if_neg (by omega), if_pos (Or.inl rfl)])
                subst hr
                clear HF HI d1
                go_enter Tryz.func25, Tryz.ntmps25
                go_wp2_with fail
                rw [← HW1.out]
                go_wp2_with fail
                with_reducible refine (CC.out _).mono ?_
                rintro e w2 ⟨A2, c2, rfl, b2, hI2, hC2⟩
                have R2 := RawAt.below RR.out b2 RR.out.lt
                have e0' := RawAt.cell R2 0
                simp at e0'
                have Q2 := Lib.hid (X1.out.trans (b2.mono X1.out.size))
                have HI2 := Lib.hid hI2
                have HR2 := Lib.hid R2
                have HCC := Lib.hid CC.out
                clear R2 b2 hI2 hC2 CC RR
                go_wp2
                go_ret
                exact ⟨rfl, Q2.out⟩
              · have m3 : (len == 0) = false := by simp [d2]
                have m4 : decide (len = 0) = false := decide_eq_false d2
                have m5 : ((len : Int) == 0) = false := by simp [d2]
                have m6 : decide ((len : Int) = 0) = false := decide_eq_false (by omega)
                have HI3 : Hid (iwr n a = if has10 a.tx = true then 4 else 0) := Lib.hid (by rw [HI.out, if_neg d1]; simp only [d2, false_or])
                clear HI d1 d2
                go_enter Tryz.func25, Tryz.ntmps25
                go_wp2_with fail
                rw [← HW1.out]
                go_wp2_with fail
                with_reducible refine (CC.out _).mono ?_
                rintro e w2 ⟨A2, c2, rfl, b2, hI2, hC2⟩
                have R2 := RawAt.below RR.out b2 RR.out.lt
                have e0' := RawAt.cell R2 0
                simp at e0'
                have Q2 := Lib.hid (X1.out.trans (b2.mono X1.out.size))
                have HI2 := Lib.hid hI2
                have HR2 := Lib.hid R2
                have HCC := Lib.hid CC.out
                clear R2 b2 hI2 hC2 CC RR
                go_wp2_with fail
                go_loopg [9, 47] len (fun g x i wr => ∃ (j : Nat), i = .int .i64 j ∧ j ≤ len ∧ len - j ≤ g ∧ Hid (Below w2.heap.size w2 wr) ∧ Hid ((10 : Int) ∉ D.take j))
                case atStart => exact ⟨0, rfl, by omega, by omega, Lib.hid (Below.refl _ _), Lib.hid (by simp)⟩
                case round =>
                  obtain ⟨j, rfl, h1, h2, hb, hno⟩ := hrel
                  by_cases hlt : j < len
                  · have hjl : j < D.length := by rw [← HLN.out]; exact hlt
                    obtain ⟨bD, offD, rfl, hbD, hcD⟩ := (HI2.out.below hb.out) (by omega)
                    have q := hcD j hjl
                    have hmem : nth D j ∈ D := inm_in hjl
                    have htk : D.take (j + 1) = D.take j ++ [nth D j] := inm_take hjl
                    have HTK := Lib.hid htk
                    have HME := Lib.hid hmem
                    clear hcD htk hmem hjl
                    generalize nth D j = z at *
                    have i1 : (0 : Int) ≤ j := by omega
                    have i2 : (j : Int) < len := by omega
                    by_cases hz : z = 10
                    · subst hz
                      have hr : r = 4 := HF.out 4 (by rw [HI3.out, if_pos (HTEN.out.2 HME.out)])
                      subst hr
                      have HQ := Lib.hid (Q2.out.trans (hb.out.mono Q2.out.size))
                      clear HF HI3 hno hb HTEN
                      go_wp2
                      go_ret
                      exact ⟨rfl, HQ.out⟩
                    · have z1 : (z == 10) = false := by simp [hz]
                      have z2 : decide (z = 10) = false := decide_eq_false hz
                      have HNO : Hid ((10 : Int) ∉ D.take (j + 1)) := Lib.hid (by
                        rw [HTK.out]
                        intro h
                        rcases List.mem_append.1 h with h | h
                        · exact hno.out h
                        · exact hz (List.mem_singleton.1 h).symm)
                      clear hno hz
                      go_wp2
                      go_roundg (gk - 1)
                      case measure => omega
                      case rel => exact ⟨j + 1, by go_num, by omega, by omega, hb, HNO⟩
                  · obtain rfl : len = j := by omega
                    have hz : iwr n a = 0 := by
                      rw [HI3.out, if_neg]
                      intro h
                      have := HTEN.out.1 h
                      have h3 := hno.out
                      rw [List.take_of_length_le (by rw [← HLN.out]; exact Nat.le_refl _)] at h3
                      exact h3 this
                    have hg : r = if seen.any (fun b => b.id == a.id) then 8 else 0 := by
                      have := HF.out 0 hz
                      rw [this, if_neg (by simp)]
                    have HG := Lib.hid hg
                    have HQ := Lib.hid (Q2.out.trans (hb.out.mono Q2.out.size))
                    have HBX := Lib.hid (HR2.out.below hb.out HR2.out.lt)
                    obtain ⟨V, hV⟩ : ∃ V, V = wr := ⟨_, rfl⟩
                    have HSA := Lib.hid (HA.out.below HQ.out)
                    rw [← hV] at HQ HBX HSA
                    have HVV := Lib.hid hV
                    clear hg hz hno hb HF HI3 HTEN HI2 hV
                    go_wp2_with fail
                    rw [← HVV.out]
                    go_loopg [11, 56] m (fun g x i wr3 => ∃ (j : Nat), i = .int .i64 j ∧ j ≤ m ∧ m - j ≤ g ∧ Hid (Below V.heap.size V wr3) ∧ Hid (∀ x ∈ seen.take j, (x.id == a.id) = false))
                    case atStart => exact ⟨0, rfl, by omega, by omega, Lib.hid (Below.refl _ _), Lib.hid (fun x hx => absurd hx (by simp))⟩
                    case round =>
                      obtain ⟨j, rfl, g1, g2, hb, hno⟩ := hrel
                      by_cases hlt : j < m
                      · have hjl : j < seen.length := by rw [HL.out]; exact hlt
                        obtain ⟨bA, off, rfl, hbA, d0, d1, d2, d3, d4⟩ := (HSA.out.below hb.out).in5 hjl
                        have HTK := Lib.hid (List.take_succ_eq_append_getElem hjl)
                        have HME := Lib.hid (List.getElem_mem hjl)
                        generalize seen[j] = o at *
                        have i1 : (0 : Int) ≤ j := by omega
                        have i2 : (j : Int) < m := by omega
                        have hB2 := HBX.out.below hb.out HBX.out.lt
                        have f0 := RawAt.cell hB2 0
                        have hB3 := hB2.below ((Below.refl wr.heap.size wr).alloc (Nat.le_refl _) (.cells #[.int .i64 o.id, .int .i64 o.pl, .int .i64 o.bi, .int .i64 o.ky, .string o.tx] 56)) hB2.lt
                        have f1 := RawAt.cell hB3 0
                        simp at f0 f1
                        have HB3 := Lib.hid (hb.out.trans (((Below.refl wr.heap.size wr).alloc (Nat.le_refl _) (.cells #[.int .i64 o.id, .int .i64 o.pl, .int .i64 o.bi, .int .i64 o.ky, .string o.tx] 56)).mono hb.out.size))
                        clear hb hB2 hB3
                        by_cases q : o.id = a.id
                        · have q1 : (o.id == a.id) = true := by simp [q]
                          have q2 : decide (o.id = a.id) = true := decide_eq_true q
                          have hr : r = 8 := by
                            rw [HG.out, if_pos]
                            exact List.any_eq_true.2 ⟨o, HME.out, q1⟩
                          subst hr
                          have HQ3 := Lib.hid (HQ.out.trans (HB3.out.mono HQ.out.size))
                          clear HG q HB3 hno
                          go_wp2
                          go_ret
                          exact ⟨rfl, HQ3.out⟩
                        · have q1 : (o.id == a.id) = false := by simp [q]
                          have q2 : decide (o.id = a.id) = false := decide_eq_false q
                          have HNO : Hid (∀ x ∈ seen.take (j + 1), (x.id == a.id) = false) := Lib.hid (by
                            rw [HTK.out]
                            intro x hx
                            rcases List.mem_append.1 hx with hx | hx
                            · exact hno.out x hx
                            · rw [List.mem_singleton.1 hx]; exact q1)
                          clear q hno HG
                          go_wp2
                          go_roundg (gk - 1)
                          case measure => omega
                          case rel => exact ⟨j + 1, by go_num, by omega, by omega, HB3, HNO⟩
                      · obtain rfl : j = m := by omega
                        have hr : r = 0 := by
                          rw [HG.out, if_neg]
                          intro h
                          obtain ⟨x, hx, hx2⟩ := List.any_eq_true.1 h
                          have h3 := hno.out
                          rw [List.take_of_length_le (by rw [HL.out]; exact Nat.le_refl _)] at h3
                          rw [h3 x hx] at hx2
                          exact absurd hx2 (by simp)
                        subst hr
                        have HQ3 := Lib.hid (HQ.out.trans (hb.out.mono HQ.out.size))
                        clear HG hno hb
                        go_wp2
                        go_ret
                        exact ⟨rfl, HQ3.out⟩
end
section
open Go.RowKit Go.Sort
set_option linter.unusedVariables false
/-- What is laid so far, where one more goes among others, and whether it has gone. -/
def igo (x : In) : List In → List In × Bool
  | [] => ([], false)
  | y :: l => if ilt x y = true then (x :: y :: l, true) else (y :: (igo x l).1, (igo x l).2)
theorem igo_ins (x : In) : ∀ l : List In, ins ilt x l = if (igo x l).2 = true then (igo x l).1 else (igo x l).1 ++ [x]
  | [] => by simp [ins, igo]
  | y :: l => by
    have ih := igo_ins x l
    unfold ins igo
    split
    · simp
    · rw [ih]
      split <;> simp_all
theorem igo_snoc (x b : In) : ∀ l : List In, igo x (l ++ [b]) = if (igo x l).2 = true then ((igo x l).1 ++ [b], true) else if ilt x b = true then ((igo x l).1 ++ [x, b], true) else ((igo x l).1 ++ [b], false)
  | [] => by simp only [List.nil_append, igo]; split <;> simp
  | y :: l => by
    have ih := igo_snoc x b l
    rw [List.cons_append, igo, igo]
    split
    · simp
    · rw [ih]
      split
      · simp_all
      · split <;> simp_all
theorem igo_len (x : In) : ∀ l : List In, (igo x l).1.length ≤ l.length + 1
  | [] => by simp [igo]
  | y :: l => by
    have := igo_len x l
    unfold igo
    split
    · simp
    · simp; omega
theorem iw_step (n : Int) {l : List In} {k : Nat} (h : k < l.length) : iw n (l.take k) (l.drop k) = if wr13 n (l.take k) l[k] ≠ 0 then wr13 n (l.take k) l[k] else iw n (l.take (k + 1)) (l.drop (k + 1)) := by
  rw [List.drop_eq_getElem_cons h, iw, List.take_succ_eq_append_getElem h, wr13]
  by_cases a : iwr n l[k] = 0
  · by_cases b : (l.take k).any (fun b => b.id == l[k].id) = true
    · simp [a, b]
    · simp [a, b]
  · simp [a]
theorem rows_takeN {α : Type} {enc : α → List Value} {k : Nat} {w : World} {A : Option Addr} {l : List α} (h : RowsAt enc k w A l) (j : Nat) : RowsAt enc k w A (l.take j) := by
  intro hl
  rw [List.length_take] at hl
  obtain ⟨b, off, rfl, h1, h2⟩ := h (by omega)
  exact ⟨b, off, rfl, h1, fun i hi c hc => by
    rw [h2 i (by rw [List.length_take] at hi; omega) c hc, List.getElem_take]⟩
theorem own_set_ne {w : World} {base : Nat} {e : TypeId} {size : Nat} {v : Value} {n : Nat} {xs : List Value} (h : w.ownsRow base e size v n xs) {b : Nat} (hb : ∀ g, v.ownBlock = some g → g ≠ b) (k : Nat) (u : Value) : (w.setCell ⟨b, k, none⟩ u).ownsRow base e size v n xs := by
  refine ⟨h.1, ?_⟩
  rcases h.2 with h2 | ⟨g, cap, cur, rfl, hB, c, h3⟩
  · exact .inl h2
  · exact .inr ⟨g, cap, cur, rfl, hB, (Below.heap_setCell w ⟨b, k, none⟩ u g (by simpa using hb g rfl)).trans c, h3⟩
/-- What New answers. -/
def NewRes (n : Int) (l : List In) (w : World) (r : Int) (e : Ending) (w' : World) : Prop := ∃ nn A2 m2 c2, e = .returned (.agg #[.int .i64 nn, .slice A2 m2 c2, .int .i64 r]) ∧ (r = 0 → nn = n ∧ m2 = l.length ∧ RowsAt encI 5 w' A2 (ord ilt (l.map icl))) ∧ Below w.heap.size w w'
set_option maxHeartbeats 16000000 in
set_option maxRecDepth 100000 in
theorem rNew13_any (n : Int) (A : Option Addr) (m c : Nat) (l : List In) (w : World) (hA : RowsAt encI 5 w A l) (hcap : Caps A m c) (hl : l.length = m) (htx : ∀ a ∈ l, a.tx.size ≤ 100000000) (r : Int) (hr : iwrong n l = r) :
    Calls Tryz.prog 7 #[.int .i64 n, .slice A m c] w (NewRes n l w r) := by
  have ST := in_slt
  have HR := Lib.hid hr
  have HL := Lib.hid hl
  have HC := Lib.hid hcap
  have HA := Lib.hid hA
  have HTX := Lib.hid htx
  clear hA hl hcap hr htx
  by_cases g1 : n < 0
  · have k1 : decide (n < 0) = true := decide_eq_true g1
    have e : r = 1 := by rw [← HR.out]; unfold iwrong; rw [if_pos (.inl g1)]
    subst e
    clear HR
    go_enter Tryz.func7, Tryz.ntmps7
    go_wp2
    refine bodyPost_ret (v := .agg #[.int .i64 0, .slice none 0 0, .int .i64 1]) (by simp [results, Tryz.results7, go_sem]) rfl ⟨0, none, 0, 0, rfl, fun h => absurd h (by decide), (Below.refl _ _).alloc (Nat.le_refl _) _⟩
  · have k1 : decide (n < 0) = false := decide_eq_false g1
    by_cases g2 : 1099511627776 < n
    · have k2 : decide (1099511627776 < n) = true := decide_eq_true g2
      have e : r = 1 := by rw [← HR.out]; unfold iwrong; rw [if_pos (.inr g2)]
      subst e
      clear HR
      go_enter Tryz.func7, Tryz.ntmps7
      go_wp2
      refine bodyPost_ret (v := .agg #[.int .i64 0, .slice none 0 0, .int .i64 1]) (by simp [results, Tryz.results7, go_sem]) rfl ⟨0, none, 0, 0, rfl, fun h => absurd h (by decide), (Below.refl _ _).alloc (Nat.le_refl _) _⟩
    · have k2 : decide (1099511627776 < n) = false := decide_eq_false g2
      by_cases g3 : 60 < m
      · have k3 : decide (60 < m) = true := decide_eq_true g3
        have k4 : decide ((60 : Int) < (m : Int)) = true := decide_eq_true (by omega)
        have e : r = 5 := by rw [← HR.out]; unfold iwrong; rw [if_neg (by omega), if_pos (by rw [HL.out]; exact g3)]
        subst e
        clear HR
        go_enter Tryz.func7, Tryz.ntmps7
        go_wp2
        refine bodyPost_ret (v := .agg #[.int .i64 0, .slice none 0 0, .int .i64 5]) (by simp [results, Tryz.results7, go_sem]) rfl ⟨0, none, 0, 0, rfl, fun h => absurd h (by decide), (Below.refl _ _).alloc (Nat.le_refl _) _⟩
      · have k3 : decide (60 < m) = false := decide_eq_false g3
        have k4 : decide ((60 : Int) < (m : Int)) = false := decide_eq_false (by omega)
        have e : r = iw n [] l := by rw [← HR.out]; unfold iwrong; rw [if_neg (by omega), if_neg (by rw [HL.out]; exact g3)]
        have x1 : Below w.heap.size w (w.alloc (.cells #[.int .i64 0, .slice none 0 0, .int .i64 0] 35)) := (Below.refl _ _).alloc (Nat.le_refl _) _
        have r1 : RawAt 35 (w.alloc (.cells #[.int .i64 0, .slice none 0 0, .int .i64 0] 35)) w.heap.size #[.int .i64 0, .slice none 0 0, .int .i64 0] := heap_alloc_new w _
        have hz1 : w.heap.size < (w.alloc (.cells #[.int .i64 0, .slice none 0 0, .int .i64 0] 35)).heap.size := by simp
        obtain ⟨W1, hW1⟩ : ∃ W1, W1 = w.alloc (.cells #[.int .i64 0, .slice none 0 0, .int .i64 0] 35) := ⟨_, rfl⟩
        rw [← hW1] at x1 r1 hz1
        have HR2 := Lib.hid e
        have HW1 := Lib.hid hW1
        have X1 := Lib.hid x1
        have R1 := Lib.hid r1
        have HZ1 := Lib.hid hz1
        clear HR e hW1 x1 r1 hz1
        go_enter Tryz.func7, Tryz.ntmps7
        go_wp2_with fail
        rw [← HW1.out]
        go_loopg [5, 26] m (fun g v i wr => ∃ (k : Nat), i = .int .i64 k ∧ k ≤ m ∧ m - k ≤ g ∧ Hid (Below W1.heap.size W1 wr) ∧ Hid (wr.ownsRow W1.heap.size 56 5 v k (kfl encI (ord ilt ((l.take k).map icl)))) ∧ Hid (r = iw n (l.take k) (l.drop k)))
        case atStart => exact ⟨0, rfl, by omega, by omega, Lib.hid (Below.refl _ _), Lib.hid (World.ownsRow_nil _ _ _ _), HR2⟩
        case round =>
          clear HR2 HW1
          obtain ⟨k, rfl, h1, h2, hb, hown, hst⟩ := hrel
          obtain ⟨gO, hgO⟩ : ∃ g, g = gk := ⟨_, rfl⟩
          subst hgO
          by_cases hlt : k < m
          · have hkl : k < l.length := by rw [HL.out]; exact hlt
            obtain ⟨bA, off, rfl, hbA, d0, d1, d2, d3, d4⟩ := (HA.out.below (X1.out.trans (hb.out.mono X1.out.size))).in5 hkl
            have hts := HTX.out _ (List.getElem_mem hkl)
            have hst2 := hst.out
            rw [iw_step n hkl] at hst2
            have htk : l.take (k + 1) = l.take k ++ [l[k]] := by rw [List.take_succ_eq_append_getElem hkl]
            have HTK := Lib.hid htk
            have HST := Lib.hid hst2
            clear htk hst2 hst
            generalize l[k] = a at *
            have i1 : (0 : Int) ≤ k := by omega
            have i2 : (k : Int) < m := by omega
            have i3 : k ≤ c := Nat.le_trans h1 HC.out.1
            have i4 : (k : Int) ≤ c := by omega
            have x3 : Below wr.heap.size wr (wr.alloc (.cells #[.int .i64 a.id, .int .i64 a.pl, .int .i64 a.bi, .int .i64 a.ky, .string a.tx] 56)) := (Below.refl _ _).alloc (Nat.le_refl _) _
            have R3 : RawAt 56 (wr.alloc (.cells #[.int .i64 a.id, .int .i64 a.pl, .int .i64 a.bi, .int .i64 a.ky, .string a.tx] 56)) wr.heap.size #[.int .i64 a.id, .int .i64 a.pl, .int .i64 a.bi, .int .i64 a.ky, .string a.tx] := heap_alloc_new wr _
            have HB3 := Lib.hid (hb.out.trans (x3.mono hb.out.size))
            have HO3 := Lib.hid (own_below hown.out x3)
            have HRT := Lib.hid (rows_takeN (HA.out.below (X1.out.trans (HB3.out.mono X1.out.size))) k)
            have hlk : (l.take k).length = k := by rw [List.length_take, Nat.min_eq_left (by omega)]
            have hZb : W1.heap.size ≤ wr.heap.size := hb.out.size
            have hkz : W1.heap.size < wr.heap.size + 1 := by omega
            obtain ⟨W3, hW3⟩ : ∃ W3, W3 = wr.alloc (.cells #[.int .i64 a.id, .int .i64 a.pl, .int .i64 a.bi, .int .i64 a.ky, .string a.tx] 56) := ⟨_, rfl⟩
            rw [← hW3] at HB3 HO3 HRT R3 x3
            have HW3 := Lib.hid hW3
            have HR3 := Lib.hid R3
            have MK : Hid (∀ W : World, Below W3.heap.size W3 W → W.cell? ⟨wr.heap.size, 0, none⟩ = some (.int .i64 a.id) ∧ W.cell? ⟨wr.heap.size, 1, none⟩ = some (.int .i64 a.pl) ∧ W.cell? ⟨wr.heap.size, 2, none⟩ = some (.int .i64 a.bi) ∧ W.cell? ⟨wr.heap.size, 3, none⟩ = some (.int .i64 a.ky) ∧ W.cell? ⟨wr.heap.size, 4, none⟩ = some (.string a.tx)) := Lib.hid fun W hW => by
              have q := RawAt.below HR3.out hW HR3.out.lt
              have e0 := RawAt.cell q 0
              have e1 := RawAt.cell q 1
              have e2 := RawAt.cell q 2
              have e3 := RawAt.cell q 3
              have e4 := RawAt.cell q 4
              simp at e0 e1 e2 e3 e4
              exact ⟨e0, e1, e2, e3, e4⟩
            have hW2 : Below W3.heap.size W3 W3.drew := (Below.refl _ _).drew
            have HIA : Hid (Below wr.heap.size wr W3) := Lib.hid x3
            have HNE : Hid (∀ g, u5.ownBlock = some g → g ≠ wr.heap.size) := Lib.hid fun g hg => Nat.ne_of_lt (hown.out.lt g hg).2
            clear hb hown hW3 R3 x3 hkz
            by_cases hz : wr13 n (l.take k) a = 0
            · have HST2 : Hid (r = iw n (l.take (k + 1)) (l.drop (k + 1))) := Lib.hid (by rw [HST.out, if_neg (fun h => h hz)])
              have CWR := Lib.hid fun (W : World) (hW : Below W3.heap.size W3 W) => rwrong13_any n (some ⟨bA, off, none⟩) k c (l.take k) a W (HRT.out.below hW) hlk (by omega) hts 0 hz.symm
              clear HST hz HRT
              go_wp2_with fail
              rw [← HW3.out]
              refine wp_region_noPanic ?_
              refine wp_region_held_drew (S := (fun W => W.cell? ⟨wr.heap.size, 0, none⟩ = some (.int .i64 a.id) ∧ W.cell? ⟨wr.heap.size, 1, none⟩ = some (.int .i64 a.pl) ∧ W.cell? ⟨wr.heap.size, 2, none⟩ = some (.int .i64 a.bi) ∧ W.cell? ⟨wr.heap.size, 3, none⟩ = some (.int .i64 a.ky) ∧ W.cell? ⟨wr.heap.size, 4, none⟩ = some (.string a.tx))) (by kernel_rfl) (MK.out _ hW2) (fun hHeld => ?_)
              refine wpAnyH_take (i := 0) (v := ?_) rfl (by kernel_rfl) (by kernel_rfl) (by kernel_rfl) (fun _ _ _ h => h) (Or.inl ⟨by rfl, ?_⟩) hHeld ?_
              rotate_left
              · intro w hSw; (try dsimp only at hSw); go_simp; try with_reducible rfl
              go_simp
              refine wpAnyH_take (i := 1) (v := ?_) rfl (by kernel_rfl) (by kernel_rfl) (by kernel_rfl) (fun _ _ _ h => h) (Or.inl ⟨by rfl, ?_⟩) hHeld ?_
              rotate_left
              · intro w hSw; (try dsimp only at hSw); go_simp; try with_reducible rfl
              go_simp
              refine wpAnyH_take (i := 2) (v := ?_) rfl (by kernel_rfl) (by kernel_rfl) (by kernel_rfl) (fun _ _ _ h => h) (Or.inl ⟨by rfl, ?_⟩) hHeld ?_
              rotate_left
              · intro w hSw; (try dsimp only at hSw); go_simp; try with_reducible rfl
              go_simp
              refine wpAnyH_take (i := 3) (v := ?_) rfl (by kernel_rfl) (by kernel_rfl) (by kernel_rfl) (fun _ _ _ h => h) (Or.inl ⟨by rfl, ?_⟩) hHeld ?_
              rotate_left
              · intro w hSw; (try dsimp only at hSw); go_simp; try with_reducible rfl
              go_simp
              refine wpAnyH_take (i := 4) (v := ?_) rfl (by kernel_rfl) (by kernel_rfl) (by kernel_rfl) (fun _ _ _ h => h) (Or.inl ⟨by rfl, ?_⟩) hHeld ?_
              rotate_left
              · intro w hSw; (try dsimp only at hSw); go_simp; try with_reducible rfl
              go_simp
              refine wpAnyH_ready (rs := [5]) (by kernel_rfl) (by simp) ?_
              refine AllReadyH.cons rfl (fun K hK => ?_) ?_
              rotate_left
              · exact AllReadyH.nil
              go_simp
              go_wp2_with (first | (go_at_call 25; ((with_reducible refine (CWR.out _ hW2).mono ?_); rintro e w4 ⟨rfl, hb4⟩); have hW2 := hW2.trans (hb4.mono hW2.size)))
              refine hK.out _ _ (MK.out _ hW2) (fun hHeld => ?_)
              clear hK K
              go_simp
              refine wpAnyH_take (i := 6) (v := ?_) rfl (by kernel_rfl) (by kernel_rfl) (by kernel_rfl) (fun _ _ _ h => h) (Or.inl ⟨by rfl, ?_⟩) hHeld ?_
              rotate_left
              · intro w hSw; (try dsimp only at hSw); go_simp; try with_reducible rfl
              go_simp
              refine wpAnyH_done (by kernel_rfl) ?_ _
              refine NoPanic.normal ?_
              have HB4 := Lib.hid (HB3.out.trans (hW2.mono HB3.out.size))
              have HO4 := Lib.hid (own_below HO3.out hW2)
              have HR4 := Lib.hid (RawAt.below HR3.out hW2 HR3.out.lt)
              have e4 := RawAt.cell HR4.out 4
              simp at e4
              have hdl := dec_len a.tx
              have CD := Lib.hid fun (W : World) => rdecode_any a.tx W (by omega)
              generalize hdle : (dec a.tx).length = dl at CD hdl
              have HDL := Lib.hid hdle
              obtain ⟨ca, hca⟩ : ∃ x, x = icl a := ⟨_, rfl⟩
              have HCA := Lib.hid hca
              have HTC : Hid ((⟨(encAll (dec a.tx)).toArray⟩ : ByteArray) = ca.tx) := Lib.hid (by rw [hca]; rfl)
              obtain ⟨o, ho⟩ : ∃ o, o = ord ilt ((l.take k).map icl) := ⟨_, rfl⟩
              have HO := Lib.hid ho
              rw [← ho] at HO4
              clear hW2 hHeld CWR MK hdle hca ho HO3 HB3
              go_wp2_with fail
              with_reducible refine (CD.out _).mono ?_
              rintro e w5 ⟨A5, c5, rfl, b5, I5, _⟩
              have CE := Lib.hid (rencode_any A5 dl c5 (dec a.tx) w5 I5 HDL.out (by omega))
              rw [HTC.out] at CE
              have HB5 := Lib.hid (HB4.out.trans (b5.mono HB4.out.size))
              have HO5 := Lib.hid (own_below HO4.out b5)
              have HR5 := Lib.hid (RawAt.below HR4.out b5 HR4.out.lt)
              clear b5 I5 CD HB4 HO4 HR4 e4
              go_wp2_with fail
              with_reducible refine (CE.out).mono ?_
              rintro e w6 ⟨rfl, b6⟩
              have HB6 := Lib.hid (HB5.out.trans (b6.mono HB5.out.size))
              have HO6 := Lib.hid (own_below HO5.out b6)
              have HR6 := Lib.hid (RawAt.below HR5.out b6 HR5.out.lt)
              have e4 := RawAt.cell HR6.out 4
              have f4 := RawAt.free HR6.out 4
              simp at e4
              have hRV : RawAt 56 (w6.setCell ⟨wr.heap.size, 4, none⟩ (.string ca.tx)) wr.heap.size #[.int .i64 ca.id, .int .i64 ca.pl, .int .i64 ca.bi, .int .i64 ca.ky, .string ca.tx] := (HR6.out.set_ 4 (.string ca.tx)).of_eq (by rw [HCA.out]; rfl)
              have hBV := HB6.out.setCell (p := ⟨wr.heap.size, 4, none⟩) hZb (.string ca.tx)
              have hOV := own_set_ne HO6.out (b := wr.heap.size) HNE.out 4 (.string ca.tx)
              obtain ⟨V, hV⟩ : ∃ V, V = w6.setCell ⟨wr.heap.size, 4, none⟩ (.string ca.tx) := ⟨_, rfl⟩
              rw [← hV] at hRV hBV hOV
              have HV := Lib.hid hV
              have HRV := Lib.hid hRV
              have HBV := Lib.hid hBV
              obtain ⟨A3, c3, h3, hR3, hol, _⟩ := rows_of_own encI_len (by omega) hOV
              subst h3
              have HRO := Lib.hid hR3
              have HOL := Lib.hid hol
              have hwB : W1.heap.size ≤ V.heap.size := hBV.size
              clear b6 CE HB5 HO5 HR5 HB6 HO6 HR6 hRV hBV hOV hV hR3 hol HTC HDL hdl
              go_wp2_with fail
              rw [← HV.out]
              clear e4 f4 HV HW3 HR3 HIA HNE
              generalize hbx : wr.heap.size = bX at *
              clear hbx
              have hbXV := HRV.out.lt
              go_loopg [9, 10, 48] k (fun g v pt i wr2 => ∃ (j : Nat), i = .int .i64 j ∧ j ≤ k ∧ k - j ≤ g ∧ pt = .bool (igo ca (o.take j)).2 ∧ Hid (Below V.heap.size V wr2) ∧ Hid (wr2.ownsRow V.heap.size 56 5 v (igo ca (o.take j)).1.length (kfl encI (igo ca (o.take j)).1)))
              case atStart => exact ⟨0, rfl, by omega, by omega, rfl, Lib.hid (Below.refl _ _), Lib.hid (World.ownsRow_nil _ _ _ _)⟩
              case round =>
                obtain ⟨j, rfl, j1, j2, rfl, hbw, hown⟩ := hrel
                have hwB2 := hbw.out.size
                have hlt4 := hown.out.lt
                by_cases hlt2 : j < k
                · have hjl : j < o.length := by rw [HOL.out]; exact hlt2
                  obtain ⟨bO, off2, rfl, hbO, u0, u1, u2, u3, u4⟩ := (HRO.out.below hbw.out).in5 hjl
                  have hts : igo ca (o.take (j + 1)) = igo ca (o.take j ++ [o[j]]) := by rw [List.take_succ_eq_append_getElem hjl]
                  rw [igo_snoc] at hts
                  have hql := igo_len ca (o.take j)
                  rw [List.length_take] at hql
                  generalize o[j] = b at *
                  have HN := Lib.hid hts
                  clear hts
                  obtain ⟨A5, c5, rfl⟩ := own_formI hown.out
                  generalize (igo ca (o.take j)).1 = L0 at *
                  generalize (igo ca (o.take j)).2 = pb at *
                  generalize hq0 : L0.length = q at *
                  have HQ0 := Lib.hid hq0
                  clear hq0
                  have i3 : (0 : Int) ≤ j := by omega
                  have i4' : (j : Int) < k := by omega
                  have x6 : Below wr.heap.size wr (wr.alloc (.cells #[.int .i64 b.id, .int .i64 b.pl, .int .i64 b.bi, .int .i64 b.ky, .string b.tx] 56)) := (Below.refl _ _).alloc (Nat.le_refl _) _
                  have R6 : RawAt 56 (wr.alloc (.cells #[.int .i64 b.id, .int .i64 b.pl, .int .i64 b.bi, .int .i64 b.ky, .string b.tx] 56)) wr.heap.size #[.int .i64 b.id, .int .i64 b.pl, .int .i64 b.bi, .int .i64 b.ky, .string b.tx] := heap_alloc_new wr _
                  have HRA6 := Lib.hid (RawAt.below HRV.out (hbw.out.trans (x6.mono hbw.out.size)) HRV.out.lt)
                  have HR6 := Lib.hid R6
                  have HW6 := Lib.hid (hbw.out.trans (x6.mono hbw.out.size))
                  have HO6 := Lib.hid (own_below hown.out x6)
                  have hz6 : (wr.alloc (.cells #[.int .i64 b.id, .int .i64 b.pl, .int .i64 b.bi, .int .i64 b.ky, .string b.tx] 56)).heap.size = wr.heap.size + 1 := by simp
                  generalize hW6 : wr.alloc (.cells #[.int .i64 b.id, .int .i64 b.pl, .int .i64 b.bi, .int .i64 b.ky, .string b.tx] 56) = W6 at HR6 HRA6 HW6 HO6 hz6
                  have HWE := Lib.hid hW6
                  clear hbw hown x6 R6 hW6
                  cases pb with
                  | true =>
                    have HN2 : Hid (igo ca (o.take (j + 1)) = (L0 ++ [b], true)) := Lib.hid (by rw [HN.out, if_pos rfl])
                    clear HN
                    have x7 : Below W6.heap.size W6 (W6.alloc (.cells #[.int .i64 b.id, .int .i64 b.pl, .int .i64 b.bi, .int .i64 b.ky, .string b.tx] 56)) := (Below.refl _ _).alloc (Nat.le_refl _) _
                    have R7 : RawAt 56 (W6.alloc (.cells #[.int .i64 b.id, .int .i64 b.pl, .int .i64 b.bi, .int .i64 b.ky, .string b.tx] 56)) W6.heap.size #[.int .i64 b.id, .int .i64 b.pl, .int .i64 b.bi, .int .i64 b.ky, .string b.tx] := heap_alloc_new W6 _
                    have HS7 : Hid (RowsAt encI 5 (W6.alloc (.cells #[.int .i64 b.id, .int .i64 b.pl, .int .i64 b.bi, .int .i64 b.ky, .string b.tx] 56)) (some ⟨wr.heap.size + 1, 0, none⟩) [b]) := Lib.hid (by rw [← hz6]; exact rows_of_block (enc := encI) (k := 5) encI_len R7 (l := [b]) rfl)
                    have HO7 := Lib.hid (own_below HO6.out x7)
                    have HW7 := Lib.hid (HW6.out.trans (x7.mono HW6.out.size))
                    clear x7 R7 HO6 HW6 HRA6 HR6 hz6
                    rw [← HWE.out] at HS7 HO7 HW7
                    go_wp2_with (at_builtin; refine wpList_appK (enc := encI) ST encI_len (by omega) rfl (.tmp 63) (.tmp 65) rfl (base := V.heap.size) (v := .slice A5 q c5) rfl HO7.out _ 1 1 [b] rfl HS7.out ⟨Nat.le_refl _, fun h => by cases h⟩ rfl (kfl_one' encI_one _) (by simp only [maxLen]; omega) (by omega) HW7.out.size ?_; intro v8 w8 hown8 hg8 hor8)
                    have hw8 := Lib.hid (HW7.out.grown hg8 HW7.out.size (fun j hj => (hlt4 j hj).1))
                    have hO8 : Hid (w8.ownsRow V.heap.size 56 5 v8 (igo ca (o.take (j + 1))).1.length (kfl encI (igo ca (o.take (j + 1))).1)) := Lib.hid (by rw [HN2.out]; simp only [List.length_append, kfl_append]; rw [HQ0.out]; exact hown8)
                    clear hown8 hg8 hor8 HO7 HS7 HW7
                    go_wp2
                    go_roundg (gk - 1)
                    case measure => omega
                    case rel => exact ⟨j + 1, by go_num, by omega, by omega, by rw [HN2.out], hw8, hO8⟩
                  | false =>
                    obtain ⟨ab, hab⟩ : ∃ z, z = ilt ca b := ⟨_, rfl⟩
                    have CAH := Lib.hid fun (W : World) => iahead_any ca b W ab hab
                    have hnn := HN.out
                    rw [← hab] at hnn
                    have HNN := Lib.hid hnn
                    clear hab hnn HN
                    cases ab with
                    | true =>
                      have HN2 : Hid (igo ca (o.take (j + 1)) = (L0 ++ [ca, b], true)) := Lib.hid (by rw [HNN.out, if_neg (by simp), if_pos rfl])
                      clear HNN
                      have RA7 := HRA6.out
                      have RY7 := HR6.out
                      rw [← HWE.out] at RA7 RY7
                      have g0 := RawAt.cell RA7 0
                      have g1 := RawAt.cell RA7 1
                      have g2 := RawAt.cell RA7 2
                      have g3 := RawAt.cell RA7 3
                      have g4 := RawAt.cell RA7 4
                      simp at g0 g1 g2 g3 g4
                      have y0 := RawAt.cell RY7 0
                      have y1 := RawAt.cell RY7 1
                      have y2 := RawAt.cell RY7 2
                      have y3 := RawAt.cell RY7 3
                      have y4 := RawAt.cell RY7 4
                      simp at y0 y1 y2 y3 y4
                      clear RA7 RY7
                      go_wp2_with fail
                      rw [HWE.out]
                      with_reducible refine (CAH.out _).mono ?_
                      rintro e w7 ⟨rfl, b7⟩
                      have HRX := Lib.hid (RawAt.below HRA6.out b7 HRA6.out.lt)
                      have HRY := Lib.hid (RawAt.below HR6.out b7 HR6.out.lt)
                      have HO9 := Lib.hid (own_below HO6.out b7)
                      have HW9 := Lib.hid (HW6.out.trans (b7.mono HW6.out.size))
                      generalize hwy : wr.heap.size = wy at *
                      have HWYE := Lib.hid hwy
                      clear hwy
                      clear HRA6 HR6 HO6 HW6 b7 CAH hz6 HWE
                      clear g0 g1 g2 g3 g4 y0 y1 y2 y3 y4
                      have x7 : Below w7.heap.size w7 (w7.alloc (.cells #[.int .i64 ca.id, .int .i64 ca.pl, .int .i64 ca.bi, .int .i64 ca.ky, .string ca.tx] 56)) := (Below.refl _ _).alloc (Nat.le_refl _) _
                      have R7 : RawAt 56 (w7.alloc (.cells #[.int .i64 ca.id, .int .i64 ca.pl, .int .i64 ca.bi, .int .i64 ca.ky, .string ca.tx] 56)) w7.heap.size #[.int .i64 ca.id, .int .i64 ca.pl, .int .i64 ca.bi, .int .i64 ca.ky, .string ca.tx] := heap_alloc_new w7 _
                      have HS7 := Lib.hid (rows_of_block (enc := encI) (k := 5) encI_len R7 (l := [ca]) rfl)
                      have HO7 := Lib.hid (own_below HO9.out x7)
                      have HW7 := Lib.hid (HW9.out.trans (x7.mono HW9.out.size))
                      have HRY7 := Lib.hid (RawAt.below HRY.out x7 HRY.out.lt)
                      have g0 := RawAt.cell HRX.out 0
                      have g1 := RawAt.cell HRX.out 1
                      have g2 := RawAt.cell HRX.out 2
                      have g3 := RawAt.cell HRX.out 3
                      have g4 := RawAt.cell HRX.out 4
                      simp at g0 g1 g2 g3 g4
                      clear x7 R7 HO9 HW9 HRX HRY
                      go_wp2_with (first | (at_builtin; refine wpList_appK (enc := encI) ST encI_len (by omega) rfl (.tmp 59) (.tmp 61) rfl (base := V.heap.size) (v := .slice A5 q c5) rfl HO7.out _ 1 1 [ca] rfl HS7.out ⟨Nat.le_refl _, fun h => by cases h⟩ rfl (kfl_one' encI_one _) (by simp only [maxLen]; omega) (by omega) HW7.out.size ?_; intro v8 w8 hown8 hg8 hor8; obtain ⟨A8, c8, rfl⟩ := own_formI hown8; have hw8 := Lib.hid (HW7.out.grown hg8 HW7.out.size (fun j hj => (hlt4 j hj).1)); have hrb8 := (hg8.block wy HRY7.out.lt (fun hk => by have := (hlt4 _ hk.symm).2; omega)).trans HRY7.out; have hrb8 : RawAt 56 w8 wy #[.int .i64 b.id, .int .i64 b.pl, .int .i64 b.bi, .int .i64 b.ky, .string b.tx] := hrb8; have hlt8 := hown8.lt; have y0 := RawAt.cell hrb8 0; have y1 := RawAt.cell hrb8 1; have y2 := RawAt.cell hrb8 2; have y3 := RawAt.cell hrb8 3; have y4 := RawAt.cell hrb8 4; simp at y0 y1 y2 y3 y4; have x9 : Below w8.heap.size w8 (w8.alloc (.cells #[.int .i64 b.id, .int .i64 b.pl, .int .i64 b.bi, .int .i64 b.ky, .string b.tx] 56)) := (Below.refl _ _).alloc (Nat.le_refl _) _; have R9 : RawAt 56 (w8.alloc (.cells #[.int .i64 b.id, .int .i64 b.pl, .int .i64 b.bi, .int .i64 b.ky, .string b.tx] 56)) w8.heap.size #[.int .i64 b.id, .int .i64 b.pl, .int .i64 b.bi, .int .i64 b.ky, .string b.tx] := heap_alloc_new w8 _; have HS9 := Lib.hid (rows_of_block (enc := encI) (k := 5) encI_len R9 (l := [b]) rfl); have HO9 := Lib.hid (own_below hown8 x9); have HW9 := Lib.hid (hw8.out.trans (x9.mono hw8.out.size)); clear hown8 hg8 hor8 HO7 HS7 HW7 HRY7 hw8 hrb8 x9 R9) | (at_builtin; refine wpList_appK (enc := encI) ST encI_len (by omega) rfl (.tmp 63) (.tmp 65) rfl (base := V.heap.size) (v := .slice A8 (q + 1) c8) rfl HO9.out _ 1 1 [b] rfl HS9.out ⟨Nat.le_refl _, fun h => by cases h⟩ rfl (kfl_one' encI_one _) (by simp only [maxLen]; omega) (by omega) HW9.out.size ?_; intro v10 w10 hown10 hg10 hor10))
                      have hw10 := Lib.hid (HW9.out.grown hg10 HW9.out.size (fun j hj => (hlt8 j hj).1))
                      have hO10 : Hid (w10.ownsRow V.heap.size 56 5 v10 (igo ca (o.take (j + 1))).1.length (kfl encI (igo ca (o.take (j + 1))).1)) := Lib.hid (by rw [HN2.out, show L0 ++ [ca, b] = L0 ++ [ca] ++ [b] by simp]; simp only [List.length_append, kfl_append]; rw [HQ0.out]; exact hown10)
                      clear hown10 hg10 hor10 HO9 HS9 HW9
                      go_wp2
                      go_roundg (gk - 1)
                      case measure => omega
                      case rel => exact ⟨j + 1, by go_num, by omega, by omega, by rw [HN2.out], hw10, hO10⟩
                    | false =>
                      have HN2 : Hid (igo ca (o.take (j + 1)) = (L0 ++ [b], false)) := Lib.hid (by rw [HNN.out, if_neg (by simp), if_neg (by simp)])
                      clear HNN
                      have RA7 := HRA6.out
                      have RY7 := HR6.out
                      rw [← HWE.out] at RA7 RY7
                      have g0 := RawAt.cell RA7 0
                      have g1 := RawAt.cell RA7 1
                      have g2 := RawAt.cell RA7 2
                      have g3 := RawAt.cell RA7 3
                      have g4 := RawAt.cell RA7 4
                      simp at g0 g1 g2 g3 g4
                      have y0 := RawAt.cell RY7 0
                      have y1 := RawAt.cell RY7 1
                      have y2 := RawAt.cell RY7 2
                      have y3 := RawAt.cell RY7 3
                      have y4 := RawAt.cell RY7 4
                      simp at y0 y1 y2 y3 y4
                      clear RA7 RY7
                      go_wp2_with fail
                      rw [HWE.out]
                      with_reducible refine (CAH.out _).mono ?_
                      rintro e w7 ⟨rfl, b7⟩
                      have HRX := Lib.hid (RawAt.below HRA6.out b7 HRA6.out.lt)
                      have HRY := Lib.hid (RawAt.below HR6.out b7 HR6.out.lt)
                      have HO9 := Lib.hid (own_below HO6.out b7)
                      have HW9 := Lib.hid (HW6.out.trans (b7.mono HW6.out.size))
                      generalize hwy : wr.heap.size = wy at *
                      have HWYE := Lib.hid hwy
                      clear hwy
                      clear HRA6 HR6 HO6 HW6 b7 CAH hz6 HWE
                      clear g0 g1 g2 g3 g4 y0 y1 y2 y3 y4
                      have x7 : Below w7.heap.size w7 (w7.alloc (.cells #[.int .i64 b.id, .int .i64 b.pl, .int .i64 b.bi, .int .i64 b.ky, .string b.tx] 56)) := (Below.refl _ _).alloc (Nat.le_refl _) _
                      have R7 : RawAt 56 (w7.alloc (.cells #[.int .i64 b.id, .int .i64 b.pl, .int .i64 b.bi, .int .i64 b.ky, .string b.tx] 56)) w7.heap.size #[.int .i64 b.id, .int .i64 b.pl, .int .i64 b.bi, .int .i64 b.ky, .string b.tx] := heap_alloc_new w7 _
                      have HS7 := Lib.hid (rows_of_block (enc := encI) (k := 5) encI_len R7 (l := [b]) rfl)
                      have HO7 := Lib.hid (own_below HO9.out x7)
                      have HW7 := Lib.hid (HW9.out.trans (x7.mono HW9.out.size))
                      have y0 := RawAt.cell HRY.out 0
                      have y1 := RawAt.cell HRY.out 1
                      have y2 := RawAt.cell HRY.out 2
                      have y3 := RawAt.cell HRY.out 3
                      have y4 := RawAt.cell HRY.out 4
                      simp at y0 y1 y2 y3 y4
                      clear x7 R7 HO9 HW9 HRX HRY
                      go_wp2_with (at_builtin; refine wpList_appK (enc := encI) ST encI_len (by omega) rfl (.tmp 63) (.tmp 65) rfl (base := V.heap.size) (v := .slice A5 q c5) rfl HO7.out _ 1 1 [b] rfl HS7.out ⟨Nat.le_refl _, fun h => by cases h⟩ rfl (kfl_one' encI_one _) (by simp only [maxLen]; omega) (by omega) HW7.out.size ?_; intro v8 w8 hown8 hg8 hor8)
                      have hw8 := Lib.hid (HW7.out.grown hg8 HW7.out.size (fun j hj => (hlt4 j hj).1))
                      have hO8 : Hid (w8.ownsRow V.heap.size 56 5 v8 (igo ca (o.take (j + 1))).1.length (kfl encI (igo ca (o.take (j + 1))).1)) := Lib.hid (by rw [HN2.out]; simp only [List.length_append, kfl_append]; rw [HQ0.out]; exact hown8)
                      clear hown8 hg8 hor8 HO7 HS7 HW7
                      go_wp2
                      go_roundg (gk - 1)
                      case measure => omega
                      case rel => exact ⟨j + 1, by go_num, by omega, by omega, by rw [HN2.out], hw8, hO8⟩
                · obtain rfl : k = j := by omega
                  have e3 : o.take k = o := List.take_of_length_le (by rw [HOL.out]; exact Nat.le_refl _)
                  rw [e3] at hown ⊢
                  have hins := igo_ins ca o
                  have hord : ord ilt ((l.take (k + 1)).map icl) = ins ilt ca o := by rw [HTK.out, List.map_append, List.map_cons, List.map_nil, ord_snoc, ← HO.out, ← HCA.out]
                  have hlen : (ins ilt ca o).length = k + 1 := by rw [(ins_perm ilt ca o).length_eq, List.length_cons, HOL.out]
                  rw [hins] at hord hlen
                  have HORD := Lib.hid hord
                  have HLEN := Lib.hid hlen
                  obtain ⟨A5, c5, rfl⟩ := own_formI hown.out
                  clear hins hord hlen e3
                  generalize (igo ca o).1 = L0 at *
                  generalize (igo ca o).2 = pb at *
                  have HBW := Lib.hid (HBV.out.trans (hbw.out.mono HBV.out.size))
                  have RX := RawAt.below HRV.out hbw.out HRV.out.lt
                  have g0 := RawAt.cell RX 0
                  have g1 := RawAt.cell RX 1
                  have g2 := RawAt.cell RX 2
                  have g3 := RawAt.cell RX 3
                  have g4 := RawAt.cell RX 4
                  simp at g0 g1 g2 g3 g4
                  clear hbw RX
                  cases pb with
                  | true =>
                    have hl1 : L0.length = k + 1 := by have := HLEN.out; simpa using this
                    rw [hl1] at hown ⊢
                    clear hl1
                    go_wp2
                    go_roundg (gO - 1)
                    case measure => omega
                    case rel => exact ⟨k + 1, by go_num, by omega, by omega, HBW, Lib.hid (by rw [HORD.out]; simpa using own_baseI hown.out hwB), HST2⟩
                  | false =>
                    have hl1 : L0.length = k := by have := HLEN.out; simp at this; omega
                    rw [hl1] at hown hlt4 ⊢
                    have x7 : Below wr.heap.size wr (wr.alloc (.cells #[.int .i64 ca.id, .int .i64 ca.pl, .int .i64 ca.bi, .int .i64 ca.ky, .string ca.tx] 56)) := (Below.refl _ _).alloc (Nat.le_refl _) _
                    have R7 : RawAt 56 (wr.alloc (.cells #[.int .i64 ca.id, .int .i64 ca.pl, .int .i64 ca.bi, .int .i64 ca.ky, .string ca.tx] 56)) wr.heap.size #[.int .i64 ca.id, .int .i64 ca.pl, .int .i64 ca.bi, .int .i64 ca.ky, .string ca.tx] := heap_alloc_new wr _
                    have HS7 := Lib.hid (rows_of_block (enc := encI) (k := 5) encI_len R7 (l := [ca]) rfl)
                    have HO7 := Lib.hid (own_baseI (own_below hown.out x7) hwB)
                    have HB7 := Lib.hid (HBW.out.trans (x7.mono HBW.out.size))
                    clear x7 R7 hown hl1 HBW
                    go_wp2_with (at_builtin; refine wpList_appK (enc := encI) ST encI_len (by omega) rfl (.tmp 70) (.tmp 72) rfl (base := W1.heap.size) (v := .slice A5 k c5) rfl HO7.out _ 1 1 [ca] rfl HS7.out ⟨Nat.le_refl _, fun h => by cases h⟩ rfl (kfl_one' encI_one _) (by simp only [maxLen]; omega) (by omega) HB7.out.size ?_; intro v8 w8 hown8 hg8 hor8)
                    have hb8 := Lib.hid (HB7.out.grown hg8 HB7.out.size (fun j hj => Nat.le_trans hwB (hlt4 j hj).1))
                    have hO8 : Hid (w8.ownsRow W1.heap.size 56 5 v8 (k + 1) (kfl encI (ord ilt ((l.take (k + 1)).map icl)))) := Lib.hid (by rw [HORD.out]; simp only [Bool.false_eq_true, if_false, kfl_append]; exact hown8)
                    clear hown8 hg8 hor8 HO7 HS7 HB7
                    go_wp2
                    go_roundg (gO - 1)
                    case measure => omega
                    case rel => exact ⟨k + 1, by go_num, by omega, by omega, hb8, hO8, HST2⟩
            · have hr : wr13 n (l.take k) a = r := by rw [HST.out, if_pos hz]
              have hz2 : ¬ r = 0 := by rw [← hr]; exact hz
              have CWR := Lib.hid fun (W : World) (hW : Below W3.heap.size W3 W) => rwrong13_any n (some ⟨bA, off, none⟩) k c (l.take k) a W (HRT.out.below hW) hlk (by omega) hts r hr.symm
              have k5 : (r != 0) = true := by simp [hz2]
              have k6 : (r == 0) = false := by simp [hz2]
              have k7 : decide (r = 0) = false := decide_eq_false hz2
              have HG := Lib.hid hz2
              clear HST hz hr hz2 HRT
              go_wp2_with fail
              rw [← HW3.out]
              refine wp_region_noPanic ?_
              refine wp_region_held_drew (S := (fun W => W.cell? ⟨wr.heap.size, 0, none⟩ = some (.int .i64 a.id) ∧ W.cell? ⟨wr.heap.size, 1, none⟩ = some (.int .i64 a.pl) ∧ W.cell? ⟨wr.heap.size, 2, none⟩ = some (.int .i64 a.bi) ∧ W.cell? ⟨wr.heap.size, 3, none⟩ = some (.int .i64 a.ky) ∧ W.cell? ⟨wr.heap.size, 4, none⟩ = some (.string a.tx))) (by kernel_rfl) (MK.out _ hW2) (fun hHeld => ?_)
              refine wpAnyH_take (i := 0) (v := ?_) rfl (by kernel_rfl) (by kernel_rfl) (by kernel_rfl) (fun _ _ _ h => h) (Or.inl ⟨by rfl, ?_⟩) hHeld ?_
              rotate_left
              · intro w hSw; (try dsimp only at hSw); go_simp; try with_reducible rfl
              go_simp
              refine wpAnyH_take (i := 1) (v := ?_) rfl (by kernel_rfl) (by kernel_rfl) (by kernel_rfl) (fun _ _ _ h => h) (Or.inl ⟨by rfl, ?_⟩) hHeld ?_
              rotate_left
              · intro w hSw; (try dsimp only at hSw); go_simp; try with_reducible rfl
              go_simp
              refine wpAnyH_take (i := 2) (v := ?_) rfl (by kernel_rfl) (by kernel_rfl) (by kernel_rfl) (fun _ _ _ h => h) (Or.inl ⟨by rfl, ?_⟩) hHeld ?_
              rotate_left
              · intro w hSw; (try dsimp only at hSw); go_simp; try with_reducible rfl
              go_simp
              refine wpAnyH_take (i := 3) (v := ?_) rfl (by kernel_rfl) (by kernel_rfl) (by kernel_rfl) (fun _ _ _ h => h) (Or.inl ⟨by rfl, ?_⟩) hHeld ?_
              rotate_left
              · intro w hSw; (try dsimp only at hSw); go_simp; try with_reducible rfl
              go_simp
              refine wpAnyH_take (i := 4) (v := ?_) rfl (by kernel_rfl) (by kernel_rfl) (by kernel_rfl) (fun _ _ _ h => h) (Or.inl ⟨by rfl, ?_⟩) hHeld ?_
              rotate_left
              · intro w hSw; (try dsimp only at hSw); go_simp; try with_reducible rfl
              go_simp
              refine wpAnyH_ready (rs := [5]) (by kernel_rfl) (by simp) ?_
              refine AllReadyH.cons rfl (fun K hK => ?_) ?_
              rotate_left
              · exact AllReadyH.nil
              go_simp
              go_wp2_with (first | (go_at_call 25; ((with_reducible refine (CWR.out _ hW2).mono ?_); rintro e w4 ⟨rfl, hb4⟩); have hW2 := hW2.trans (hb4.mono hW2.size)))
              refine hK.out _ _ (MK.out _ hW2) (fun hHeld => ?_)
              clear hK K
              go_simp
              refine wpAnyH_take (i := 6) (v := ?_) rfl (by kernel_rfl) (by kernel_rfl) (by kernel_rfl) (fun _ _ _ h => h) (Or.inl ⟨by rfl, ?_⟩) hHeld ?_
              rotate_left
              · intro w hSw; (try dsimp only at hSw); go_simp; try with_reducible rfl
              go_simp
              refine wpAnyH_done (by kernel_rfl) ?_ _
              refine NoPanic.normal ?_
              have HB4 := HB3.out.trans (hW2.mono HB3.out.size)
              have r4 := RawAt.below R1.out HB4 HZ1.out
              have q0 := RawAt.cell r4 0
              have q1 := RawAt.cell r4 1
              have q2 := RawAt.cell r4 2
              have f0 := RawAt.free r4 0
              have f1 := RawAt.free r4 1
              have f2 := RawAt.free r4 2
              simp at q0 q1 q2
              have HR4 := Lib.hid r4
              have HBZ := Lib.hid (X1.out.trans (HB4.mono X1.out.size))
              clear hW2 hHeld CWR MK HB4 r4
              go_wp2
              have t0 := ((HR4.out.set_ 0 (.int .i64 0)).set_ 1 (.slice none 0 0)).set_ 2 (.int .i64 r)
              have z0 := RawAt.cell t0 0
              have z1 := RawAt.cell t0 1
              have z2 := RawAt.cell t0 2
              simp at z0 z1 z2
              refine bodyPost_ret (v := .agg #[.int .i64 0, .slice none 0 0, .int .i64 r]) (by simp [results, Tryz.results7, go_sem, z0, z1, z2]) rfl ⟨0, none, 0, 0, rfl, fun h => absurd h HG.out, ?_⟩
              exact (((HBZ.out.setCell (p := ⟨w.heap.size, 0, none⟩) (Nat.le_refl _) _).setCell (p := ⟨w.heap.size, 1, none⟩) (Nat.le_refl _) _).setCell (p := ⟨w.heap.size, 2, none⟩) (Nat.le_refl _) _)
          · obtain rfl : m = k := by omega
            have hr0 : r = 0 := by rw [hst.out, List.drop_of_length_le (by rw [HL.out]; exact Nat.le_refl _)]; rfl
            subst hr0
            have e2 : l.take m = l := List.take_of_length_le (by rw [HL.out]; exact Nat.le_refl _)
            have ho2 := hown.out
            rw [e2] at ho2
            obtain ⟨A3, c3, rfl⟩ := own_formI ho2
            have HO2 := Lib.hid ho2
            have r4 := RawAt.below R1.out hb.out HZ1.out
            have q0 := RawAt.cell r4 0
            have q1 := RawAt.cell r4 1
            have q2 := RawAt.cell r4 2
            have f0 := RawAt.free r4 0
            have f1 := RawAt.free r4 1
            have f2 := RawAt.free r4 2
            simp at q0 q1 q2
            have HR4 := Lib.hid r4
            have HBZ := Lib.hid (X1.out.trans (hb.out.mono X1.out.size))
            clear hst e2 ho2 hown hb r4
            go_wp2
            have t0 := ((HR4.out.set_ 0 (.int .i64 n)).set_ 1 (.slice A3 m c3)).set_ 2 (.int .i64 0)
            have z0 := RawAt.cell t0 0
            have z1 := RawAt.cell t0 1
            have z2 := RawAt.cell t0 2
            simp at z0 z1 z2
            have ho3 := own_set (own_set (own_set HO2.out HZ1.out 0 (.int .i64 n)) HZ1.out 1 (.slice A3 m c3)) HZ1.out 2 (.int .i64 0)
            obtain ⟨A4, c4, e4, hR4, _, _⟩ := rows_of_own encI_len (by omega) ho3
            injection e4 with e5 _ _
            subst e5
            refine bodyPost_ret (v := .agg #[.int .i64 n, .slice A3 m c3, .int .i64 0]) (by simp [results, Tryz.results7, go_sem, z0, z1, z2]) rfl ⟨n, A3, m, c3, rfl, fun _ => ⟨rfl, HL.out.symm, hR4⟩, ?_⟩
            exact (((HBZ.out.setCell (p := ⟨w.heap.size, 0, none⟩) (Nat.le_refl _) _).setCell (p := ⟨w.heap.size, 1, none⟩) (Nat.le_refl _) _).setCell (p := ⟨w.heap.size, 2, none⟩) (Nat.le_refl _) _)
end
end Go.Proofs.YtjkmkobnfhepaaaGreat
