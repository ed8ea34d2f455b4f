/- Plain facts on a rope's pieces and their sizes: nothing of the program. Plain facts on what a text's places, bytes and breaks are: nothing of the program. Plain facts on how runes are cut into pieces, and on what is put in the place of some: nothing of the program. -/
import Derived.Test.YtpnjokhhbjpciaaGreatDoorBase
import Derived.Test.YtpnjokhhbjpciaaGreatDoorTreeQ
namespace Go.Proofs.YtpnjokhhbjpciaaGreatDoor
open Go.RowKit
/-- How many breaks a text has. -/
def brks (l : List Int) : Nat := l.countP (fun r => r == 10)
/-- A text's sizes: its bytes, its runes, its breaks. -/
def szl (l : List Int) (d : Nat) : Int := if d = 0 then ((encAll l).length : Int) else if d = 1 then (l.length : Int) else (brks l : Int)
/-- A text's bytes. -/
def txt (q : List Int) : ByteArray := ⟨(encAll q).toArray⟩
/-- A piece as an item. -/
def pit (q : List Int) : I7 := ⟨0, 0, szl q 0, szl q 1, szl q 2, 0, txt q⟩
/-- Runes that have an encoding. -/
def Cln (l : List Int) : Prop := ∀ r ∈ l, hasR r = true
theorem encAll_append (a b : List Int) : encAll (a ++ b) = encAll a ++ encAll b := by simp [encAll, List.flatMap_append]
theorem szl_append (a b : List Int) (d : Nat) : szl (a ++ b) d = szl a d + szl b d := by
  unfold szl
  split
  · rw [encAll_append, List.length_append]; omega
  · split
    · rw [List.length_append]; omega
    · unfold brks; rw [List.countP_append]; omega
theorem szl_nil (d : Nat) : szl [] d = 0 := by unfold szl brks encAll; simp
theorem szl_nonneg (l : List Int) (d : Nat) : 0 ≤ szl l d := by unfold szl; split <;> (try split) <;> omega
theorem szl_le (l : List Int) (d : Nat) : szl l d ≤ 4 * l.length := by
  unfold szl
  have := encAll_len l
  have h2 : brks l ≤ l.length := List.countP_le_length
  split <;> (try split) <;> omega
theorem Cln.append_ {a b : List Int} (ha : Cln a) (hb : Cln b) : Cln (a ++ b) := fun r hr => (List.mem_append.1 hr).elim (ha r) (hb r)
theorem Cln.take_ {a : List Int} (ha : Cln a) (k : Nat) : Cln (a.take k) := fun r hr => ha r (List.mem_of_mem_take hr)
theorem Cln.drop_ {a : List Int} (ha : Cln a) (k : Nat) : Cln (a.drop k) := fun r hr => ha r (List.mem_of_mem_drop hr)
theorem Cln.map_ {l : List Int} (h : Cln l) : l.map cleanR = l := by
  induction l with
  | nil => rfl
  | cons r l ih =>
    rw [List.map_cons, ih (fun x hx => h x (List.mem_cons_of_mem _ hx))]
    unfold cleanR
    rw [if_pos (h r (List.mem_cons_self ..))]
theorem txt_size (l : List Int) : (txt l).size = (encAll l).length := by simp [txt, ByteArray.size]
theorem dec_txt {l : List Int} (h : Cln l) : dec (txt l) = l := by
  rw [dec_list, show (txt l).data.toList = encAll l from by simp [txt], decD_encAll, h.map_]
theorem cln_dec (s : ByteArray) : Cln (dec s) := by
  have h : (dec s).map cleanR = dec s := by rw [dec_list]; exact decoded_clean _ _
  intro r hr
  rw [← h] at hr
  obtain ⟨x, _, rfl⟩ := List.mem_map.1 hr
  unfold cleanR
  split
  · assumption
  · rfl
theorem hasR_fit {r : Int} (h : hasR r = true) : 0 ≤ r ∧ r ≤ 1114111 := by
  have := of_decide_eq_true h
  omega
theorem Cln.fit {l : List Int} (h : Cln l) : Fit l := fun x hx => by
  have := hasR_fit (h x hx)
  simp [Lit.wf, IntKind.min, IntKind.max, IntKind.signed, IntKind.bits]
  omega
/-- What a text's iterator finds at the place of a rune. -/
theorem iter_at {q : List Int} (h : Cln q) {i : Nat} (hi : i < q.length) : Utf8.decode (txt q) (encAll (q.take i)).length = ((nth q i).toNat, (Lib.encodeRune (nth q i)).length) ∧ (encAll (q.take i)).length < (txt q).size ∧ (encAll (q.take i)).length + (Lib.encodeRune (nth q i)).length = (encAll (q.take (i + 1))).length ∧ ((nth q i).toNat : Int) = nth q i := by
  have e : nth q i = q[i] := by simp [nth, List.getD, hi]
  have hm : nth q i ∈ q := by rw [e]; exact List.getElem_mem hi
  have hr := h _ hm
  have hd : (encAll q).drop (encAll (q.take i)).length = Lib.encodeRune (nth q i) ++ encAll (q.drop (i + 1)) := by
    conv => lhs; arg 2; rw [← List.take_append_drop i q, encAll_append]
    rw [List.drop_left, List.drop_eq_getElem_cons hi, e]
    unfold encAll
    rw [List.flatMap_cons]
  have hs := encAll_snoc hi
  refine ⟨?_, ?_, ?_, by have := hasR_fit hr; omega⟩
  · rw [← Lib.decodeL_drop, show (txt q).data.toList = encAll q from by simp [txt], hd, decode_encode]
    unfold cleanR
    rw [if_pos hr]
  · rw [txt_size]
    have h1 := congrArg List.length hd
    rw [List.length_drop, List.length_append] at h1
    have h2 : 0 < (Lib.encodeRune (nth q i)).length := List.length_pos_iff.2 (encodeRune_ne _)
    omega
  · rw [hs, List.length_append]
theorem nth_szl {q : List Int} {i : Nat} (hi : i < q.length) (d : Nat) : szl (q.take (i + 1)) d = szl (q.take i) d + szl [nth q i] d := by
  rw [← szl_append]
  congr 1
  rw [List.take_succ_eq_append_getElem hi]
  simp [nth, List.getD, hi]
/-- Sums of items, one size by itself. -/
theorem sall_d (l : List I7) (ho : Okl l) : (sall l).d0 = (l.map (·.d0)).sum ∧ (sall l).d1 = (l.map (·.d1)).sum ∧ (sall l).d2 = (l.map (·.d2)).sum := by
  have key : ∀ (n : Nat) (l : List I7), l.length = n → Okl l → (sall l).d0 = (l.map (·.d0)).sum ∧ (sall l).d1 = (l.map (·.d1)).sum ∧ (sall l).d2 = (l.map (·.d2)).sum := by
    intro n
    induction n with
    | zero => intro l hl _; obtain rfl := List.eq_nil_of_length_eq_zero hl; exact ⟨rfl, rfl, rfl⟩
    | succ n ih =>
      intro l hl ho
      have hlt : n < l.length := by omega
      have e1 : l = l.take n ++ [ith l n] := by rw [← take_ith l hlt, List.take_of_length_le (by omega)]
      have ih' := ih (l.take n) (by rw [List.length_take]; omega) (ho.take_ n)
      have hso := sall_ok n (l.take n) (by rw [List.length_take]; omega) (ho.take_ n)
      have hx := ith_mem l hlt
      generalize ith l n = x at *
      rw [e1, sall_snoc]
      simp only [List.map_append, List.map_cons, List.map_nil, List.sum_append, List.sum_cons, List.sum_nil]
      by_cases hz : n = 0
      · subst hz
        rw [s_zero hso, e_sadd]
        rw [s_zero hso] at ih'
        simp only [sof, s0] at *
        omega
      · rw [sadd_s (by have := hso.1; omega) (by simp [sof])]
        simp only [sof] at *
        omega
  exact key _ l rfl ho
/-- The pieces of a rope. -/
structure PsOk (ps : List (List Int)) : Prop where
  has : ∀ q ∈ ps, Cln q
  one : ∀ q ∈ ps, 1 ≤ q.length ∧ q.length ≤ 16
  least : 2 ≤ ps.length → ∀ q ∈ ps, 8 ≤ q.length
  most : ps.flatten.length ≤ 20000
theorem PsOk.nil : PsOk [] := ⟨fun _ h => absurd h List.not_mem_nil, fun _ h => absurd h List.not_mem_nil, fun _ _ h => absurd h List.not_mem_nil, Nat.zero_le _⟩
theorem len_flatten : ∀ (ps : List (List Int)), (∀ q ∈ ps, 1 ≤ q.length) → ps.length ≤ ps.flatten.length
  | [], _ => by simp
  | q :: ps, h => by
    have := len_flatten ps (fun x hx => h x (List.mem_cons_of_mem _ hx))
    have h1 := h q (List.mem_cons_self ..)
    simp only [List.length_cons, List.flatten_cons, List.length_append]
    omega
section
variable {ps : List (List Int)} (P : PsOk ps)
include P
theorem PsOk.len : ps.length ≤ 20000 := Nat.le_trans (len_flatten ps fun q hq => (P.one q hq).1) P.most
theorem PsOk.cln : Cln ps.flatten := fun r hr => by
  obtain ⟨q, hq, hr⟩ := List.mem_flatten.1 hr
  exact P.has q hq r hr
theorem PsOk.okl : Okl (ps.map pit) := fun i hi => by
  obtain ⟨q, hq, rfl⟩ := List.mem_map.1 hi
  have h1 := (P.one q hq).2
  have b0 := szl_le q 0
  have b1 := szl_le q 1
  have b2 := szl_le q 2
  have c0 := szl_nonneg q 0
  have c1 := szl_nonneg q 1
  have c2 := szl_nonneg q 2
  simp only [Oki, Okd, Okn, pit]
  omega
end
theorem map_szl (ps : List (List Int)) (d : Nat) : (ps.map (fun q => szl q d)).sum = szl ps.flatten d := by
  induction ps with
  | nil => rw [List.flatten_nil, szl_nil]; rfl
  | cons q ps ih => rw [List.map_cons, List.sum_cons, ih, List.flatten_cons, szl_append]
/-- The sizes of some pieces together are those of their text. -/
theorem sall_pit {ps : List (List Int)} (P : PsOk ps) : (sall (ps.map pit)).d0 = szl ps.flatten 0 ∧ (sall (ps.map pit)).d1 = szl ps.flatten 1 ∧ (sall (ps.map pit)).d2 = szl ps.flatten 2 := by
  obtain ⟨h0, h1, h2⟩ := sall_d _ P.okl
  rw [h0, h1, h2, List.map_map, List.map_map, List.map_map]
  exact ⟨map_szl ps 0, map_szl ps 1, map_szl ps 2⟩
theorem sall_pit_take {ps : List (List Int)} (P : PsOk ps) (k : Nat) : (sall ((ps.map pit).take k)).d0 = szl (ps.take k).flatten 0 ∧ (sall ((ps.map pit).take k)).d1 = szl (ps.take k).flatten 1 ∧ (sall ((ps.map pit).take k)).d2 = szl (ps.take k).flatten 2 := by
  obtain ⟨h0, h1, h2⟩ := sall_d _ (P.okl.take_ k)
  rw [h0, h1, h2, ← List.map_take, List.map_map, List.map_map, List.map_map]
  exact ⟨map_szl _ 0, map_szl _ 1, map_szl _ 2⟩
theorem sdim_pit {ps : List (List Int)} (P : PsOk ps) (k : Nat) {d : Nat} (hd : d ≤ 2) : sdim ((ps.map pit).take k) d = szl (ps.take k).flatten d := by
  obtain ⟨h0, h1, h2⟩ := sall_pit_take P k
  unfold sdim
  rw [if_neg (by omega)]
  obtain rfl | rfl | rfl : d = 0 ∨ d = 1 ∨ d = 2 := by omega
  · exact h0
  · exact h1
  · exact h2
theorem sdim_pit_all {ps : List (List Int)} (P : PsOk ps) {d : Nat} (hd : d ≤ 2) : sdim (ps.map pit) d = szl ps.flatten d := by
  have := sdim_pit P ps.length hd
  rwa [List.take_of_length_le (Nat.le_refl _), List.take_of_length_le (by simp)] at this
/-- The first place of a text where a size is so much at least. -/
structure AheadIs (l : List Int) (d : Nat) (v : Int) (j : Nat) : Prop where
  le : j ≤ l.length
  no : ∀ i, i < j → szl (l.take i) d < v
  yes : v ≤ szl (l.take j) d
theorem AheadIs.unique {l : List Int} {d : Nat} {v : Int} {j k : Nat} (h : AheadIs l d v j) (g : AheadIs l d v k) : j = k := by
  rcases Nat.lt_trichotomy j k with q | q | q
  · have := g.no j q; have := h.yes; omega
  · exact q
  · have := h.no k q; have := g.yes; omega
/-- By its runes a place is what it is. -/
theorem AheadIs.runes {l : List Int} {v : Nat} (hv : v ≤ l.length) : AheadIs l 1 v v := by
  refine ⟨hv, fun i hi => ?_, ?_⟩
  · show ((l.take i).length : Int) < v
    rw [List.length_take]; omega
  · show (v : Int) ≤ ((l.take v).length : Int)
    rw [List.length_take]; omega
/-- Places rise. -/
theorem szl_mono (l : List Int) (d : Nat) {i j : Nat} (h : i ≤ j) : szl (l.take i) d ≤ szl (l.take j) d := by
  have e : l.take j = l.take i ++ (l.take j).drop i := by
    conv => lhs; rw [← List.take_append_drop i (l.take j)]
    rw [List.take_take, Nat.min_eq_left h]
  rw [e, szl_append]
  have := szl_nonneg ((l.take j).drop i) d
  omega
theorem piece_split {ps : List (List Int)} {m : Nat} (hm : m < ps.length) : ps.flatten = (ps.take m).flatten ++ (ps[m] ++ (ps.drop (m + 1)).flatten) := by
  conv => lhs; rw [← List.take_append_drop m ps, List.flatten_append, List.drop_eq_getElem_cons hm, List.flatten_cons]
/-- The place within a piece is the place within all. -/
theorem AheadIs.within {ps : List (List Int)} {d : Nat} {v : Int} {m i : Nat} (hm : m < ps.length) (hi : i ≤ ps[m].length)
    (hno : ∀ j, j < i → szl (ps.take m).flatten d + szl (ps[m].take j) d < v) (hyes : v ≤ szl (ps.take m).flatten d + szl (ps[m].take i) d) (hF : 0 < m → szl (ps.take m).flatten d < v) :
    AheadIs ps.flatten d v ((ps.take m).flatten.length + i) := by
  have hs := piece_split hm
  generalize hq : ps[m] = q at *
  generalize (ps.drop (m + 1)).flatten = z at *
  generalize hp : (ps.take m).flatten = p at *
  have tk : ∀ j, j ≤ q.length → (p ++ (q ++ z)).take (p.length + j) = p ++ q.take j := fun j hj => by
    rw [List.take_length_add_append, List.take_append_of_le_length hj]
  refine ⟨by rw [hs]; simp only [List.length_append]; omega, fun j hj => ?_, ?_⟩
  · rw [hs]
    by_cases h1 : p.length ≤ j
    · obtain ⟨k, rfl⟩ : ∃ k, j = p.length + k := ⟨j - p.length, by omega⟩
      rw [tk k (by omega), szl_append]
      exact hno k (by omega)
    · have h2 : szl ((p ++ (q ++ z)).take j) d ≤ szl p d := by
        rw [List.take_append_of_le_length (by omega)]
        have := szl_mono p d (show j ≤ p.length by omega)
        rwa [List.take_of_length_le (Nat.le_refl _)] at this
      have hm0 : 0 < m := by
        rcases Nat.eq_zero_or_pos m with h | h
        · subst h; simp at hp; subst hp; simp at h1
        · exact h
      have := hF hm0
      omega
  · rw [hs, tk i hi, szl_append]
    exact hyes
theorem szl_step {l : List Int} {i j : Nat} (h : i < j) (hj : j ≤ l.length) : szl (l.take i) 0 < szl (l.take j) 0 := by
  have h1 := nth_szl (show i < l.length by omega) 0
  have h2 := szl_mono l 0 (show i + 1 ≤ j by omega)
  have h3 : 0 < szl [nth l i] 0 := by
    unfold szl encAll
    simp only [if_pos, List.flatMap_cons, List.flatMap_nil, List.append_nil]
    have := List.length_pos_iff.2 (encodeRune_ne (nth l i))
    omega
  omega
theorem szl_all (l : List Int) (d : Nat) : szl (l.take l.length) d = szl l d := by rw [List.take_of_length_le (Nat.le_refl _)]
/-- What is told of a byte. -/
def RuneIs (l : List Int) (at_ a e : Int) : Prop :=
  (¬ (0 ≤ at_ ∧ at_ ≤ szl l 0) ∧ a = 0 ∧ e = 1) ∨ (∃ j : Nat, j ≤ l.length ∧ szl (l.take j) 0 = at_ ∧ a = j ∧ e = 0) ∨ (0 ≤ at_ ∧ at_ ≤ szl l 0 ∧ (∀ j, j ≤ l.length → szl (l.take j) 0 ≠ at_) ∧ a = 0 ∧ e = 70)
theorem RuneIs.unique {l : List Int} {t a e a' e' : Int} (h : RuneIs l t a e) (g : RuneIs l t a' e') : a = a' ∧ e = e' := by
  have bd : ∀ j, j ≤ l.length → 0 ≤ szl (l.take j) 0 ∧ szl (l.take j) 0 ≤ szl l 0 := fun j hj => by
    have h1 := szl_nonneg (l.take j) 0
    have h2 := szl_mono l 0 hj
    rw [szl_all] at h2
    exact ⟨h1, h2⟩
  rcases h with ⟨h1, rfl, rfl⟩ | ⟨j, h1, h2, rfl, rfl⟩ | ⟨h1, h2, h3, rfl, rfl⟩ <;> rcases g with ⟨g1, rfl, rfl⟩ | ⟨k, g1, g2, rfl, rfl⟩ | ⟨g1, g2, g3, rfl, rfl⟩
  · exact ⟨rfl, rfl⟩
  · have := bd k g1; exact absurd ⟨by omega, by omega⟩ h1
  · exact absurd ⟨g1, g2⟩ h1
  · have := bd j h1; exact absurd ⟨by omega, by omega⟩ g1
  · rcases Nat.lt_trichotomy j k with q | q | q
    · have := szl_step q g1; omega
    · exact ⟨by omega, rfl⟩
    · have := szl_step q h1; omega
  · exact absurd h2 (g3 j h1)
  · exact absurd ⟨h1, h2⟩ g1
  · exact absurd g2 (h3 k g1)
  · exact ⟨rfl, rfl⟩
/-- What is found ahead of a byte tells what it is. -/
theorem AheadIs.rune {l : List Int} {t : Int} {j : Nat} (h : AheadIs l 0 t j) (h0 : 0 ≤ t) (h1 : t ≤ szl l 0) : (szl (l.take j) 0 = t → RuneIs l t j 0) ∧ (szl (l.take j) 0 ≠ t → RuneIs l t 0 70) := by
  refine ⟨fun e => .inr (.inl ⟨j, h.le, e, rfl, rfl⟩), fun ne => .inr (.inr ⟨h0, h1, fun k hk e => ?_, rfl, rfl⟩)⟩
  rcases Nat.lt_trichotomy k j with q | q | q
  · have := h.no k q; omega
  · subst q; exact ne e
  · have := szl_step q hk
    have := h.yes
    omega
/-- Where the place behind a break is. -/
def BehindIs (l : List Int) (k a e : Int) : Prop :=
  (¬ (0 ≤ k ∧ k ≤ brks l) ∧ a = 0 ∧ e = 1) ∨ (0 ≤ k ∧ k ≤ brks l ∧ ∃ j : Nat, AheadIs l 2 k j ∧ a = j ∧ e = 0)
theorem BehindIs.unique {l : List Int} {t a e a' e' : Int} (h : BehindIs l t a e) (g : BehindIs l t a' e') : a = a' ∧ e = e' := by
  rcases h with ⟨h1, rfl, rfl⟩ | ⟨h1, h2, j, hj, rfl, rfl⟩ <;> rcases g with ⟨g1, rfl, rfl⟩ | ⟨g1, g2, k, hk, rfl, rfl⟩
  · exact ⟨rfl, rfl⟩
  · exact absurd ⟨g1, g2⟩ h1
  · exact absurd ⟨h1, h2⟩ g1
  · exact ⟨by rw [hj.unique hk], rfl⟩
theorem brks_szl (l : List Int) : szl l 2 = (brks l : Int) := rfl
theorem len_szl (l : List Int) : szl l 1 = (l.length : Int) := rfl
/-- How many pieces runes are cut into. -/
def cutN (l : List Int) : Nat := (l.length + 15) / 16
/-- The piece i of runes. -/
def cutL (l : List Int) (i : Nat) : List Int := (l.take ((i + 1) * l.length / cutN l)).drop (i * l.length / cutN l)
/-- Runes cut into pieces. -/
def cuts (l : List Int) : List (List Int) := (List.range (cutN l)).map (cutL l)
theorem take_drop_join (l : List Int) {a b : Nat} (h : a ≤ b) : l.take a ++ (l.take b).drop a = l.take b := by
  conv => rhs; rw [← List.take_append_drop a (l.take b), List.take_take, Nat.min_eq_left h]
theorem cut_mono (i L n : Nat) : i * L / n ≤ (i + 1) * L / n := Nat.div_le_div_right (by rw [Nat.succ_mul]; omega)
theorem cut_end {l : List Int} {i : Nat} (hi : i < cutN l) : (i + 1) * l.length / cutN l ≤ l.length := by
  have h1 : (i + 1) * l.length ≤ cutN l * l.length := Nat.mul_le_mul_right _ hi
  calc (i + 1) * l.length / cutN l ≤ cutN l * l.length / cutN l := Nat.div_le_div_right h1
    _ = l.length := by rw [Nat.mul_comm]; exact Nat.mul_div_cancel _ (by omega)
theorem cuts_take (l : List Int) : ∀ k, k ≤ cutN l → ((List.range k).map (cutL l)).flatten = l.take (k * l.length / cutN l)
  | 0, _ => by simp
  | k + 1, h => by
    rw [List.range_succ, List.map_append, List.flatten_append, cuts_take l k (by omega), List.map_cons, List.map_nil, List.flatten_cons, List.flatten_nil, List.append_nil]
    unfold cutL
    exact take_drop_join l (cut_mono _ _ _)
theorem cuts_flatten (l : List Int) : (cuts l).flatten = l := by
  unfold cuts
  rw [cuts_take l _ (Nat.le_refl _)]
  by_cases h : cutN l = 0
  · have : l.length = 0 := by unfold cutN at h; omega
    obtain rfl := List.eq_nil_of_length_eq_zero this
    simp
  · rw [Nat.mul_comm, Nat.mul_div_cancel _ (by omega), List.take_of_length_le (Nat.le_refl _)]
theorem cuts_length (l : List Int) : (cuts l).length = cutN l := by simp [cuts]
theorem cutL_len {l : List Int} {i : Nat} (hi : i < cutN l) : (cutL l i).length = (i + 1) * l.length / cutN l - i * l.length / cutN l := by
  unfold cutL
  rw [List.length_drop, List.length_take, Nat.min_eq_left (cut_end hi)]
theorem cutL_le {l : List Int} {i : Nat} (hi : i < cutN l) : (cutL l i).length ≤ 16 := by
  rw [cutL_len hi]
  have h0 : 0 < cutN l := by omega
  have h1 : l.length ≤ 16 * cutN l := by unfold cutN; omega
  have h2 : (i + 1) * l.length ≤ i * l.length + 16 * cutN l := by rw [show (i + 1) * l.length = i * l.length + l.length from Nat.succ_mul i l.length]; exact Nat.add_le_add_left h1 _
  have h3 := Nat.div_le_div_right (c := cutN l) h2
  rw [Nat.add_mul_div_right _ _ h0] at h3
  omega
theorem cutL_ge {l : List Int} {i : Nat} (hi : i < cutN l) (hb : 8 ≤ l.length ∨ 2 ≤ cutN l) : 8 ≤ (cutL l i).length := by
  rw [cutL_len hi]
  have h0 : 0 < cutN l := by omega
  have h1 : 8 * cutN l ≤ l.length := by unfold cutN at *; omega
  have h2 : i * l.length + 8 * cutN l ≤ (i + 1) * l.length := by rw [show (i + 1) * l.length = i * l.length + l.length from Nat.succ_mul i l.length]; exact Nat.add_le_add_left h1 _
  have h3 := Nat.div_le_div_right (c := cutN l) h2
  rw [Nat.add_mul_div_right _ _ h0] at h3
  omega
theorem cutL_one {l : List Int} {i : Nat} (hi : i < cutN l) : 1 ≤ (cutL l i).length := by
  by_cases hb : 8 ≤ l.length ∨ 2 ≤ cutN l
  · have := cutL_ge hi hb; omega
  · rw [cutL_len hi]
    obtain rfl : i = 0 := by omega
    have h1 : cutN l = 1 := by omega
    rw [h1]
    simp
    have : 0 < cutN l := by omega
    unfold cutN at this
    omega
theorem Cln.cutL_ {l : List Int} (h : Cln l) (i : Nat) : Cln (cutL l i) := (h.take_ _).drop_ _
theorem cuts_mem {l q : List Int} (h : q ∈ cuts l) : ∃ i, i < cutN l ∧ q = cutL l i := by
  unfold cuts at h
  obtain ⟨i, hi, rfl⟩ := List.mem_map.1 h
  exact ⟨i, List.mem_range.1 hi, rfl⟩
/-- New pieces in the place of some. -/
theorem PsOk.put {ps : List (List Int)} (P : PsOk ps) {a b : Nat} {l : List Int} (hc : Cln l) (hb : 8 ≤ l.length ∨ (a = 0 ∧ b = ps.length)) (h1 : ps.length ≤ 1 → a = 0 ∧ b = ps.length) (hm : (ps.take a ++ cuts l ++ ps.drop b).flatten.length ≤ 20000) : PsOk (ps.take a ++ cuts l ++ ps.drop b) := by
  have mem : ∀ q, q ∈ ps.take a ++ cuts l ++ ps.drop b → q ∈ ps ∨ q ∈ cuts l := fun q hq => by
    rcases List.mem_append.1 hq with hq | hq
    · rcases List.mem_append.1 hq with hq | hq
      · exact .inl (List.mem_of_mem_take hq)
      · exact .inr hq
    · exact .inl (List.mem_of_mem_drop hq)
  refine ⟨fun q hq => ?_, fun q hq => ?_, fun h2 q hq => ?_, hm⟩
  · rcases mem q hq with h | h
    · exact P.has q h
    · obtain ⟨i, _, rfl⟩ := cuts_mem h
      exact hc.cutL_ i
  · rcases mem q hq with h | h
    · exact P.one q h
    · obtain ⟨i, hi, rfl⟩ := cuts_mem h
      exact ⟨cutL_one hi, cutL_le hi⟩
  · by_cases hw : a = 0 ∧ b = ps.length
    · obtain ⟨rfl, rfl⟩ := hw
      rw [List.take_zero, List.nil_append, List.drop_length, List.append_nil] at h2 hq
      obtain ⟨i, hi, rfl⟩ := cuts_mem hq
      rw [cuts_length] at h2
      exact cutL_ge hi (.inr h2)
    · have hl : 2 ≤ ps.length := by
        rcases Nat.lt_or_ge ps.length 2 with h | h
        · exact absurd (h1 (by omega)) hw
        · exact h
      rcases mem q hq with h | h
      · exact P.least hl q h
      · obtain ⟨i, hi, rfl⟩ := cuts_mem h
        exact cutL_ge hi (.inl (hb.resolve_right hw))
/-- The runes that are cut anew, and what is left on both sides. -/
theorem put_flatten (ps : List (List Int)) (d : List Int) {a b x y : Nat} (hx : (ps.take a).flatten.length ≤ x) (hy : y ≤ (ps.take b).flatten.length) :
    (ps.take a ++ cuts ((ps.flatten.take x).drop (ps.take a).flatten.length ++ d ++ (ps.flatten.take (ps.take b).flatten.length).drop y) ++ ps.drop b).flatten = ps.flatten.take x ++ d ++ ps.flatten.drop y := by
  rw [List.flatten_append, List.flatten_append, cuts_flatten]
  have e1 : ∀ k, (ps.take k).flatten = ps.flatten.take (ps.take k).flatten.length := fun k => by
    conv => rhs; arg 2; rw [← List.take_append_drop k ps, List.flatten_append]
    rw [List.take_left]
  have e2 : (ps.drop b).flatten = ps.flatten.drop (ps.take b).flatten.length := by
    conv => rhs; arg 2; rw [← List.take_append_drop b ps, List.flatten_append]
    rw [List.drop_left]
  have e3 : (ps.flatten.take (ps.take b).flatten.length).drop y ++ (ps.drop b).flatten = ps.flatten.drop y := by
    rw [e2]
    conv => rhs; rw [← List.take_append_drop (ps.take b).flatten.length ps.flatten]
    rw [List.drop_append_of_le_length]
    rw [← e1 b]
    exact hy
  have e4 : (ps.take a).flatten ++ (ps.flatten.take x).drop (ps.take a).flatten.length = ps.flatten.take x := by
    conv => lhs; arg 1; rw [e1 a]
    exact take_drop_join _ hx
  calc _ = ((ps.take a).flatten ++ (ps.flatten.take x).drop (ps.take a).flatten.length) ++ d ++ ((ps.flatten.take (ps.take b).flatten.length).drop y ++ (ps.drop b).flatten) := by simp only [List.append_assoc]
    _ = _ := by rw [e4, e3]
/-- One round of a slice: bytes behind those that were taken. -/
theorem slice_round (B : List UInt8) {b e s n : Nat} (h1 : s < e) (h2 : b ≤ s + n) (h3 : b ≤ e) (_h4 : s + n ≤ B.length) :
    (B.drop b).take (min e s - b) ++ (((B.drop s).take n).take (min (e - s) n)).drop (b - s) = (B.drop b).take (min e (s + n) - b) := by
  have h5 : min e s = s := by omega
  rw [h5, List.take_take, show min (min (e - s) n) n = min (e - s) n from by omega]
  by_cases h : b ≤ s
  · rw [show b - s = 0 from by omega, List.drop_zero]
    have e1 : B.drop s = (B.drop b).drop (s - b) := by rw [List.drop_drop]; congr 1; omega
    rw [e1]
    have e2 : min e (s + n) - b = (s - b) + min (e - s) n := by omega
    rw [e2, List.take_add]
  · rw [show s - b = 0 from by omega, List.take_zero, List.nil_append, List.drop_take, List.drop_drop]
    congr 1
    · omega
    · congr 1; omega
end Go.Proofs.YtpnjokhhbjpciaaGreatDoor
