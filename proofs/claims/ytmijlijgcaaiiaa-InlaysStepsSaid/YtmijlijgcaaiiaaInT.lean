/- Inlays: plain facts: what may be removed, what is left; where one is. -/
import Derived.Test.YtmijlijgcaaiiaaInR
namespace Go.Proofs.Ytmijlijgcaaiiaa
open Go.RowKit Go.Sort
set_option linter.unusedVariables false
theorem nodup_erase_len {x : Int} {l : List Int} (h : x ∈ l) : (l.erase x).length + 1 = l.length := by
  rw [List.length_erase_of_mem h]
  have := List.length_pos_of_mem h
  omega
theorem sub_len : ∀ {F l : List Int}, F.Nodup → (∀ x ∈ F, x ∈ l) → F.length ≤ l.length
  | [], _, _, _ => Nat.zero_le _
  | x :: F, l, h1, h2 => by
    obtain ⟨n1, n2⟩ := List.nodup_cons.1 h1
    have hx := h2 x (by simp)
    have := sub_len (F := F) (l := l.erase x) n2 (fun y hy => by
      have hne : y ≠ x := fun e => n1 (e ▸ hy)
      exact (List.mem_erase_of_ne hne).2 (h2 y (by simp [hy])))
    have := nodup_erase_len hx
    simp only [List.length_cons]
    omega
theorem sub_full : ∀ {F l : List Int}, F.Nodup → (∀ x ∈ F, l.count x = 1) → F.length = l.length → l.Nodup ∧ ∀ x ∈ l, x ∈ F
  | [], l, _, _, h => by
    obtain rfl : l = [] := List.eq_nil_of_length_eq_zero h.symm
    exact ⟨List.nodup_nil, fun x hx => hx⟩
  | x :: F, l, h1, h2, h3 => by
    obtain ⟨n1, n2⟩ := List.nodup_cons.1 h1
    have hc := h2 x (by simp)
    have hx : x ∈ l := List.count_pos_iff.1 (by omega)
    have hl := nodup_erase_len hx
    obtain ⟨m1, m2⟩ := sub_full (F := F) (l := l.erase x) n2 (fun y hy => by
      have hne : y ≠ x := fun e => n1 (e ▸ hy)
      rw [List.count_erase_of_ne hne]
      exact h2 y (by simp [hy])) (by simp only [List.length_cons] at h3; omega)
    have hp := List.perm_cons_erase hx
    have hn : x ∉ l.erase x := fun hm => by
      have : (l.erase x).count x = 0 := by rw [List.count_erase_self]; omega
      exact absurd (List.count_pos_iff.2 hm) (by omega)
    refine ⟨hp.nodup_iff.2 (List.nodup_cons.2 ⟨hn, m1⟩), fun y hy => ?_⟩
    rcases List.mem_cons.1 (hp.mem_iff.1 hy) with e | e
    · simp [e]
    · exact List.mem_cons_of_mem _ (m2 y e)
/-- May these be removed: each one is there, and once. -/
def remOk (o : List In) (r : List Int) : Prop := r.Nodup ∧ ∀ x ∈ r, ∃ a ∈ o, a.id = x
instance (o : List In) (r : List Int) : Decidable (remOk o r) := by unfold remOk; exact inferInstance
/-- What is left. -/
def left (o : List In) (r : List Int) : List In := o.filter fun a => decide (a.id ∉ r)
/-- How many are found, by the document. -/
def fnd (o : List In) (r : List Int) : Nat := (o.filter fun a => r.count a.id == 1).length
theorem ids_nodup {o : List In} (h : IApart o) : (o.map (·.id)).Nodup := by
  unfold IApart at h
  induction o with
  | nil => simp
  | cons a o ih =>
    rw [List.pairwise_cons] at h
    rw [List.map_cons, List.nodup_cons]
    refine ⟨fun hm => ?_, ih h.2⟩
    obtain ⟨b, hb, e⟩ := List.mem_map.1 hm
    exact h.1 b hb e.symm
theorem apart_filter {o : List In} (h : IApart o) (p : In → Bool) : IApart (o.filter p) := List.Pairwise.filter p h
theorem fnd_ok {o : List In} (h : IApart o) (r : List Int) : fnd o r < r.length ↔ ¬ remOk o r := by
  have hn := ids_nodup (apart_filter h (fun a => r.count a.id == 1))
  have hc : ∀ x ∈ (o.filter fun a => r.count a.id == 1).map (·.id), r.count x = 1 := by
    intro x hx
    obtain ⟨a, ha, rfl⟩ := List.mem_map.1 hx
    simpa using (List.mem_filter.1 ha).2
  have hlen : fnd o r = ((o.filter fun a => r.count a.id == 1).map (·.id)).length := by simp [fnd]
  have hle := sub_len hn (l := r) (fun x hx => List.count_pos_iff.1 (by rw [hc x hx]; omega))
  constructor
  · intro hlt hok
    have h2 := sub_len (F := r) (l := (o.filter fun a => r.count a.id == 1).map (·.id)) hok.1 (fun x hx => by
      obtain ⟨a, ha, e⟩ := hok.2 x hx
      refine List.mem_map.2 ⟨a, List.mem_filter.2 ⟨ha, ?_⟩, e⟩
      have h1 := List.nodup_iff_count.1 hok.1 x
      have h2 := List.count_pos_iff.2 hx
      simp [e]
      omega)
    omega
  · intro hno
    rcases Nat.lt_or_ge (fnd o r) r.length with g | g
    · exact g
    · exfalso
      obtain ⟨m1, m2⟩ := sub_full hn hc (by omega)
      exact hno ⟨m1, fun x hx => by
        obtain ⟨a, ha, e⟩ := List.mem_map.1 (m2 x hx)
        exact ⟨a, (List.mem_filter.1 ha).1, e⟩⟩
/-- The program's way: one by one, each must still be there. -/
theorem remOk_step {o : List In} {r : List Int} {k : Nat} (h : k < r.length) : remOk o (r.take (k + 1)) ↔ remOk o (r.take k) ∧ (∃ a ∈ o, a.id = r[k]) ∧ r[k] ∉ r.take k := by
  unfold remOk
  rw [List.take_succ_eq_append_getElem h, List.nodup_append]
  constructor
  · rintro ⟨⟨a1, a2, a3⟩, b⟩
    exact ⟨⟨a1, fun x hx => b x (List.mem_append_left _ hx)⟩, b _ (List.mem_append_right _ (List.mem_singleton.2 rfl)), fun hm => a3 _ hm _ (List.mem_singleton.2 rfl) rfl⟩
  · rintro ⟨⟨a1, b⟩, c, d⟩
    refine ⟨⟨a1, by simp, fun x hx y hy e => ?_⟩, fun x hx => ?_⟩
    · simp at hy; subst hy; subst e; exact d hx
    · rcases List.mem_append.1 hx with g | g
      · exact b x g
      · simp at g; subst g; exact c
theorem remOk_mono {o : List In} {r : List Int} (k : Nat) (h : remOk o r) : remOk o (r.take k) := ⟨h.1.sublist (List.take_sublist k r), fun x hx => h.2 x (List.mem_of_mem_take hx)⟩
theorem iw_fine {n : Int} : ∀ {l seen : List In}, IApart (seen ++ l) → (∀ a ∈ l, iwr n a = 0) → iw n seen l = 0
  | [], _, _, _ => rfl
  | a :: l, seen, h1, h2 => by
    rw [iw, if_neg (by rw [h2 a (by simp)]; simp), if_neg, iw_fine (by rw [List.append_assoc]; exact h1) (fun x hx => h2 x (by simp [hx]))]
    rw [List.any_eq_true]
    rintro ⟨b, hb, e⟩
    unfold IApart at h1
    rw [List.pairwise_append] at h1
    exact h1.2.2 b hb a (by simp) (by simpa using e)
/-- Where the one of an id is. -/
def ixI (l : List In) (x : Int) : Nat := l.findIdx fun a => a.id == x
theorem ixI_lt {l : List In} {a : In} (h : a ∈ l) : ixI l a.id < l.length := List.findIdx_lt_length_of_exists ⟨a, h, by simp⟩
theorem ixI_is {l : List In} {x : Int} (h : ixI l x < l.length) : l[ixI l x].id = x := by
  have := List.findIdx_getElem (p := fun a : In => a.id == x) (w := h)
  exact eq_of_beq this
theorem ixI_only {l : List In} (hl : IApart l) {k : Nat} (hk : k < l.length) {x : Int} (h : l[k].id = x) : ixI l x = k := by
  have h1 : ixI l x < l.length := List.findIdx_lt_length_of_exists ⟨l[k], List.getElem_mem hk, by simp [h]⟩
  have h2 := ixI_is h1
  rcases Nat.lt_trichotomy (ixI l x) k with g | g | g
  · exact absurd (h2.trans h.symm) (List.pairwise_iff_getElem.1 hl _ _ h1 hk g)
  · exact g
  · exact absurd (h.trans h2.symm) (List.pairwise_iff_getElem.1 hl _ _ hk h1 g)
theorem iwrong_fine {n : Int} {l : List In} (h0 : 0 ≤ n) (h1 : n ≤ 1099511627776) (h2 : l.length ≤ 60) (h3 : IApart l) (h4 : ∀ a ∈ l, iwr n a = 0) : iwrong n l = 0 := by
  unfold iwrong
  rw [if_neg (by omega), if_neg (by omega)]
  exact iw_fine (by simpa using h3) h4
theorem iwrong_is {n : Int} {l : List In} (h : iwrong n l = 0) : 0 ≤ n ∧ n ≤ 1099511627776 ∧ l.length ≤ 60 ∧ IApart l ∧ ∀ a ∈ l, iwr n a = 0 := by
  have hs := h
  unfold iwrong at hs
  split at hs
  · cases hs
  · rename_i g1
    split at hs
    · cases hs
    · rename_i g2
      have := iw_apart hs (List.Pairwise.nil)
      exact ⟨by omega, by omega, by omega, by simpa using this.1, this.2⟩
theorem ord_icl {n : Int} {l : List In} (h : iwrong n l = 0) : IApart (ord ilt (l.map icl)) ∧ (ord ilt (l.map icl)).length = l.length ∧ ∀ a ∈ ord ilt (l.map icl), iwr n a = 0 ∧ icl a = a := by
  have hp := ord_perm ilt ilt_swo (l.map icl)
  refine ⟨?_, by rw [hp.length_eq, List.length_map], fun a ha => (ord_size h a ha).2⟩
  have h1 := iapart_icl (iwrong_is h).2.2.2.1
  exact (hp.pairwise_iff (fun {_ _} h => fun e => h e.symm)).2 h1
theorem icl_all {l : List In} (h : ∀ a ∈ l, icl a = a) : l.map icl = l := by
  conv => rhs; rw [← List.map_id l]
  exact List.map_congr_left h
/-- A sorted row is its own order. -/
theorem ord_self {l d : List In} (hp : d.Perm l) (hs : d.Pairwise (fun a b => ilt b a = false)) (ha : IApart l) : ord ilt l = d := by
  refine (ord_uniq ilt ilt_swo hp hs (fun x hx y hy h1 h2 => iapart_inj ha x hx y hy ?_)).symm
  unfold ilt at h1 h2
  simp only [decide_eq_false_iff_not] at h1 h2
  omega
/-- What is spliced out again leaves what was. -/
theorem left_back {n : Int} {l add : List In} (h : iwrong n l = 0) (h2 : iwrong n (ord ilt (l.map icl) ++ add) = 0) :
    remOk (ord ilt ((ord ilt (l.map icl) ++ add).map icl)) (add.map (·.id)) ∧ iwrong n (left (ord ilt ((ord ilt (l.map icl) ++ add).map icl)) (add.map (·.id))) = 0 ∧
      ord ilt ((left (ord ilt ((ord ilt (l.map icl) ++ add).map icl)) (add.map (·.id))).map icl) = ord ilt (l.map icl) := by
  obtain ⟨a0, a1, a2⟩ := ord_icl h
  obtain ⟨b0, b1, b2⟩ := ord_icl h2
  have hs1 := ord_sorted ilt ilt_swo (l.map icl)
  have hs2 := ord_sorted ilt ilt_swo ((ord ilt (l.map icl) ++ add).map icl)
  have hp2 := ord_perm ilt ilt_swo ((ord ilt (l.map icl) ++ add).map icl)
  obtain ⟨c1, c2, c3, c4, c5⟩ := iwrong_is h2
  generalize ord ilt ((ord ilt (l.map icl) ++ add).map icl) = o2 at *
  generalize ord ilt (l.map icl) = o at *
  have c4' := c4
  unfold IApart at c4'
  rw [List.pairwise_append] at c4'
  rw [List.map_append, icl_all (fun a ha => (a2 a ha).2)] at hp2
  have hl : (left o2 (add.map (·.id))).Perm o := by
    unfold left
    refine (hp2.filter _).trans ?_
    rw [List.filter_append, List.filter_eq_self.2, List.filter_eq_nil_iff.2, List.append_nil]
    · intro a ha
      obtain ⟨b, hb, rfl⟩ := List.mem_map.1 ha
      simp only [decide_eq_true_eq, Classical.not_not]
      exact List.mem_map.2 ⟨b, hb, rfl⟩
    · intro a ha
      simp only [decide_eq_true_eq]
      intro hm
      obtain ⟨b, hb, e⟩ := List.mem_map.1 hm
      exact c4'.2.2 a ha b hb e.symm
  have hap : IApart (left o2 (add.map (·.id))) := apart_filter b0 _
  have hcl : ∀ a ∈ left o2 (add.map (·.id)), iwr n a = 0 ∧ icl a = a := fun a ha => b2 a (List.mem_filter.1 ha).1
  refine ⟨⟨ids_nodup c4'.2.1, fun x hx => ?_⟩, iwrong_fine c1 c2 ?_ hap (fun a ha => (hcl a ha).1), ?_⟩
  · obtain ⟨b, hb, rfl⟩ := List.mem_map.1 hx
    exact ⟨icl b, hp2.mem_iff.2 (List.mem_append_right _ (List.mem_map.2 ⟨b, hb, rfl⟩)), rfl⟩
  · rw [hl.length_eq]; rw [List.length_append] at c3; omega
  · rw [icl_all (fun a ha => (hcl a ha).2)]
    exact ord_self hl.symm hs1 hap
end Go.Proofs.Ytmijlijgcaaiiaa
