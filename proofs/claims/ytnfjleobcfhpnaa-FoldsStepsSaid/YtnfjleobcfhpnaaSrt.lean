/- Lists in their order: one more in its place, all in their order, and that there is one such list. -/
import Derived.Sort.Statements
namespace Go.Proofs.Ytnfjleobcfhpnaa
open Go.Sort
section
variable {α : Type} (lt : α → α → Bool)
/-- One more in its place: ahead of the first that it is less than. -/
def ins (x : α) : List α → List α
  | [] => [x]
  | y :: l => if lt x y = true then x :: y :: l else y :: ins x l
/-- All in their order. -/
def ord (l : List α) : List α := l.foldl (fun o a => ins lt a o) []
theorem ins_perm (x : α) : ∀ l : List α, (ins lt x l).Perm (x :: l)
  | [] => .refl _
  | y :: l => by
    unfold ins
    split
    · exact .refl _
    · exact ((ins_perm x l).cons y).trans (.swap _ _ _)
theorem ins_mem {x a : α} {l : List α} : a ∈ ins lt x l ↔ a = x ∨ a ∈ l := by
  rw [(ins_perm lt x l).mem_iff, List.mem_cons]
theorem asy (h : SWO lt) {x y : α} (hx : lt x y = true) : lt y x = false := by
  cases e : lt y x with
  | false => rfl
  | true => have := h.trans x y x hx e; rw [h.irrefl] at this; cases this
theorem ins_sorted (h : SWO lt) (x : α) : ∀ {l : List α}, l.Pairwise (fun a b => lt b a = false) → (ins lt x l).Pairwise (fun a b => lt b a = false)
  | [], _ => by unfold ins; exact List.pairwise_singleton _ _
  | y :: l, hp => by
    obtain ⟨h1, h2⟩ := List.pairwise_cons.1 hp
    unfold ins
    split
    · rename_i hxy
      refine List.pairwise_cons.2 ⟨fun a ha => ?_, hp⟩
      rcases List.mem_cons.1 ha with rfl | ha
      · exact asy lt h hxy
      · exact h.ntrans _ _ _ (h1 a ha) (asy lt h hxy)
    · rename_i hxy
      refine List.pairwise_cons.2 ⟨fun a ha => ?_, ins_sorted h x h2⟩
      rcases (ins_mem lt).1 ha with rfl | ha
      · simpa using hxy
      · exact h1 a ha
theorem ord_go (h : SWO lt) : ∀ (l o : List α), o.Pairwise (fun a b => lt b a = false) → (l.foldl (fun o a => ins lt a o) o).Pairwise (fun a b => lt b a = false) ∧ (l.foldl (fun o a => ins lt a o) o).Perm (o ++ l)
  | [], o, hp => ⟨hp, by simp⟩
  | x :: l, o, hp => by
    obtain ⟨h1, h2⟩ := ord_go h l (ins lt x o) (ins_sorted lt h x hp)
    refine ⟨h1, h2.trans ?_⟩
    refine ((ins_perm lt x o).append_right l).trans ?_
    rw [List.cons_append]
    exact List.perm_middle.symm
theorem ord_sorted (h : SWO lt) (l : List α) : (ord lt l).Pairwise (fun a b => lt b a = false) := (ord_go lt h l [] .nil).1
theorem ord_perm (h : SWO lt) (l : List α) : (ord lt l).Perm l := by
  have := (ord_go lt h l [] .nil).2
  rw [List.nil_append] at this
  exact this
theorem ord_snoc (l : List α) (x : α) : ord lt (l ++ [x]) = ins lt x (ord lt l) := by unfold ord; rw [List.foldl_append]; rfl
/-- There is one sorted list. -/
theorem ord_uniq (h : SWO lt) {l d : List α} (hp : d.Perm l) (hs : d.Pairwise (fun a b => lt b a = false)) (hi : ∀ x ∈ l, ∀ y ∈ l, lt x y = false → lt y x = false → x = y) : d = ord lt l := by
  refine List.Perm.eq_of_pairwise (le := fun a b => lt b a = false) (fun a b ha hb h1 h2 => ?_) hs (ord_sorted lt h l) (hp.trans (ord_perm lt h l).symm)
  exact (hi b ((ord_perm lt h l).mem_iff.1 hb) a (hp.mem_iff.1 ha) h1 h2).symm
theorem ord_of_array [Inhabited α] (h : SWO lt) {l : List α} {d : Array α} (hP : PermIn 0 l.length l.toArray d) (hS : SortedIn lt 0 l.length d) (hi : ∀ x ∈ l, ∀ y ∈ l, lt x y = false → lt y x = false → x = y) : d.toList = ord lt l := by
  obtain ⟨hsz, _, hperm⟩ := hP
  have e0 : l.toArray.size = l.length := by simp
  rw [e0] at hsz
  have e1 : d.extract 0 l.length = d := by rw [← hsz]; exact Array.extract_size
  have e2 : l.toArray.extract 0 l.length = l.toArray := by rw [← e0]; exact Array.extract_size
  rw [e1, e2] at hperm
  refine ord_uniq lt h (by simpa using hperm) ?_ hi
  rw [List.pairwise_iff_getElem]
  intro i j hi hj hij
  have hi' : i < d.size := by simpa using hi
  have hj' : j < d.size := by simpa using hj
  have := hS i j (Nat.zero_le _) hij (by omega)
  rw [getElem!_pos d j hj', getElem!_pos d i hi'] at this
  simpa using this
end
end Go.Proofs.Ytnfjleobcfhpnaa
