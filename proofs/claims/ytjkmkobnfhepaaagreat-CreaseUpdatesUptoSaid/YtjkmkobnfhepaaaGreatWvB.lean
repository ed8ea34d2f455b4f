/- Weaves, in plain words: pieces of a buffer with inlays, where a place is in them, what is turned. Nothing of the program is here. Weaves: the contracts of piece, plain and of pieces with its closure. Weaves: the contract of pieces. -/
import Derived.Test.YtjkmkobnfhepaaaGreatTreeQ
import Derived.Test.YtjkmkobnfhepaaaGreatInD
import Derived.Test.YtjkmkobnfhepaaaGreatItK
import Derived.Deep.RegionWith
namespace Go.Proofs.YtjkmkobnfhepaaaGreat
open Go.RowKit
/-- How many runes an inlay has. -/
def wcnt (a : In) : Nat := (dec a.tx).length
/-- A piece as an item. -/
def wpc (id b v : Int) : I7 := ⟨0, id, b, v, 0, 0, ⟨#[]⟩⟩
/-- The buffer from one place on, up to another one. -/
def wgap (x y : Int) : List I7 := if x < y then [wpc 0 (y - x) (y - x)] else []
/-- The pieces from a place on, up to the last inlay; where that is; all pieces. -/
def wvQ : Int → List In → List I7
  | _, [] => []
  | f, a :: l => wgap f a.pl ++ wpc a.id 0 (wcnt a) :: wvQ a.pl l
def wlast : Int → List In → Int
  | f, [] => f
  | _, a :: l => wlast a.pl l
def wvP (f : Int) (l : List In) (t : Int) : List I7 := wvQ f l ++ wgap (wlast f l) t
theorem wvQ_append : ∀ (a b : List In) (f : Int), wvQ f (a ++ b) = wvQ f a ++ wvQ (wlast f a) b
  | [], b, f => rfl
  | x :: a, b, f => by
    show wgap f x.pl ++ wpc x.id 0 (wcnt x) :: wvQ x.pl (a ++ b) = (wgap f x.pl ++ wpc x.id 0 (wcnt x) :: wvQ x.pl a) ++ _
    rw [wvQ_append a b x.pl, List.append_assoc]
    rfl
theorem wlast_append : ∀ (a b : List In) (f : Int), wlast f (a ++ b) = wlast (wlast f a) b
  | [], _, _ => rfl
  | x :: a, b, _ => wlast_append a b x.pl
theorem wvQ_snoc (f : Int) (l : List In) (a : In) : wvQ f (l ++ [a]) = wvQ f l ++ wgap (wlast f l) a.pl ++ [wpc a.id 0 (wcnt a)] := by
  rw [wvQ_append, List.append_assoc]; rfl
theorem wlast_snoc (f : Int) (l : List In) (a : In) : wlast f (l ++ [a]) = a.pl := by rw [wlast_append]; rfl
theorem wvP_cons (f : Int) (a : In) (l : List In) (t : Int) : wvP f (a :: l) t = wgap f a.pl ++ wpc a.id 0 (wcnt a) :: wvP a.pl l t := by
  unfold wvP
  show (wgap f a.pl ++ wpc a.id 0 (wcnt a) :: wvQ a.pl l) ++ wgap (wlast a.pl l) t = _
  rw [List.append_assoc]
  rfl
theorem wgap_len (x y : Int) : (wgap x y).length ≤ 1 := by unfold wgap; split <;> simp
theorem wvQ_len : ∀ (l : List In) (f : Int), (wvQ f l).length ≤ 2 * l.length
  | [], _ => Nat.le_refl _
  | a :: l, f => by
    have h := wvQ_len l a.pl
    have h2 := wgap_len f a.pl
    show (wgap f a.pl ++ wpc a.id 0 (wcnt a) :: wvQ a.pl l).length ≤ _
    rw [List.length_append, List.length_cons, List.length_cons]
    omega
theorem wvP_len (f : Int) (l : List In) (t : Int) : (wvP f l t).length ≤ 2 * l.length + 1 := by
  unfold wvP
  rw [List.length_append]
  have := wvQ_len l f
  have := wgap_len (wlast f l) t
  omega
/-- Sizes of items: those of the buffer (0), and of the woven text (1). -/
def wdz (k : Nat) (i : I7) : Int := if k = 0 then i.d0 else i.d1
def wdsum (k : Nat) : List I7 → Int
  | [] => 0
  | i :: l => wdz k i + wdsum k l
theorem wdsum_append (k : Nat) : ∀ a b : List I7, wdsum k (a ++ b) = wdsum k a + wdsum k b
  | [], b => by show wdsum k b = 0 + wdsum k b; omega
  | x :: a, b => by
    show wdz k x + wdsum k (a ++ b) = wdz k x + wdsum k a + wdsum k b
    rw [wdsum_append k a b]; omega
theorem sall_dz : ∀ (n : Nat) (l : List I7), l.length = n → Okl l → (sall l).d0 = wdsum 0 l ∧ (sall l).d1 = wdsum 1 l := by
  intro n
  induction n with
  | zero =>
    intro l hl _
    obtain rfl : l = [] := List.eq_nil_of_length_eq_zero hl
    exact ⟨rfl, rfl⟩
  | succ n ih =>
    intro l hl ho
    obtain ⟨c, r, rfl⟩ : ∃ c r, l = c ++ [r] := ⟨l.dropLast, l.getLast (by intro e; subst e; simp at hl), (List.dropLast_concat_getLast _).symm⟩
    have hc : Okl c := fun i hi => ho i (List.mem_append_left _ hi)
    have hn : c.length = n := by simpa using hl
    obtain ⟨h1, h2⟩ := ih c hn hc
    have hk := sall_ok n c hn hc
    rw [sall_snoc, wdsum_append, wdsum_append, ← h1, ← h2]
    show _ = _ + (r.d0 + 0) ∧ _ = _ + (r.d1 + 0)
    by_cases h0 : (sall c).n = 0
    · have : n = 0 := by have := hk.1; omega
      subst this
      rw [sadd_z h0, s_zero hk]
      simp only [sof, s0]
      omega
    · rw [sadd_s h0 (by simp [sof])]
      simp only [sof]
      omega
theorem sdim_dz {l : List I7} (ho : Okl l) {k : Nat} (hk : k < 2) : sdim l k = wdsum k l := by
  obtain ⟨h1, h2⟩ := sall_dz _ l rfl ho
  rcases (by omega : k = 0 ∨ k = 1) with rfl | rfl
  · exact h1
  · exact h2
/-- The piece at a place. -/
def wfnd (k : Nat) : List I7 → Int → Int → Nat
  | [], _, _ => 0
  | i :: l, v, b => if v < wdz k i ∨ (b = 0 ∧ wdz k i = v) then 0 else wfnd k l (v - wdz k i) b + 1
theorem wfnd_le (k : Nat) : ∀ (l : List I7) (v b : Int), wfnd k l v b ≤ l.length
  | [], _, _ => Nat.le_refl _
  | i :: l, v, b => by
    have := wfnd_le k l (v - wdz k i) b
    unfold wfnd
    split
    · omega
    · rw [List.length_cons]; omega
theorem wfnd_no (k : Nat) : ∀ (l : List I7) (v b : Int) (j : Nat), j < wfnd k l v b → ¬ Stops (wdsum k (l.take (j + 1))) v b
  | [], _, _, _, h => absurd h (by unfold wfnd; omega)
  | i :: l, v, b, j, h => by
    unfold wfnd at h
    split at h
    · omega
    · rename_i hs
      rw [List.take_succ_cons]
      show ¬ Stops (wdz k i + wdsum k (l.take j)) v b
      cases j with
      | zero =>
        rw [List.take_zero]
        show ¬ Stops (wdz k i + 0) v b
        unfold Stops
        omega
      | succ j =>
        have := wfnd_no k l (v - wdz k i) b j (by omega)
        unfold Stops at *
        omega
theorem wfnd_yes (k : Nat) : ∀ (l : List I7) (v b : Int), wfnd k l v b < l.length → Stops (wdsum k (l.take (wfnd k l v b + 1))) v b
  | [], _, _, h => absurd h (by rw [List.length_nil]; omega)
  | i :: l, v, b, h => by
    unfold wfnd at h ⊢
    split at h
    · rename_i hs
      rw [if_pos hs, List.take_succ_cons, List.take_zero]
      show Stops (wdz k i + 0) v b
      unfold Stops
      omega
    · rename_i hs
      rw [List.length_cons] at h
      have := wfnd_yes k l (v - wdz k i) b (by omega)
      rw [if_neg hs, List.take_succ_cons]
      show Stops (wdz k i + wdsum k (l.take (wfnd k l (v - wdz k i) b + 1))) v b
      unfold Stops at *
      omega
theorem wfnd_is {l : List I7} (ho : Okl l) {k : Nat} (hk : k < 2) (v b : Int) : FindIs l k v b (wfnd k l v b) := by
  have ht : ∀ j, sdim (l.take j) k = wdsum k (l.take j) := fun j => sdim_dz (fun i hi => ho i (List.mem_of_mem_take hi)) hk
  exact ⟨wfnd_le k l v b, fun j hj => by rw [ht]; exact wfnd_no k l v b j hj, fun h => by rw [ht]; exact wfnd_yes k l v b h⟩
/-- Where a place of the buffer is in the woven text, by pieces. -/
def woutP (l : List I7) (v b : Int) : Int := wdsum 1 (l.take (wfnd 0 l v b)) + v - wdsum 0 (l.take (wfnd 0 l v b))
theorem woutP_cons (i : I7) (l : List I7) (v b : Int) : woutP (i :: l) v b = if v < i.d0 ∨ (b = 0 ∧ i.d0 = v) then v else i.d1 + woutP l (v - i.d0) b := by
  unfold woutP
  show wdsum 1 ((i :: l).take (if v < i.d0 ∨ (b = 0 ∧ i.d0 = v) then 0 else wfnd 0 l (v - i.d0) b + 1)) + v - wdsum 0 ((i :: l).take (if v < i.d0 ∨ (b = 0 ∧ i.d0 = v) then 0 else wfnd 0 l (v - i.d0) b + 1)) = _
  split
  · rw [List.take_zero]
    show (0 : Int) + v - 0 = v
    omega
  · rw [List.take_succ_cons]
    show i.d1 + wdsum 1 _ + v - (i.d0 + wdsum 0 _) = i.d1 + (wdsum 1 _ + (v - i.d0) - wdsum 0 _)
    omega
/-- How many runes of inlays are ahead of a place. -/
def wosum (at_ b : Int) : List In → Int
  | [] => 0
  | a :: l => (if a.pl < at_ ∨ (a.pl = at_ ∧ b = 1) then (wcnt a : Int) else 0) + wosum at_ b l
theorem wosum_zero (at_ b : Int) : ∀ l : List In, (∀ a ∈ l, at_ ≤ a.pl) → (∀ a ∈ l, b = 1 → at_ < a.pl) → wosum at_ b l = 0
  | [], _, _ => rfl
  | a :: l, h, g => by
    have h1 := h a (by simp)
    have g1 := g a (by simp)
    unfold wosum
    rw [if_neg (by omega), wosum_zero at_ b l (fun x hx => h x (List.mem_cons_of_mem _ hx)) (fun x hx => g x (List.mem_cons_of_mem _ hx))]
    rfl
/-- Inlays in order, by their places. -/
def wPlS (l : List In) : Prop := l.Pairwise fun a b => a.pl ≤ b.pl
/-- Inlays that stand right between two places: each has a rune at least. -/
structure Wv (f : Int) (l : List In) (t : Int) : Prop where
  pls : wPlS l
  lo : ∀ a ∈ l, f ≤ a.pl
  hi : ∀ a ∈ l, a.pl ≤ t
  le : f ≤ t
  pos : ∀ a ∈ l, 0 < wcnt a
  ids : ∀ a ∈ l, 1 ≤ a.id
  apart : IApart l
theorem Wv.tail {f t : Int} {a : In} {l : List In} (h : Wv f (a :: l) t) : Wv a.pl l t :=
  ⟨(List.pairwise_cons.1 h.pls).2, fun x hx => (List.pairwise_cons.1 h.pls).1 x hx, fun x hx => h.hi x (List.mem_cons_of_mem _ hx), h.hi a (by simp), fun x hx => h.pos x (List.mem_cons_of_mem _ hx), fun x hx => h.ids x (List.mem_cons_of_mem _ hx), (List.pairwise_cons.1 h.apart).2⟩
theorem woutP_is : ∀ (l : List In) (f t at_ b : Int), Wv f l t → f ≤ at_ → at_ ≤ t → (b = 0 ∨ b = 1) → woutP (wvP f l t) (at_ - f) b = at_ - f + wosum at_ b l
  | [], f, t, at_, b, _, h1, h2, hb => by
    show woutP ([] ++ wgap f t) (at_ - f) b = at_ - f + 0
    unfold wgap
    split
    · rw [List.nil_append, woutP_cons]
      show (if at_ - f < t - f ∨ (b = 0 ∧ t - f = at_ - f) then at_ - f else t - f + woutP [] (at_ - f - (t - f)) b) = _
      split
      · omega
      · show t - f + (0 + (at_ - f - (t - f)) - 0) = _
        omega
    · show 0 + (at_ - f) - 0 = _
      omega
  | a :: l, f, t, at_, b, hw, h1, h2, hb => by
    have ha := hw.lo a (by simp)
    have hz : at_ < a.pl ∨ (b = 0 ∧ at_ = a.pl) → wosum at_ b (a :: l) = 0 := by
      intro h
      have hp := (List.pairwise_cons.1 hw.pls).1
      refine wosum_zero at_ b _ (fun x hx => ?_) (fun x hx hb1 => ?_)
      · rcases List.mem_cons.1 hx with rfl | hx
        · omega
        · have := hp x hx; omega
      · rcases List.mem_cons.1 hx with rfl | hx
        · omega
        · have := hp x hx; omega
    have hin : ∀ v, v = at_ - a.pl → ¬ (at_ < a.pl ∨ (b = 0 ∧ at_ = a.pl)) → woutP (wpc a.id 0 (wcnt a) :: wvP a.pl l t) v b = at_ - a.pl + wosum at_ b (a :: l) := by
      rintro v rfl hn
      rw [woutP_cons]
      show (if at_ - a.pl < 0 ∨ (b = 0 ∧ 0 = at_ - a.pl) then _ else (wcnt a : Int) + woutP (wvP a.pl l t) (at_ - a.pl - 0) b) = _
      rw [if_neg (by omega), show at_ - a.pl - 0 = at_ - a.pl from by omega, woutP_is l a.pl t at_ b hw.tail (by omega) h2 hb]
      show _ = at_ - a.pl + ((if a.pl < at_ ∨ (a.pl = at_ ∧ b = 1) then (wcnt a : Int) else 0) + wosum at_ b l)
      rw [if_pos (by omega)]
      omega
    rw [wvP_cons]
    unfold wgap
    by_cases hg : f < a.pl
    · rw [if_pos hg]
      show woutP (wpc 0 (a.pl - f) (a.pl - f) :: (wpc a.id 0 (wcnt a) :: wvP a.pl l t)) (at_ - f) b = _
      rw [woutP_cons]
      show (if at_ - f < a.pl - f ∨ (b = 0 ∧ a.pl - f = at_ - f) then at_ - f else a.pl - f + woutP (wpc a.id 0 (wcnt a) :: wvP a.pl l t) (at_ - f - (a.pl - f)) b) = _
      split
      · rw [hz (by omega)]; omega
      · rw [hin _ (by omega) (by omega)]; omega
    · rw [if_neg hg, List.nil_append]
      have e : f = a.pl := by omega
      by_cases hs : b = 0 ∧ at_ = a.pl
      · rw [woutP_cons]
        show (if at_ - f < 0 ∨ (b = 0 ∧ 0 = at_ - f) then at_ - f else _) = _
        rw [if_pos (by omega), hz (by omega)]
        omega
      · rw [hin _ (by omega) (by omega)]; omega
/-- The woven text's runes, each with its place and its inlay, by pieces. -/
def wpls (f : Int) : Nat → List (Int × Int)
  | 0 => []
  | k + 1 => (f, 0) :: wpls (f + 1) k
def wsp : Int → List In → Int → List (Int × Int)
  | f, [], t => wpls f (t - f).toNat
  | f, a :: l, t => wpls f (a.pl - f).toNat ++ (List.replicate (wcnt a) (a.pl, a.id) ++ wsp a.pl l t)
/-- The document's: place by place. -/
def wdAt (o : List In) (n p : Int) : List (Int × Int) := (o.filter fun a => decide (a.pl = p)).flatMap (fun a => List.replicate (wcnt a) (p, a.id)) ++ if p < n then [(p, 0)] else []
def wdS (o : List In) (n : Int) : Nat → Int → List (Int × Int)
  | 0, _ => []
  | k + 1, p => wdAt o n p ++ wdS o n k (p + 1)
theorem wdS_snoc (o : List In) (n : Int) : ∀ (k : Nat) (p : Int), wdS o n (k + 1) p = wdS o n k p ++ wdAt o n (p + k)
  | 0, p => by show wdAt o n p ++ [] = [] ++ wdAt o n (p + 0); rw [Int.add_zero, List.append_nil, List.nil_append]
  | k + 1, p => by
    show wdAt o n p ++ wdS o n (k + 1) (p + 1) = (wdAt o n p ++ wdS o n k (p + 1)) ++ _
    rw [wdS_snoc o n k (p + 1), List.append_assoc, show p + 1 + (k : Int) = p + ((k + 1 : Nat) : Int) from by omega]
theorem wdS_skip (a : In) (l : List In) (n : Int) : ∀ (k : Nat) (p : Int), a.pl < p → wdS (a :: l) n k p = wdS l n k p
  | 0, _, _ => rfl
  | k + 1, p, h => by
    show wdAt (a :: l) n p ++ _ = wdAt l n p ++ _
    rw [wdS_skip a l n k (p + 1) (by omega)]
    unfold wdAt
    rw [List.filter_cons, if_neg (by simp; omega)]
theorem wdS_none : ∀ (k : Nat) (p n : Int), n = p + k → wdS [] n (k + 1) p = wpls p k
  | 0, p, n, h => by
    show wdAt [] n p ++ [] = []
    unfold wdAt
    rw [if_neg (by omega)]
    rfl
  | k + 1, p, n, h => by
    show wdAt [] n p ++ wdS [] n (k + 1) (p + 1) = (p, 0) :: wpls (p + 1) k
    rw [wdS_none k (p + 1) n (by omega)]
    unfold wdAt
    rw [if_pos (by omega)]
    rfl
theorem wdS_sp : ∀ (l : List In) (k : Nat) (f n : Int), n = f + k → wPlS l → (∀ a ∈ l, f ≤ a.pl ∧ a.pl ≤ n) → wdS l n (k + 1) f = wsp f l n := by
  intro l
  induction l with
  | nil =>
    intro k f n h _ _
    show _ = wpls f (n - f).toNat
    rw [wdS_none k f n h, show (n - f).toNat = k from by omega]
  | cons a l ihl =>
    intro k
    induction k with
    | zero =>
      intro f n h hp hb
      have ha := hb a (by simp)
      have e : a.pl = f := by omega
      have hl := ihl 0 f n h (List.pairwise_cons.1 hp).2 (fun x hx => hb x (List.mem_cons_of_mem _ hx))
      show wdAt (a :: l) n f ++ [] = wpls f (a.pl - f).toNat ++ (List.replicate (wcnt a) (a.pl, a.id) ++ wsp a.pl l n)
      rw [e, ← hl, show (f - f).toNat = 0 from by omega]
      show _ = [] ++ (_ ++ (wdAt l n f ++ []))
      unfold wdAt
      rw [List.filter_cons, if_pos (by simp [e]), List.flatMap_cons]
      simp only [List.append_nil, List.nil_append, List.append_assoc]
    | succ k ihk =>
      intro f n h hp hb
      have ha := hb a (by simp)
      have hq := List.pairwise_cons.1 hp
      by_cases e : a.pl = f
      · have hl := ihl (k + 1) f n h hq.2 (fun x hx => hb x (List.mem_cons_of_mem _ hx))
        show wdAt (a :: l) n f ++ wdS (a :: l) n (k + 1) (f + 1) = wpls f (a.pl - f).toNat ++ (List.replicate (wcnt a) (a.pl, a.id) ++ wsp a.pl l n)
        rw [wdS_skip a l n (k + 1) (f + 1) (by omega), e, ← hl, show (f - f).toNat = 0 from by omega]
        show _ = [] ++ (_ ++ (wdAt l n f ++ wdS l n (k + 1) (f + 1)))
        unfold wdAt
        rw [List.filter_cons, if_pos (by simp [e]), List.flatMap_cons]
        simp only [List.nil_append, List.append_assoc]
      · have hk := ihk (f + 1) n (by omega) hp (fun x hx => by
          rcases List.mem_cons.1 hx with rfl | hx2
          · have := hb x hx; omega
          · have := hq.1 x hx2; have := hb x hx; omega)
        show wdAt (a :: l) n f ++ wdS (a :: l) n (k + 1) (f + 1) = _
        have h0 : wdAt (a :: l) n f = [(f, 0)] := by
          unfold wdAt
          rw [List.filter_eq_nil_iff.2 (fun x hx => by
            rcases List.mem_cons.1 hx with rfl | hx
            · simp; omega
            · have := hq.1 x hx; simp; omega), if_pos (by omega)]
          rfl
        rw [h0, hk]
        show (f, 0) :: (wpls (f + 1) (a.pl - (f + 1)).toNat ++ _) = wpls f (a.pl - f).toNat ++ _
        rw [show (a.pl - f).toNat = (a.pl - (f + 1)).toNat + 1 from by omega]
        rfl
theorem wpls_len : ∀ (k : Nat) (f : Int), (wpls f k).length = k
  | 0, _ => rfl
  | k + 1, f => by show (wpls (f + 1) k).length + 1 = _; rw [wpls_len k]
/-- The document's pieces: runes, one behind the other. -/
def wgput (acc : List (Int × Int)) (id : Int) : List (Int × Int) :=
  match acc.getLast? with
  | some x => if x.1 = id then acc.dropLast ++ [(x.1, x.2 + 1)] else acc ++ [(id, 1)]
  | none => [(id, 1)]
def wgrp (acc : List (Int × Int)) (S : List (Int × Int)) : List (Int × Int) := S.foldl (fun acc s => wgput acc s.2) acc
theorem wgput_same (acc : List (Int × Int)) (id m : Int) : wgput (acc ++ [(id, m)]) id = acc ++ [(id, m + 1)] := by
  unfold wgput
  rw [List.getLast?_append, List.getLast?_singleton, List.dropLast_concat]
  show (if id = id then _ else _) = _
  rw [if_pos rfl]
def wNoEnd (acc : List (Int × Int)) (id : Int) : Prop := ∀ x, acc.getLast? = some x → x.1 ≠ id
theorem wgput_new {acc : List (Int × Int)} {id : Int} (h : wNoEnd acc id) : wgput acc id = acc ++ [(id, 1)] := by
  unfold wgput
  cases e : acc.getLast? with
  | none => rw [List.getLast?_eq_none_iff.1 e]; rfl
  | some x => show (if x.1 = id then _ else _) = _; rw [if_neg (h x e)]
theorem wgrp_go (id : Int) (S : List (Int × Int)) : ∀ (k : Nat) (acc : List (Int × Int)) (m : Int) (l : List (Int × Int)), l.length = k → (∀ s ∈ l, s.2 = id) → wgrp (acc ++ [(id, m)]) (l ++ S) = wgrp (acc ++ [(id, m + k)]) S
  | 0, acc, m, l, hl, _ => by
    rw [List.eq_nil_of_length_eq_zero hl, show m + ((0 : Nat) : Int) = m from by omega]; rfl
  | k + 1, acc, m, [], hl, _ => by simp at hl
  | k + 1, acc, m, s :: l, hl, hs => by
    show wgrp (wgput (acc ++ [(id, m)]) s.2) (l ++ S) = _
    rw [hs s (by simp), wgput_same, wgrp_go id S k acc (m + 1) l (by simpa using hl) (fun x hx => hs x (List.mem_cons_of_mem _ hx)), show m + 1 + (k : Int) = m + ((k + 1 : Nat) : Int) from by omega]
theorem wgrp_row {acc : List (Int × Int)} {id : Int} (h : wNoEnd acc id) (l S : List (Int × Int)) (hl : ∀ s ∈ l, s.2 = id) (h0 : 0 < l.length) : wgrp acc (l ++ S) = wgrp (acc ++ [(id, (l.length : Int))]) S := by
  cases l with
  | nil => simp at h0
  | cons s l =>
    show wgrp (wgput acc s.2) (l ++ S) = _
    rw [hl s (by simp), wgput_new h, wgrp_go id S l.length acc 1 l rfl (fun x hx => hl x (List.mem_cons_of_mem _ hx)), show (1 : Int) + (l.length : Int) = (((s :: l).length : Nat) : Int) from by rw [List.length_cons]; omega]
theorem wpls_ids : ∀ (k : Nat) (f : Int), ∀ s ∈ wpls f k, s.2 = 0
  | 0, _, s, h => by cases h
  | k + 1, f, s, h => by
    rcases List.mem_cons.1 h with rfl | h
    · rfl
    · exact wpls_ids k (f + 1) s h
theorem wNoEnd.snoc {acc : List (Int × Int)} {x : Int × Int} {id : Int} (h : x.1 ≠ id) : wNoEnd (acc ++ [x]) id := by
  intro y hy
  rw [List.getLast?_append, List.getLast?_singleton] at hy
  cases hy
  exact h
def wpcs (l : List I7) : List (Int × Int) := l.map fun i => (i.id, i.d1)
theorem wgrp_gap (f x : Int) (acc S : List (Int × Int)) (h0 : wNoEnd acc 0) : wgrp acc (wpls f (x - f).toNat ++ S) = wgrp (acc ++ wpcs (wgap f x)) S := by
  unfold wgap
  by_cases hg : f < x
  · rw [if_pos hg, wgrp_row h0 _ S (wpls_ids _ _) (by rw [wpls_len]; omega), wpls_len]
    show wgrp (acc ++ [(0, ((x - f).toNat : Int))]) S = wgrp (acc ++ [(0, x - f)]) S
    rw [show ((x - f).toNat : Int) = x - f from by omega]
  · rw [if_neg hg, show (x - f).toNat = 0 from by omega]
    show wgrp acc ([] ++ S) = wgrp (acc ++ []) S
    rw [List.nil_append, List.append_nil]
theorem wgrp_sp : ∀ (l : List In) (f t : Int) (acc : List (Int × Int)), Wv f l t → wNoEnd acc 0 → (∀ a ∈ l, wNoEnd acc a.id) → wgrp acc (wsp f l t) = acc ++ wpcs (wvP f l t)
  | [], f, t, acc, hw, h0, _ => by
    have := wgrp_gap f t acc [] h0
    rw [List.append_nil] at this
    show wgrp acc (wpls f (t - f).toNat) = acc ++ wpcs ([] ++ wgap f t)
    rw [this]
    rfl
  | a :: l, f, t, acc, hw, h0, hn => by
    have hid := hw.ids a (by simp)
    have hap := (List.pairwise_cons.1 hw.apart).1
    have hna : wNoEnd (acc ++ wpcs (wgap f a.pl)) a.id := by
      unfold wgap
      split
      · exact wNoEnd.snoc (by show (0 : Int) ≠ a.id; omega)
      · show wNoEnd (acc ++ []) a.id
        rw [List.append_nil]
        exact hn a (by simp)
    show wgrp acc (wpls f (a.pl - f).toNat ++ (List.replicate (wcnt a) (a.pl, a.id) ++ wsp a.pl l t)) = _
    rw [wgrp_gap f a.pl acc _ h0, wgrp_row hna (List.replicate (wcnt a) (a.pl, a.id)) _ (fun s hs => by rw [(List.mem_replicate.1 hs).2]) (by rw [List.length_replicate]; exact hw.pos a (by simp)), wgrp_sp l a.pl t _ hw.tail (wNoEnd.snoc (by show a.id ≠ 0; omega)) (fun x hx => wNoEnd.snoc (hap x hx)), wvP_cons, List.length_replicate]
    unfold wpcs
    rw [List.map_append, List.map_cons, List.append_assoc, List.append_assoc]
    rfl
/-- How many runes the woven text has. -/
theorem wsp_len : ∀ (l : List In) (f t : Int), Wv f l t → ((wsp f l t).length : Int) = t - f + wosum t 1 l ∧ wdsum 1 (wvP f l t) = t - f + wosum t 1 l ∧ wdsum 0 (wvP f l t) = t - f := by
  intro l
  have hgap : ∀ f x : Int, f ≤ x → wdsum 1 (wgap f x) = x - f ∧ wdsum 0 (wgap f x) = x - f := by
    intro f x h
    unfold wgap
    split
    · exact ⟨by show x - f + 0 = _; omega, by show x - f + 0 = _; omega⟩
    · exact ⟨by show (0 : Int) = _; omega, by show (0 : Int) = _; omega⟩
  induction l with
  | nil =>
    intro f t hw
    have h := hw.le
    obtain ⟨g1, g2⟩ := hgap f t h
    refine ⟨?_, ?_, ?_⟩
    · show ((wpls f (t - f).toNat).length : Int) = t - f + 0
      rw [wpls_len]; omega
    · show wdsum 1 ([] ++ wgap f t) = t - f + 0
      rw [List.nil_append, g1]; omega
    · show wdsum 0 ([] ++ wgap f t) = t - f
      rw [List.nil_append, g2]
  | cons a l ih =>
    intro f t hw
    have ha := hw.lo a (by simp)
    have hb := hw.hi a (by simp)
    obtain ⟨h1, h2, h3⟩ := ih a.pl t hw.tail
    obtain ⟨g1, g2⟩ := hgap f a.pl ha
    have e : wosum t 1 (a :: l) = wcnt a + wosum t 1 l := by
      show ((if a.pl < t ∨ (a.pl = t ∧ (1 : Int) = 1) then (wcnt a : Int) else 0) + wosum t 1 l) = _
      rw [if_pos (by omega)]
    refine ⟨?_, ?_, ?_⟩
    · show ((wpls f (a.pl - f).toNat ++ (List.replicate (wcnt a) (a.pl, a.id) ++ wsp a.pl l t)).length : Int) = _
      rw [List.length_append, List.length_append, List.length_replicate, wpls_len, e]
      omega
    · rw [wvP_cons, wdsum_append, g1, e]
      show _ + ((wcnt a : Int) + wdsum 1 (wvP a.pl l t)) = _
      omega
    · rw [wvP_cons, wdsum_append, g2]
      show _ + ((0 : Int) + wdsum 0 (wvP a.pl l t)) = _
      omega
set_option linter.unusedVariables false
set_option maxHeartbeats 4000000 in
theorem wvPiece_any (id b v : Int) (w : World) : Calls Tryz.prog 88 #[.int .i64 id, .int .i64 b, .int .i64 v] w fun e w' => e = .returned (.agg #[.int .i64 0, .int .i64 id, .int .i64 b, .int .i64 v, .int .i64 0, .int .i64 0, .string ⟨#[]⟩]) ∧ Below w.heap.size w w' := by
  go_enter Tryz.func88, Tryz.ntmps88
  go_wp2
  refine bodyPost_ret (v := .agg #[.int .i64 0, .int .i64 id, .int .i64 b, .int .i64 v, .int .i64 0, .int .i64 0, .string ⟨#[]⟩]) (by simp [results, Tryz.results88, go_sem]) rfl ⟨rfl, ?_⟩
  first
    | exact (Below.refl _ _).alloc (Nat.le_refl _) _
    | (with_reducible exact (((((((((Below.refl _ _).alloc (Nat.le_refl _) _).setCell (p := ⟨w.heap.size, _, none⟩) (Nat.le_refl _) _).setCell (p := ⟨w.heap.size, _, none⟩) (Nat.le_refl _) _).setCell (p := ⟨w.heap.size, _, none⟩) (Nat.le_refl _) _).setCell (p := ⟨w.heap.size, _, none⟩) (Nat.le_refl _) _).setCell (p := ⟨w.heap.size, _, none⟩) (Nat.le_refl _) _).setCell (p := ⟨w.heap.size, _, none⟩) (Nat.le_refl _) _).setCell (p := ⟨w.heap.size, _, none⟩) (Nat.le_refl _) _))
/-- What the closure that lays the buffer's pieces has: from where on in a block, the row in the next one, the pieces behind it. -/
structure UpAt (fb : Nat) (f : Int) (d : List I7) (W : World) : Prop where
  fr : RawAt 3 W fb #[.int .i64 f]
  ex : ∃ v, RawAt 77 W (fb + 1) #[v] ∧ W.ownsRow (fb + 2) 120 7 v d.length (kfl encIt d)
  lt : fb + 1 < W.heap.size
theorem UpAt.keep {fb : Nat} {f : Int} {d : List I7} {W W' : World} (h : UpAt fb f d W) (hb : Below W.heap.size W W') : UpAt fb f d W' := by
  obtain ⟨h1, ⟨v, h2, h3⟩, h4⟩ := h
  exact ⟨h1.below hb h1.lt, ⟨v, h2.below hb h2.lt, own_below h3 hb⟩, Nat.lt_of_lt_of_le h4 hb.size⟩
set_option maxHeartbeats 4000000 in
set_option maxRecDepth 100000 in
theorem wvUp_any (fb : Nat) (f x : Int) (d : List I7) (W : World) (hd : d.length ≤ 1000000) (hf : -4398046511104 ≤ f ∧ f ≤ 4398046511104) (hx : -4398046511104 ≤ x ∧ x ≤ 4398046511104) (h : UpAt fb f d W) :
    Calls Tryz.prog 87 #[.int .i64 x, .pointer (some ⟨fb, 0, none⟩), .pointer (some ⟨fb + 1, 0, none⟩)] W fun e w' => e = .returned (.tuple #[]) ∧ UpAt fb x (d ++ wgap f x) w' ∧ Below fb W w' ∧ OnT [3, 77, 120] W w' := by
  obtain ⟨h1, ⟨v, h2, h3⟩, h4⟩ := h
  have c0 : W.cell? ⟨fb, 0, none⟩ = some (.int .i64 f) := RawAt.cell h1 0
  have c1 : W.cell? ⟨fb + 1, 0, none⟩ = some v := RawAt.cell h2 0
  have hne : (fb + 1 == fb) = false := by simp
  by_cases g : f < x
  · have k1 : decide (f < x) = true := decide_eq_true g
    have w1 : IntKind.i64.wrap (x - f) = x - f := IntWalk.i64_in _ (by omega)
    have HG : Hid (wgap f x = [wpc 0 (x - f) (x - f)]) := Lib.hid (by unfold wgap; rw [if_pos g])
    have ST := it_slt
    have CP := Lib.hid fun (W : World) => wvPiece_any 0 (x - f) (x - f) W
    have H1 := Lib.hid h1
    have H2 := Lib.hid h2
    have H3 := Lib.hid h3
    obtain ⟨A3, c3, rfl⟩ := own_formI h3
    have hlt4 := h3.lt
    clear h1 h2 h3
    go_enter Tryz.func87, Tryz.ntmps87
    go_wp2_with fail
    have hW2 : Below W.heap.size W W.drew := (Below.refl _ _).drew
    have Rf : RawAt 3 W.drew fb #[.int .i64 f] := H1.out
    have Rr : RawAt 77 W.drew (fb + 1) #[.slice A3 d.length c3] := H2.out
    have MK : Hid (∀ V : World, RawAt 3 V fb #[.int .i64 f] → (fun V : World => V.cell? ⟨fb, 0, none⟩ = some (.int .i64 f)) V) := Lib.hid fun V h1 => RawAt.cell h1 0
    refine wp_region_noPanic ?_
    refine wp_region_held_drew (S := (fun V => V.cell? ⟨fb, 0, none⟩ = some (.int .i64 f))) (by kernel_rfl) (MK.out _ Rf) (fun hHeld => ?_)
    refine wpAnyH_take (i := 1) (v := ?_) rfl (by kernel_rfl) (by kernel_rfl) (by kernel_rfl) (fun _ _ _ h => h) (Or.inl ⟨by rfl, ?_⟩) hHeld ?_
    rotate_left
    · intro w hSw; (try dsimp only at hSw); go_simp; try with_reducible rfl
    go_simp
    refine wpAnyH_take (i := 2) (v := ?_) rfl (by kernel_rfl) (by kernel_rfl) (by kernel_rfl) (fun _ _ _ h => h) (Or.inl ⟨by rfl, ?_⟩) hHeld ?_
    rotate_left
    · intro w hSw; (try dsimp only at hSw); go_simp; try with_reducible rfl
    go_simp
    refine wpAnyH_take (i := 3) (v := ?_) rfl (by kernel_rfl) (by kernel_rfl) (by kernel_rfl) (fun _ _ _ h => h) (Or.inl ⟨by rfl, ?_⟩) hHeld ?_
    rotate_left
    · intro w hSw; (try dsimp only at hSw); go_simp; try with_reducible rfl
    go_simp
    refine wpAnyH_take (i := 4) (v := ?_) rfl (by kernel_rfl) (by kernel_rfl) (by kernel_rfl) (fun _ _ _ h => h) (Or.inl ⟨by rfl, ?_⟩) hHeld ?_
    rotate_left
    · intro w hSw; (try dsimp only at hSw); go_simp; try with_reducible rfl
    go_simp
    refine wpAnyH_take (i := 5) (v := ?_) rfl (by kernel_rfl) (by kernel_rfl) (by kernel_rfl) (fun _ _ _ h => h) (Or.inl ⟨by rfl, ?_⟩) hHeld ?_
    rotate_left
    · intro w hSw; (try dsimp only at hSw); go_simp; try with_reducible rfl
    go_simp
    refine wpAnyH_take (i := 6) (v := ?_) rfl (by kernel_rfl) (by kernel_rfl) (by kernel_rfl) (fun _ _ _ h => h) (Or.inl ⟨by rfl, ?_⟩) hHeld ?_
    rotate_left
    · intro w hSw; (try dsimp only at hSw); go_simp; try with_reducible rfl
    go_simp
    refine wpAnyH_ready (rs := [0, 7]) (by kernel_rfl) (by simp) ?_
    refine AllReadyH.cons rfl (fun K hK => ?_) (AllReadyH.cons rfl (fun K hK => ?_) AllReadyH.nil)
    · go_simp
      go_wp2_with (first | (go_at_call 88; (with_reducible refine (CP.out _).mono ?_); rintro e w4 ⟨rfl, b4⟩; have Rf := RawAt.below Rf b4 Rf.lt; have Rr := RawAt.below Rr b4 Rr.lt; have hW2 := hW2.trans (b4.mono hW2.size); have c2 : w4.cell? ⟨fb + 1, 0, none⟩ = some (.slice A3 d.length c3) := RawAt.cell Rr 0; have c4 : (w4.alloc (.cells #[.int .i64 0, .int .i64 0, .int .i64 (x - f), .int .i64 (x - f), .int .i64 0, .int .i64 0, .string ⟨#[]⟩] 120)).cell? ⟨fb + 1, 0, none⟩ = some (.slice A3 d.length c3) := RawAt.cell (RawAt.below Rr ((Below.refl _ _).alloc (Nat.le_refl _) _) Rr.lt) 0))
      refine hK.out _ _ (by first | (with_reducible exact MK.out _ Rf) | exact MK.out _ (RawAt.below Rf ((Below.refl _ _).alloc (Nat.le_refl _) _) Rf.lt) | exact MK.out _ (RawAt.set_other Rf (by omega) 0 _)) (fun hHeld => ?_)
      clear hK K
      go_simp
      refine wpAnyH_ready (rs := [7]) (by kernel_rfl) (by simp) ?_
      refine AllReadyH.cons rfl (fun K hK => ?_) ?_
      rotate_left
      · exact AllReadyH.nil
      go_simp
      go_wp2_with (first | (go_at_call 88; (with_reducible refine (CP.out _).mono ?_); rintro e w4 ⟨rfl, b4⟩; have Rf := RawAt.below Rf b4 Rf.lt; have Rr := RawAt.below Rr b4 Rr.lt; have hW2 := hW2.trans (b4.mono hW2.size); have c2 : w4.cell? ⟨fb + 1, 0, none⟩ = some (.slice A3 d.length c3) := RawAt.cell Rr 0; have c4 : (w4.alloc (.cells #[.int .i64 0, .int .i64 0, .int .i64 (x - f), .int .i64 (x - f), .int .i64 0, .int .i64 0, .string ⟨#[]⟩] 120)).cell? ⟨fb + 1, 0, none⟩ = some (.slice A3 d.length c3) := RawAt.cell (RawAt.below Rr ((Below.refl _ _).alloc (Nat.le_refl _) _) Rr.lt) 0))
      refine hK.out _ _ (by first | (with_reducible exact MK.out _ Rf) | exact MK.out _ (RawAt.below Rf ((Below.refl _ _).alloc (Nat.le_refl _) _) Rf.lt) | exact MK.out _ (RawAt.set_other Rf (by omega) 0 _)) (fun hHeld => ?_)
      clear hK K
      go_simp
      refine wpAnyH_ready (rs := [8]) (by kernel_rfl) (by simp) ?_
      refine AllReadyH.cons rfl (fun K hK => ?_) ?_
      rotate_left
      · exact AllReadyH.nil
      go_simp
      go_wp2_with (first | (go_at_call 88; (with_reducible refine (CP.out _).mono ?_); rintro e w4 ⟨rfl, b4⟩; have Rf := RawAt.below Rf b4 Rf.lt; have Rr := RawAt.below Rr b4 Rr.lt; have hW2 := hW2.trans (b4.mono hW2.size); have c2 : w4.cell? ⟨fb + 1, 0, none⟩ = some (.slice A3 d.length c3) := RawAt.cell Rr 0; have c4 : (w4.alloc (.cells #[.int .i64 0, .int .i64 0, .int .i64 (x - f), .int .i64 (x - f), .int .i64 0, .int .i64 0, .string ⟨#[]⟩] 120)).cell? ⟨fb + 1, 0, none⟩ = some (.slice A3 d.length c3) := RawAt.cell (RawAt.below Rr ((Below.refl _ _).alloc (Nat.le_refl _) _) Rr.lt) 0))
      refine hK.out _ _ (by first | (with_reducible exact MK.out _ Rf) | exact MK.out _ (RawAt.below Rf ((Below.refl _ _).alloc (Nat.le_refl _) _) Rf.lt) | exact MK.out _ (RawAt.set_other Rf (by omega) 0 _)) (fun hHeld => ?_)
      clear hK K
      go_simp
      refine wpAnyH_ready (rs := [9]) (by kernel_rfl) (by simp) ?_
      refine AllReadyH.cons rfl (fun K hK => ?_) ?_
      rotate_left
      · exact AllReadyH.nil
      have x9 : Below w4.heap.size w4 (w4.alloc (.cells #[.int .i64 0, .int .i64 0, .int .i64 (x - f), .int .i64 (x - f), .int .i64 0, .int .i64 0, .string ⟨#[]⟩] 120)) := (Below.refl _ _).alloc (Nat.le_refl _) _
      have R9 : RawAt 120 (w4.alloc (.cells #[.int .i64 0, .int .i64 0, .int .i64 (x - f), .int .i64 (x - f), .int .i64 0, .int .i64 0, .string ⟨#[]⟩] 120)) w4.heap.size #[.int .i64 0, .int .i64 0, .int .i64 (x - f), .int .i64 (x - f), .int .i64 0, .int .i64 0, .string ⟨#[]⟩] := heap_alloc_new w4 _
      have hrow := rows_of_block (enc := encIt) (k := 7) encIt_len R9 (l := [wpc 0 (x - f) (x - f)]) rfl
      have HB9 := hW2.trans (x9.mono hW2.size)
      have hbs := HB9.size
      refine step_appK (enc := encIt) ST encIt_len (by omega) rfl (.tmp 7) (.tmp 15) rfl (base := fb + 2) (v := .slice A3 d.length c3) (n := d.length) (xs := kfl encIt d) (by simp [Act.eval]) (own_below H3.out HB9) (some ⟨w4.heap.size, 0, none⟩) 1 1 [wpc 0 (x - f) (x - f)] (by simp [Act.eval]) hrow ⟨Nat.le_refl _, fun h => by cases h⟩ rfl (kfl_one' encIt_one _) (by simp only [maxLen]; omega) (by omega) (by omega) ?_
      intro v5 w5 hown5 hg5 hor5
      have T5 := (OnT.of (ts := [3, 77, 120]) HB9).trans (OnT.grown (ts := [3, 77, 120]) (own_below H3.out HB9) hg5 (by simp))
      obtain ⟨g5, cap5, rfl⟩ := own_slice hown5 (by omega)
      have HB5 : Below (fb + 2) W w5 := ((HB9.mono (by omega)).grown hg5 (by omega) (fun j hj => (hlt4 j hj).1))
      have Rf := RawAt.below H1.out HB5 (by omega)
      have Rr := RawAt.below H2.out HB5 (by omega)
      have fr := RawAt.free Rr 0
      have cr : w5.cell? ⟨fb + 1, 0, none⟩ = some (.slice A3 d.length c3) := RawAt.cell Rr 0
      refine hK.out _ _ (by first | (with_reducible exact MK.out _ Rf) | exact MK.out _ (RawAt.below Rf ((Below.refl _ _).alloc (Nat.le_refl _) _) Rf.lt) | exact MK.out _ (RawAt.set_other Rf (by omega) 0 _)) (fun hHeld => ?_)
      clear hK K
      go_simp
      refine wpAnyH_ready (rs := [10]) (by kernel_rfl) (by simp) ?_
      refine AllReadyH.cons rfl (fun K hK => ?_) ?_
      rotate_left
      · exact AllReadyH.nil
      go_simp
      go_wp2_with (first | (go_at_call 88; (with_reducible refine (CP.out _).mono ?_); rintro e w4 ⟨rfl, b4⟩; have Rf := RawAt.below Rf b4 Rf.lt; have Rr := RawAt.below Rr b4 Rr.lt; have hW2 := hW2.trans (b4.mono hW2.size); have c2 : w4.cell? ⟨fb + 1, 0, none⟩ = some (.slice A3 d.length c3) := RawAt.cell Rr 0; have c4 : (w4.alloc (.cells #[.int .i64 0, .int .i64 0, .int .i64 (x - f), .int .i64 (x - f), .int .i64 0, .int .i64 0, .string ⟨#[]⟩] 120)).cell? ⟨fb + 1, 0, none⟩ = some (.slice A3 d.length c3) := RawAt.cell (RawAt.below Rr ((Below.refl _ _).alloc (Nat.le_refl _) _) Rr.lt) 0))
      refine hK.out _ _ (by first | (with_reducible exact MK.out _ Rf) | exact MK.out _ (RawAt.below Rf ((Below.refl _ _).alloc (Nat.le_refl _) _) Rf.lt) | exact MK.out _ (RawAt.set_other Rf (by omega) 0 _)) (fun hHeld => ?_)
      clear hK K
      go_simp
      refine wpAnyH_done (by kernel_rfl) ?_ _
      refine NoPanic.normal ?_
      have HB6 : Below fb W ((w5.setCell ⟨fb + 1, 0, none⟩ (.slice (some ⟨g5, 0, none⟩) (d.length + 1) cap5)).setCell ⟨fb, 0, none⟩ (.int .i64 x)) := ((HB5.mono (show fb ≤ fb + 2 by omega)).setCell (p := ⟨fb + 1, 0, none⟩) (by simp) _).setCell (p := ⟨fb, 0, none⟩) (Nat.le_refl _) _
      have f0 := RawAt.free (RawAt.set_other Rf (show fb ≠ fb + 1 by omega) 0 (.slice (some ⟨g5, 0, none⟩) (d.length + 1) cap5)) 0
      have S0 : RawAt 3 ((w5.setCell ⟨fb + 1, 0, none⟩ (.slice (some ⟨g5, 0, none⟩) (d.length + 1) cap5)).setCell ⟨fb, 0, none⟩ (.int .i64 x)) fb #[.int .i64 x] := ((RawAt.set_other Rf (show fb ≠ fb + 1 by omega) 0 (.slice (some ⟨g5, 0, none⟩) (d.length + 1) cap5)).set_ 0 _).of_eq (by simp)
      have S1 : RawAt 77 ((w5.setCell ⟨fb + 1, 0, none⟩ (.slice (some ⟨g5, 0, none⟩) (d.length + 1) cap5)).setCell ⟨fb, 0, none⟩ (.int .i64 x)) (fb + 1) #[.slice (some ⟨g5, 0, none⟩) (d.length + 1) cap5] := ((Rr.set_ 0 (.slice (some ⟨g5, 0, none⟩) (d.length + 1) cap5)).of_eq (by simp)).set_other (by omega) 0 _
      have S2 := own_set (own_set hown5 (show fb + 1 < fb + 2 by omega) 0 (.slice (some ⟨g5, 0, none⟩) (d.length + 1) cap5)) (show fb < fb + 2 by omega) 0 (.int .i64 x)
      have S3 : fb + 1 < ((w5.setCell ⟨fb + 1, 0, none⟩ (.slice (some ⟨g5, 0, none⟩) (d.length + 1) cap5)).setCell ⟨fb, 0, none⟩ (.int .i64 x)).heap.size := S1.lt
      have HU : Hid (UpAt fb x (d ++ wgap f x) ((w5.setCell ⟨fb + 1, 0, none⟩ (.slice (some ⟨g5, 0, none⟩) (d.length + 1) cap5)).setCell ⟨fb, 0, none⟩ (.int .i64 x))) := Lib.hid (by rw [HG.out]; refine ⟨S0, ⟨_, S1, ?_⟩, S3⟩; rw [kfl_append, List.length_append]; exact S2)
      have T6 := (T5.set Rr (by simp) 0 (.slice (some ⟨g5, 0, none⟩) (d.length + 1) cap5)).set (RawAt.set_other Rf (show fb ≠ fb + 1 by omega) 0 (.slice (some ⟨g5, 0, none⟩) (d.length + 1) cap5)) (by simp) 0 (.int .i64 x)
      clear T5 S0 S1 S2 S3 hown5 hg5 hor5 hrow R9 x9 HB9 hW2 MK H1 H2 H3
      go_wp2
      refine bodyPost_end (v := .tuple #[]) (by simp [results, Tryz.results87, go_sem]) rfl ⟨rfl, HU.out, HB6, T6⟩
    · go_simp
      go_wp2_with (first | (go_at_call 88; (with_reducible refine (CP.out _).mono ?_); rintro e w4 ⟨rfl, b4⟩; have Rf := RawAt.below Rf b4 Rf.lt; have Rr := RawAt.below Rr b4 Rr.lt; have hW2 := hW2.trans (b4.mono hW2.size); have c2 : w4.cell? ⟨fb + 1, 0, none⟩ = some (.slice A3 d.length c3) := RawAt.cell Rr 0; have c4 : (w4.alloc (.cells #[.int .i64 0, .int .i64 0, .int .i64 (x - f), .int .i64 (x - f), .int .i64 0, .int .i64 0, .string ⟨#[]⟩] 120)).cell? ⟨fb + 1, 0, none⟩ = some (.slice A3 d.length c3) := RawAt.cell (RawAt.below Rr ((Below.refl _ _).alloc (Nat.le_refl _) _) Rr.lt) 0))
      refine hK.out _ _ (by first | (with_reducible exact MK.out _ Rf) | exact MK.out _ (RawAt.below Rf ((Below.refl _ _).alloc (Nat.le_refl _) _) Rf.lt) | exact MK.out _ (RawAt.set_other Rf (by omega) 0 _)) (fun hHeld => ?_)
      clear hK K
      go_simp
      refine wpAnyH_ready (rs := [0, 8]) (by kernel_rfl) (by simp) ?_
      refine AllReadyH.cons rfl (fun K hK => ?_) (AllReadyH.cons rfl (fun K hK => ?_) AllReadyH.nil)
      · go_simp
        go_wp2_with (first | (go_at_call 88; (with_reducible refine (CP.out _).mono ?_); rintro e w4 ⟨rfl, b4⟩; have Rf := RawAt.below Rf b4 Rf.lt; have Rr := RawAt.below Rr b4 Rr.lt; have hW2 := hW2.trans (b4.mono hW2.size); have c2 : w4.cell? ⟨fb + 1, 0, none⟩ = some (.slice A3 d.length c3) := RawAt.cell Rr 0; have c4 : (w4.alloc (.cells #[.int .i64 0, .int .i64 0, .int .i64 (x - f), .int .i64 (x - f), .int .i64 0, .int .i64 0, .string ⟨#[]⟩] 120)).cell? ⟨fb + 1, 0, none⟩ = some (.slice A3 d.length c3) := RawAt.cell (RawAt.below Rr ((Below.refl _ _).alloc (Nat.le_refl _) _) Rr.lt) 0))
        refine hK.out _ _ (by first | (with_reducible exact MK.out _ Rf) | exact MK.out _ (RawAt.below Rf ((Below.refl _ _).alloc (Nat.le_refl _) _) Rf.lt) | exact MK.out _ (RawAt.set_other Rf (by omega) 0 _)) (fun hHeld => ?_)
        clear hK K
        go_simp
        refine wpAnyH_ready (rs := [8]) (by kernel_rfl) (by simp) ?_
        refine AllReadyH.cons rfl (fun K hK => ?_) ?_
        rotate_left
        · exact AllReadyH.nil
        go_simp
        go_wp2_with (first | (go_at_call 88; (with_reducible refine (CP.out _).mono ?_); rintro e w4 ⟨rfl, b4⟩; have Rf := RawAt.below Rf b4 Rf.lt; have Rr := RawAt.below Rr b4 Rr.lt; have hW2 := hW2.trans (b4.mono hW2.size); have c2 : w4.cell? ⟨fb + 1, 0, none⟩ = some (.slice A3 d.length c3) := RawAt.cell Rr 0; have c4 : (w4.alloc (.cells #[.int .i64 0, .int .i64 0, .int .i64 (x - f), .int .i64 (x - f), .int .i64 0, .int .i64 0, .string ⟨#[]⟩] 120)).cell? ⟨fb + 1, 0, none⟩ = some (.slice A3 d.length c3) := RawAt.cell (RawAt.below Rr ((Below.refl _ _).alloc (Nat.le_refl _) _) Rr.lt) 0))
        refine hK.out _ _ (by first | (with_reducible exact MK.out _ Rf) | exact MK.out _ (RawAt.below Rf ((Below.refl _ _).alloc (Nat.le_refl _) _) Rf.lt) | exact MK.out _ (RawAt.set_other Rf (by omega) 0 _)) (fun hHeld => ?_)
        clear hK K
        go_simp
        refine wpAnyH_ready (rs := [9]) (by kernel_rfl) (by simp) ?_
        refine AllReadyH.cons rfl (fun K hK => ?_) ?_
        rotate_left
        · exact AllReadyH.nil
        have x9 : Below w4.heap.size w4 (w4.alloc (.cells #[.int .i64 0, .int .i64 0, .int .i64 (x - f), .int .i64 (x - f), .int .i64 0, .int .i64 0, .string ⟨#[]⟩] 120)) := (Below.refl _ _).alloc (Nat.le_refl _) _
        have R9 : RawAt 120 (w4.alloc (.cells #[.int .i64 0, .int .i64 0, .int .i64 (x - f), .int .i64 (x - f), .int .i64 0, .int .i64 0, .string ⟨#[]⟩] 120)) w4.heap.size #[.int .i64 0, .int .i64 0, .int .i64 (x - f), .int .i64 (x - f), .int .i64 0, .int .i64 0, .string ⟨#[]⟩] := heap_alloc_new w4 _
        have hrow := rows_of_block (enc := encIt) (k := 7) encIt_len R9 (l := [wpc 0 (x - f) (x - f)]) rfl
        have HB9 := hW2.trans (x9.mono hW2.size)
        have hbs := HB9.size
        refine step_appK (enc := encIt) ST encIt_len (by omega) rfl (.tmp 7) (.tmp 15) rfl (base := fb + 2) (v := .slice A3 d.length c3) (n := d.length) (xs := kfl encIt d) (by simp [Act.eval]) (own_below H3.out HB9) (some ⟨w4.heap.size, 0, none⟩) 1 1 [wpc 0 (x - f) (x - f)] (by simp [Act.eval]) hrow ⟨Nat.le_refl _, fun h => by cases h⟩ rfl (kfl_one' encIt_one _) (by simp only [maxLen]; omega) (by omega) (by omega) ?_
        intro v5 w5 hown5 hg5 hor5
        have T5 := (OnT.of (ts := [3, 77, 120]) HB9).trans (OnT.grown (ts := [3, 77, 120]) (own_below H3.out HB9) hg5 (by simp))
        obtain ⟨g5, cap5, rfl⟩ := own_slice hown5 (by omega)
        have HB5 : Below (fb + 2) W w5 := ((HB9.mono (by omega)).grown hg5 (by omega) (fun j hj => (hlt4 j hj).1))
        have Rf := RawAt.below H1.out HB5 (by omega)
        have Rr := RawAt.below H2.out HB5 (by omega)
        have fr := RawAt.free Rr 0
        have cr : w5.cell? ⟨fb + 1, 0, none⟩ = some (.slice A3 d.length c3) := RawAt.cell Rr 0
        refine hK.out _ _ (by first | (with_reducible exact MK.out _ Rf) | exact MK.out _ (RawAt.below Rf ((Below.refl _ _).alloc (Nat.le_refl _) _) Rf.lt) | exact MK.out _ (RawAt.set_other Rf (by omega) 0 _)) (fun hHeld => ?_)
        clear hK K
        go_simp
        refine wpAnyH_ready (rs := [10]) (by kernel_rfl) (by simp) ?_
        refine AllReadyH.cons rfl (fun K hK => ?_) ?_
        rotate_left
        · exact AllReadyH.nil
        go_simp
        go_wp2_with (first | (go_at_call 88; (with_reducible refine (CP.out _).mono ?_); rintro e w4 ⟨rfl, b4⟩; have Rf := RawAt.below Rf b4 Rf.lt; have Rr := RawAt.below Rr b4 Rr.lt; have hW2 := hW2.trans (b4.mono hW2.size); have c2 : w4.cell? ⟨fb + 1, 0, none⟩ = some (.slice A3 d.length c3) := RawAt.cell Rr 0; have c4 : (w4.alloc (.cells #[.int .i64 0, .int .i64 0, .int .i64 (x - f), .int .i64 (x - f), .int .i64 0, .int .i64 0, .string ⟨#[]⟩] 120)).cell? ⟨fb + 1, 0, none⟩ = some (.slice A3 d.length c3) := RawAt.cell (RawAt.below Rr ((Below.refl _ _).alloc (Nat.le_refl _) _) Rr.lt) 0))
        refine hK.out _ _ (by first | (with_reducible exact MK.out _ Rf) | exact MK.out _ (RawAt.below Rf ((Below.refl _ _).alloc (Nat.le_refl _) _) Rf.lt) | exact MK.out _ (RawAt.set_other Rf (by omega) 0 _)) (fun hHeld => ?_)
        clear hK K
        go_simp
        refine wpAnyH_done (by kernel_rfl) ?_ _
        refine NoPanic.normal ?_
        have HB6 : Below fb W ((w5.setCell ⟨fb + 1, 0, none⟩ (.slice (some ⟨g5, 0, none⟩) (d.length + 1) cap5)).setCell ⟨fb, 0, none⟩ (.int .i64 x)) := ((HB5.mono (show fb ≤ fb + 2 by omega)).setCell (p := ⟨fb + 1, 0, none⟩) (by simp) _).setCell (p := ⟨fb, 0, none⟩) (Nat.le_refl _) _
        have f0 := RawAt.free (RawAt.set_other Rf (show fb ≠ fb + 1 by omega) 0 (.slice (some ⟨g5, 0, none⟩) (d.length + 1) cap5)) 0
        have S0 : RawAt 3 ((w5.setCell ⟨fb + 1, 0, none⟩ (.slice (some ⟨g5, 0, none⟩) (d.length + 1) cap5)).setCell ⟨fb, 0, none⟩ (.int .i64 x)) fb #[.int .i64 x] := ((RawAt.set_other Rf (show fb ≠ fb + 1 by omega) 0 (.slice (some ⟨g5, 0, none⟩) (d.length + 1) cap5)).set_ 0 _).of_eq (by simp)
        have S1 : RawAt 77 ((w5.setCell ⟨fb + 1, 0, none⟩ (.slice (some ⟨g5, 0, none⟩) (d.length + 1) cap5)).setCell ⟨fb, 0, none⟩ (.int .i64 x)) (fb + 1) #[.slice (some ⟨g5, 0, none⟩) (d.length + 1) cap5] := ((Rr.set_ 0 (.slice (some ⟨g5, 0, none⟩) (d.length + 1) cap5)).of_eq (by simp)).set_other (by omega) 0 _
        have S2 := own_set (own_set hown5 (show fb + 1 < fb + 2 by omega) 0 (.slice (some ⟨g5, 0, none⟩) (d.length + 1) cap5)) (show fb < fb + 2 by omega) 0 (.int .i64 x)
        have S3 : fb + 1 < ((w5.setCell ⟨fb + 1, 0, none⟩ (.slice (some ⟨g5, 0, none⟩) (d.length + 1) cap5)).setCell ⟨fb, 0, none⟩ (.int .i64 x)).heap.size := S1.lt
        have HU : Hid (UpAt fb x (d ++ wgap f x) ((w5.setCell ⟨fb + 1, 0, none⟩ (.slice (some ⟨g5, 0, none⟩) (d.length + 1) cap5)).setCell ⟨fb, 0, none⟩ (.int .i64 x))) := Lib.hid (by rw [HG.out]; refine ⟨S0, ⟨_, S1, ?_⟩, S3⟩; rw [kfl_append, List.length_append]; exact S2)
        have T6 := (T5.set Rr (by simp) 0 (.slice (some ⟨g5, 0, none⟩) (d.length + 1) cap5)).set (RawAt.set_other Rf (show fb ≠ fb + 1 by omega) 0 (.slice (some ⟨g5, 0, none⟩) (d.length + 1) cap5)) (by simp) 0 (.int .i64 x)
        clear T5 S0 S1 S2 S3 hown5 hg5 hor5 hrow R9 x9 HB9 hW2 MK H1 H2 H3
        go_wp2
        refine bodyPost_end (v := .tuple #[]) (by simp [results, Tryz.results87, go_sem]) rfl ⟨rfl, HU.out, HB6, T6⟩
      · go_simp
        go_wp2_with (first | (go_at_call 88; (with_reducible refine (CP.out _).mono ?_); rintro e w4 ⟨rfl, b4⟩; have Rf := RawAt.below Rf b4 Rf.lt; have Rr := RawAt.below Rr b4 Rr.lt; have hW2 := hW2.trans (b4.mono hW2.size); have c2 : w4.cell? ⟨fb + 1, 0, none⟩ = some (.slice A3 d.length c3) := RawAt.cell Rr 0; have c4 : (w4.alloc (.cells #[.int .i64 0, .int .i64 0, .int .i64 (x - f), .int .i64 (x - f), .int .i64 0, .int .i64 0, .string ⟨#[]⟩] 120)).cell? ⟨fb + 1, 0, none⟩ = some (.slice A3 d.length c3) := RawAt.cell (RawAt.below Rr ((Below.refl _ _).alloc (Nat.le_refl _) _) Rr.lt) 0))
        refine hK.out _ _ (by first | (with_reducible exact MK.out _ Rf) | exact MK.out _ (RawAt.below Rf ((Below.refl _ _).alloc (Nat.le_refl _) _) Rf.lt) | exact MK.out _ (RawAt.set_other Rf (by omega) 0 _)) (fun hHeld => ?_)
        clear hK K
        go_simp
        refine wpAnyH_ready (rs := [0]) (by kernel_rfl) (by simp) ?_
        refine AllReadyH.cons rfl (fun K hK => ?_) ?_
        rotate_left
        · exact AllReadyH.nil
        go_simp
        go_wp2_with (first | (go_at_call 88; (with_reducible refine (CP.out _).mono ?_); rintro e w4 ⟨rfl, b4⟩; have Rf := RawAt.below Rf b4 Rf.lt; have Rr := RawAt.below Rr b4 Rr.lt; have hW2 := hW2.trans (b4.mono hW2.size); have c2 : w4.cell? ⟨fb + 1, 0, none⟩ = some (.slice A3 d.length c3) := RawAt.cell Rr 0; have c4 : (w4.alloc (.cells #[.int .i64 0, .int .i64 0, .int .i64 (x - f), .int .i64 (x - f), .int .i64 0, .int .i64 0, .string ⟨#[]⟩] 120)).cell? ⟨fb + 1, 0, none⟩ = some (.slice A3 d.length c3) := RawAt.cell (RawAt.below Rr ((Below.refl _ _).alloc (Nat.le_refl _) _) Rr.lt) 0))
        refine hK.out _ _ (by first | (with_reducible exact MK.out _ Rf) | exact MK.out _ (RawAt.below Rf ((Below.refl _ _).alloc (Nat.le_refl _) _) Rf.lt) | exact MK.out _ (RawAt.set_other Rf (by omega) 0 _)) (fun hHeld => ?_)
        clear hK K
        go_simp
        refine wpAnyH_ready (rs := [9]) (by kernel_rfl) (by simp) ?_
        refine AllReadyH.cons rfl (fun K hK => ?_) ?_
        rotate_left
        · exact AllReadyH.nil
        have x9 : Below w4.heap.size w4 (w4.alloc (.cells #[.int .i64 0, .int .i64 0, .int .i64 (x - f), .int .i64 (x - f), .int .i64 0, .int .i64 0, .string ⟨#[]⟩] 120)) := (Below.refl _ _).alloc (Nat.le_refl _) _
        have R9 : RawAt 120 (w4.alloc (.cells #[.int .i64 0, .int .i64 0, .int .i64 (x - f), .int .i64 (x - f), .int .i64 0, .int .i64 0, .string ⟨#[]⟩] 120)) w4.heap.size #[.int .i64 0, .int .i64 0, .int .i64 (x - f), .int .i64 (x - f), .int .i64 0, .int .i64 0, .string ⟨#[]⟩] := heap_alloc_new w4 _
        have hrow := rows_of_block (enc := encIt) (k := 7) encIt_len R9 (l := [wpc 0 (x - f) (x - f)]) rfl
        have HB9 := hW2.trans (x9.mono hW2.size)
        have hbs := HB9.size
        refine step_appK (enc := encIt) ST encIt_len (by omega) rfl (.tmp 7) (.tmp 15) rfl (base := fb + 2) (v := .slice A3 d.length c3) (n := d.length) (xs := kfl encIt d) (by simp [Act.eval]) (own_below H3.out HB9) (some ⟨w4.heap.size, 0, none⟩) 1 1 [wpc 0 (x - f) (x - f)] (by simp [Act.eval]) hrow ⟨Nat.le_refl _, fun h => by cases h⟩ rfl (kfl_one' encIt_one _) (by simp only [maxLen]; omega) (by omega) (by omega) ?_
        intro v5 w5 hown5 hg5 hor5
        have T5 := (OnT.of (ts := [3, 77, 120]) HB9).trans (OnT.grown (ts := [3, 77, 120]) (own_below H3.out HB9) hg5 (by simp))
        obtain ⟨g5, cap5, rfl⟩ := own_slice hown5 (by omega)
        have HB5 : Below (fb + 2) W w5 := ((HB9.mono (by omega)).grown hg5 (by omega) (fun j hj => (hlt4 j hj).1))
        have Rf := RawAt.below H1.out HB5 (by omega)
        have Rr := RawAt.below H2.out HB5 (by omega)
        have fr := RawAt.free Rr 0
        have cr : w5.cell? ⟨fb + 1, 0, none⟩ = some (.slice A3 d.length c3) := RawAt.cell Rr 0
        refine hK.out _ _ (by first | (with_reducible exact MK.out _ Rf) | exact MK.out _ (RawAt.below Rf ((Below.refl _ _).alloc (Nat.le_refl _) _) Rf.lt) | exact MK.out _ (RawAt.set_other Rf (by omega) 0 _)) (fun hHeld => ?_)
        clear hK K
        go_simp
        refine wpAnyH_ready (rs := [10]) (by kernel_rfl) (by simp) ?_
        refine AllReadyH.cons rfl (fun K hK => ?_) ?_
        rotate_left
        · exact AllReadyH.nil
        go_simp
        go_wp2_with (first | (go_at_call 88; (with_reducible refine (CP.out _).mono ?_); rintro e w4 ⟨rfl, b4⟩; have Rf := RawAt.below Rf b4 Rf.lt; have Rr := RawAt.below Rr b4 Rr.lt; have hW2 := hW2.trans (b4.mono hW2.size); have c2 : w4.cell? ⟨fb + 1, 0, none⟩ = some (.slice A3 d.length c3) := RawAt.cell Rr 0; have c4 : (w4.alloc (.cells #[.int .i64 0, .int .i64 0, .int .i64 (x - f), .int .i64 (x - f), .int .i64 0, .int .i64 0, .string ⟨#[]⟩] 120)).cell? ⟨fb + 1, 0, none⟩ = some (.slice A3 d.length c3) := RawAt.cell (RawAt.below Rr ((Below.refl _ _).alloc (Nat.le_refl _) _) Rr.lt) 0))
        refine hK.out _ _ (by first | (with_reducible exact MK.out _ Rf) | exact MK.out _ (RawAt.below Rf ((Below.refl _ _).alloc (Nat.le_refl _) _) Rf.lt) | exact MK.out _ (RawAt.set_other Rf (by omega) 0 _)) (fun hHeld => ?_)
        clear hK K
        go_simp
        refine wpAnyH_done (by kernel_rfl) ?_ _
        refine NoPanic.normal ?_
        have HB6 : Below fb W ((w5.setCell ⟨fb + 1, 0, none⟩ (.slice (some ⟨g5, 0, none⟩) (d.length + 1) cap5)).setCell ⟨fb, 0, none⟩ (.int .i64 x)) := ((HB5.mono (show fb ≤ fb + 2 by omega)).setCell (p := ⟨fb + 1, 0, none⟩) (by simp) _).setCell (p := ⟨fb, 0, none⟩) (Nat.le_refl _) _
        have f0 := RawAt.free (RawAt.set_other Rf (show fb ≠ fb + 1 by omega) 0 (.slice (some ⟨g5, 0, none⟩) (d.length + 1) cap5)) 0
        have S0 : RawAt 3 ((w5.setCell ⟨fb + 1, 0, none⟩ (.slice (some ⟨g5, 0, none⟩) (d.length + 1) cap5)).setCell ⟨fb, 0, none⟩ (.int .i64 x)) fb #[.int .i64 x] := ((RawAt.set_other Rf (show fb ≠ fb + 1 by omega) 0 (.slice (some ⟨g5, 0, none⟩) (d.length + 1) cap5)).set_ 0 _).of_eq (by simp)
        have S1 : RawAt 77 ((w5.setCell ⟨fb + 1, 0, none⟩ (.slice (some ⟨g5, 0, none⟩) (d.length + 1) cap5)).setCell ⟨fb, 0, none⟩ (.int .i64 x)) (fb + 1) #[.slice (some ⟨g5, 0, none⟩) (d.length + 1) cap5] := ((Rr.set_ 0 (.slice (some ⟨g5, 0, none⟩) (d.length + 1) cap5)).of_eq (by simp)).set_other (by omega) 0 _
        have S2 := own_set (own_set hown5 (show fb + 1 < fb + 2 by omega) 0 (.slice (some ⟨g5, 0, none⟩) (d.length + 1) cap5)) (show fb < fb + 2 by omega) 0 (.int .i64 x)
        have S3 : fb + 1 < ((w5.setCell ⟨fb + 1, 0, none⟩ (.slice (some ⟨g5, 0, none⟩) (d.length + 1) cap5)).setCell ⟨fb, 0, none⟩ (.int .i64 x)).heap.size := S1.lt
        have HU : Hid (UpAt fb x (d ++ wgap f x) ((w5.setCell ⟨fb + 1, 0, none⟩ (.slice (some ⟨g5, 0, none⟩) (d.length + 1) cap5)).setCell ⟨fb, 0, none⟩ (.int .i64 x))) := Lib.hid (by rw [HG.out]; refine ⟨S0, ⟨_, S1, ?_⟩, S3⟩; rw [kfl_append, List.length_append]; exact S2)
        have T6 := (T5.set Rr (by simp) 0 (.slice (some ⟨g5, 0, none⟩) (d.length + 1) cap5)).set (RawAt.set_other Rf (show fb ≠ fb + 1 by omega) 0 (.slice (some ⟨g5, 0, none⟩) (d.length + 1) cap5)) (by simp) 0 (.int .i64 x)
        clear T5 S0 S1 S2 S3 hown5 hg5 hor5 hrow R9 x9 HB9 hW2 MK H1 H2 H3
        go_wp2
        refine bodyPost_end (v := .tuple #[]) (by simp [results, Tryz.results87, go_sem]) rfl ⟨rfl, HU.out, HB6, T6⟩
  · have k1 : decide (f < x) = false := decide_eq_false g
    have HG : Hid (wgap f x = []) := Lib.hid (by unfold wgap; rw [if_neg g])
    have f0 := RawAt.free h1 0
    have R0 : RawAt 3 (W.setCell ⟨fb, 0, none⟩ (.int .i64 x)) fb #[.int .i64 x] := (h1.set_ 0 _).of_eq (by simp)
    have R1 : RawAt 77 (W.setCell ⟨fb, 0, none⟩ (.int .i64 x)) (fb + 1) #[v] := h2.set_other (by omega) 0 _
    have R2 := own_set h3 (show fb < fb + 2 by omega) 0 (.int .i64 x)
    have HU : Hid (UpAt fb x (d ++ wgap f x) (W.setCell ⟨fb, 0, none⟩ (.int .i64 x))) := Lib.hid (by rw [HG.out, List.append_nil]; exact ⟨R0, ⟨v, R1, R2⟩, by simpa using h4⟩)
    have T6 : OnT [3, 77, 120] W (W.setCell ⟨fb, 0, none⟩ (.int .i64 x)) := (OnT.refl _ W).set h1 (by simp) 0 _
    clear h1 h2 h3 R0 R1 R2
    go_enter Tryz.func87, Tryz.ntmps87
    go_wp2
    refine bodyPost_end (v := .tuple #[]) (by simp [results, Tryz.results87, go_sem]) rfl ⟨rfl, HU.out, (Below.refl _ _).setCell (p := ⟨fb, 0, none⟩) (Nat.le_refl _) _, T6⟩
set_option linter.unusedVariables false
theorem wvQ_take (f : Int) (l : List In) {j : Nat} (h : j < l.length) : wvQ f (l.take (j + 1)) = wvQ f (l.take j) ++ wgap (wlast f (l.take j)) l[j].pl ++ [wpc l[j].id 0 (wcnt l[j])] ∧ wlast f (l.take (j + 1)) = l[j].pl := by
  rw [List.take_succ_eq_append_getElem h]
  exact ⟨wvQ_snoc f _ _, wlast_snoc f _ _⟩
theorem wlast_bd (l : List In) (f : Int) (B : Int) (hf : -B ≤ f ∧ f ≤ B) (h : ∀ a ∈ l, -B ≤ a.pl ∧ a.pl ≤ B) : -B ≤ wlast f l ∧ wlast f l ≤ B := by
  induction l generalizing f with
  | nil => exact hf
  | cons a l ih => exact ih a.pl (h a (by simp)) (fun x hx => h x (List.mem_cons_of_mem _ hx))
theorem wrowsW {w : World} {A : Option Addr} {l : List In} (h : RowsAt encI 5 w A l) {j : Nat} (hj : j < l.length) : ∃ b off, A = some ⟨b, off, none⟩ ∧ b < w.heap.size ∧ w.cell? ⟨b, off + j * 5, none⟩ = some (.int .i64 l[j].id) ∧ w.cell? ⟨b, off + j * 5 + 1, none⟩ = some (.int .i64 l[j].pl) ∧ w.cell? ⟨b, off + j * 5 + 2, none⟩ = some (.int .i64 l[j].bi) ∧ w.cell? ⟨b, off + j * 5 + 3, none⟩ = some (.int .i64 l[j].ky) ∧ w.cell? ⟨b, off + j * 5 + 4, none⟩ = some (.string l[j].tx) := by
  obtain ⟨b, off, e, h1, hc⟩ := h.at1 hj
  exact ⟨b, off, e, h1, hc 0 (by omega), hc 1 (by omega), hc 2 (by omega), hc 3 (by omega), hc 4 (by omega)⟩
set_option maxHeartbeats 8000000 in
set_option maxRecDepth 100000 in
theorem wvPieces_any (A : Option Addr) (n c : Nat) (l : List In) (f t : Int) (w : World) (hA : RowsAt encI 5 w A l) (hl : l.length = n) (hn : n ≤ 100000) (hf : -4398046511104 ≤ f ∧ f ≤ 4398046511104) (ht : -4398046511104 ≤ t ∧ t ≤ 4398046511104) (hb : ∀ a ∈ l, (-4398046511104 ≤ a.pl ∧ a.pl ≤ 4398046511104) ∧ a.tx.size ≤ 100000000) :
    Calls Tryz.prog 55 #[.slice A n c, .int .i64 f, .int .i64 t] w fun e w' => ∃ v, e = .returned v ∧ w'.ownsRow w.heap.size 120 7 v (wvP f l t).length (kfl encIt (wvP f l t)) ∧ Below w.heap.size w w' := by
  have hmf : ∀ (fn : Fn) (first cap : Array Value) (w : World), (Instr.makeFunc fn first cap).run Tryz.prog w = .ok (.func fn first cap) w := fun _ _ _ _ => rfl
  have ST := it_slt
  have HA := Lib.hid hA
  have HL := Lib.hid hl
  have HBD := Lib.hid hb
  have HLAST := Lib.hid fun (j : Nat) => wlast_bd (l.take j) f 4398046511104 hf (fun a ha => (hb a (List.mem_of_mem_take ha)).1)
  have HLEN := Lib.hid fun (j : Nat) => wvQ_len (l.take j) f
  have R0 : RawAt 3 ((w.alloc (.cells #[.int .i64 f] 3)).alloc (.cells #[.slice none 0 0] 77)) w.heap.size #[.int .i64 f] := RawAt.below (heap_alloc_new w _) ((Below.refl _ _).alloc (Nat.le_refl _) _) (by simp)
  have R1 : RawAt 77 ((w.alloc (.cells #[.int .i64 f] 3)).alloc (.cells #[.slice none 0 0] 77)) (w.heap.size + 1) #[.slice none 0 0] := by
    have := heap_alloc_new (w.alloc (.cells #[.int .i64 f] 3)) (.cells #[.slice none 0 0] 77)
    simpa [RawAt] using this
  have x0 : Below w.heap.size w ((w.alloc (.cells #[.int .i64 f] 3)).alloc (.cells #[.slice none 0 0] 77)) := ((Below.refl _ _).alloc (Nat.le_refl _) _).alloc (by simp) _
  have HU0 : Hid (UpAt w.heap.size f [] ((w.alloc (.cells #[.int .i64 f] 3)).alloc (.cells #[.slice none 0 0] 77))) := Lib.hid ⟨R0, ⟨_, R1, World.ownsRow_nil _ _ _ _⟩, R1.lt⟩
  have X0 := Lib.hid x0
  clear R0 R1 x0 hA hl hb
  go_enter Tryz.func55, Tryz.ntmps55
  go_wp2_with fail
  go_loopg [14] n (fun g i wr => ∃ j : Nat, i = .int .i64 j ∧ j ≤ n ∧ n - j ≤ g ∧ Hid (Below w.heap.size w wr) ∧ Hid (UpAt w.heap.size (wlast f (l.take j)) (wvQ f (l.take j)) wr))
  case atStart => exact ⟨0, rfl, by omega, by omega, X0, HU0⟩
  case round =>
    clear HU0 X0
    obtain ⟨j, rfl, j1, j2, hb, hu⟩ := hrel
    by_cases hlt : j < n
    · have hjl : j < l.length := by rw [HL.out]; exact hlt
      obtain ⟨bA, off, rfl, hbA, d0, d1, d2, d3, d4⟩ := wrowsW (HA.out.below hb.out) hjl
      obtain ⟨hq1, hq2⟩ := wvQ_take f l hjl
      have HQ1 := Lib.hid hq1
      have HQ2 := Lib.hid hq2
      obtain ⟨hpb, htx⟩ := HBD.out _ (List.getElem_mem hjl)
      have hwb := HLAST.out j
      have hdl : (wvQ f (l.take (j + 1))).length ≤ 200000 := by
        have := HLEN.out (j + 1)
        rw [List.length_take] at this
        omega
      rw [hq1] at hdl
      clear hq1 hq2
      generalize l[j] = a at *
      generalize wlast f (l.take j) = q at *
      generalize wvQ f (l.take j) = d0l at *
      have hdl0 : d0l.length ≤ 1000000 := by simp only [List.length_append] at hdl; omega
      have x3 : Below wr.heap.size wr (wr.alloc (.cells #[.int .i64 a.id, .int .i64 a.pl, .int .i64 a.bi, .int .i64 a.ky, .string a.tx] 56)) := (Below.refl _ _).alloc (Nat.le_refl _) _
      have R3 : RawAt 56 (wr.alloc (.cells #[.int .i64 a.id, .int .i64 a.pl, .int .i64 a.bi, .int .i64 a.ky, .string a.tx] 56)) wr.heap.size #[.int .i64 a.id, .int .i64 a.pl, .int .i64 a.bi, .int .i64 a.ky, .string a.tx] := heap_alloc_new wr _
      have CU := Lib.hid (wvUp_any w.heap.size q a.pl d0l _ hdl0 hwb hpb (hu.out.keep x3))
      have HB3 := Lib.hid (hb.out.trans (x3.mono hb.out.size))
      have HR3 := Lib.hid R3
      have e1 : (wr.alloc (.cells #[.int .i64 a.id, .int .i64 a.pl, .int .i64 a.bi, .int .i64 a.ky, .string a.tx] 56)).cell? ⟨wr.heap.size, 1, none⟩ = some (.int .i64 a.pl) := RawAt.cell R3 1
      have HWC : Hid (wpc a.id 0 (wcnt a) = wpc a.id 0 ((dec a.tx).length : Int)) := Lib.hid rfl
      have CC := Lib.hid fun (W : World) => count_any a.tx W (by omega)
      have CP := Lib.hid fun (W : World) => wvPiece_any a.id 0 ((dec a.tx).length : Int) W
      have i1 : (0 : Int) ≤ j := by omega
      have i2 : (j : Int) < n := by omega
      clear hu x3 R3
      go_wp2_with fail
      with_reducible refine (CU.out).mono ?_
      rintro e w5 ⟨rfl, ⟨hf5, ⟨v, hr5, ho5⟩, h5⟩, b5, t5⟩
      have HB5 := Lib.hid (HB3.out.trans b5)
      have HX5 := Lib.hid (t5 _ _ _ (by decide) HR3.out)
      have HF5 := Lib.hid hf5
      have HE5 : Hid (wvQ f (l.take (j + 1)) = (d0l ++ wgap q a.pl) ++ [wpc a.id 0 ((dec a.tx).length : Int)]) := Lib.hid (by rw [HQ1.out, HWC.out])
      clear hf5 b5 t5 CU HR3 HB3 HQ1 HWC
      rw [List.length_append] at hdl
      generalize d0l ++ wgap q a.pl = D at *
      have H2 := Lib.hid hr5
      have H3 := Lib.hid ho5
      obtain ⟨A3, c3, rfl⟩ := own_formI ho5
      have hlt4 := ho5.lt
      have hxl := HX5.out.lt
      generalize wr.heap.size = bx at *
      generalize (dec a.tx).length = cn at *
      have hne : bx ≠ w.heap.size + 1 := fun e => by
        have h1 := HX5.out
        have h2 := H2.out
        rw [e] at h1
        unfold RawAt at h1 h2
        rw [h1] at h2
        injection h2 with h3
        injection h3 with _ h4
        exact absurd h4 (by decide)
      have c1 : w5.cell? ⟨w.heap.size + 1, 0, none⟩ = some (.slice A3 D.length c3) := RawAt.cell hr5 0
      have hll := hr5.lt
      clear hr5 ho5
      go_wp2_with fail
      have hW2 : Below w5.heap.size w5 w5.drew := (Below.refl _ _).drew
      have Rx : RawAt 56 w5.drew bx #[.int .i64 a.id, .int .i64 a.pl, .int .i64 a.bi, .int .i64 a.ky, .string a.tx] := HX5.out
      have Rr : RawAt 77 w5.drew (w.heap.size + 1) #[.slice A3 D.length c3] := H2.out
      have MK : Hid (∀ V : World, RawAt 56 V bx #[.int .i64 a.id, .int .i64 a.pl, .int .i64 a.bi, .int .i64 a.ky, .string a.tx] → (fun V : World => V.cell? ⟨bx, 0, none⟩ = some (.int .i64 a.id) ∧ V.cell? ⟨bx, 4, none⟩ = some (.string a.tx)) V) := Lib.hid fun V h1 => ⟨RawAt.cell h1 0, RawAt.cell h1 4⟩
      refine wp_region_noPanic ?_
      refine wp_region_held_drew (S := (fun V => V.cell? ⟨bx, 0, none⟩ = some (.int .i64 a.id) ∧ V.cell? ⟨bx, 4, none⟩ = some (.string a.tx))) (by kernel_rfl) (MK.out _ Rx) (fun hHeld => ?_)
      refine wpAnyH_take (i := 1) (v := ?_) rfl (by kernel_rfl) (by kernel_rfl) (by kernel_rfl) (fun _ _ _ h => h) (Or.inl ⟨by rfl, ?_⟩) hHeld ?_
      rotate_left
      · intro w hSw; (try dsimp only at hSw); go_simp; try with_reducible rfl
      go_simp
      refine wpAnyH_take (i := 2) (v := ?_) rfl (by kernel_rfl) (by kernel_rfl) (by kernel_rfl) (fun _ _ _ h => h) (Or.inl ⟨by rfl, ?_⟩) hHeld ?_
      rotate_left
      · intro w hSw; (try dsimp only at hSw); go_simp; try with_reducible rfl
      go_simp
      refine wpAnyH_take (i := 3) (v := ?_) rfl (by kernel_rfl) (by kernel_rfl) (by kernel_rfl) (fun _ _ _ h => h) (Or.inl ⟨by rfl, ?_⟩) hHeld ?_
      rotate_left
      · intro w hSw; (try dsimp only at hSw); go_simp; try with_reducible rfl
      go_simp
      refine wpAnyH_take (i := 4) (v := ?_) rfl (by kernel_rfl) (by kernel_rfl) (by kernel_rfl) (fun _ _ _ h => h) (Or.inl ⟨by rfl, ?_⟩) hHeld ?_
      rotate_left
      · intro w hSw; (try dsimp only at hSw); go_simp; try with_reducible rfl
      go_simp
      refine wpAnyH_ready (rs := [0, 5]) (by kernel_rfl) (by simp) ?_
      refine AllReadyH.cons rfl (fun K hK => ?_) (AllReadyH.cons rfl (fun K hK => ?_) AllReadyH.nil)
      · go_simp
        go_wp2_with (first | (go_at_call 79; (with_reducible refine (CC.out _).mono ?_); rintro e w6 ⟨rfl, b6⟩; have Rx := RawAt.below Rx b6 Rx.lt; have Rr := RawAt.below Rr b6 Rr.lt; have hW2 := hW2.trans (b6.mono hW2.size); have c2 : w6.cell? ⟨w.heap.size + 1, 0, none⟩ = some (.slice A3 D.length c3) := RawAt.cell Rr 0) | (go_at_call 88; (with_reducible refine (CP.out _).mono ?_); rintro e w7 ⟨rfl, b7⟩; have Rx := RawAt.below Rx b7 Rx.lt; have Rr := RawAt.below Rr b7 Rr.lt; have hW2 := hW2.trans (b7.mono hW2.size); have c3x : w7.cell? ⟨w.heap.size + 1, 0, none⟩ = some (.slice A3 D.length c3) := RawAt.cell Rr 0; have c4 : (w7.alloc (.cells #[.int .i64 0, .int .i64 a.id, .int .i64 0, .int .i64 cn, .int .i64 0, .int .i64 0, .string ⟨#[]⟩] 120)).cell? ⟨w.heap.size + 1, 0, none⟩ = some (.slice A3 D.length c3) := RawAt.cell (RawAt.below Rr ((Below.refl _ _).alloc (Nat.le_refl _) _) Rr.lt) 0))
        refine hK.out _ _ (by first | (with_reducible exact MK.out _ Rx) | exact MK.out _ (RawAt.below Rx ((Below.refl _ _).alloc (Nat.le_refl _) _) Rx.lt) | exact MK.out _ (RawAt.set_other Rx hne 0 _)) (fun hHeld => ?_)
        clear hK K
        go_simp
        refine wpAnyH_ready (rs := [5]) (by kernel_rfl) (by simp) ?_
        refine AllReadyH.cons rfl (fun K hK => ?_) ?_
        rotate_left
        · exact AllReadyH.nil
        go_simp
        go_wp2_with (first | (go_at_call 79; (with_reducible refine (CC.out _).mono ?_); rintro e w6 ⟨rfl, b6⟩; have Rx := RawAt.below Rx b6 Rx.lt; have Rr := RawAt.below Rr b6 Rr.lt; have hW2 := hW2.trans (b6.mono hW2.size); have c2 : w6.cell? ⟨w.heap.size + 1, 0, none⟩ = some (.slice A3 D.length c3) := RawAt.cell Rr 0) | (go_at_call 88; (with_reducible refine (CP.out _).mono ?_); rintro e w7 ⟨rfl, b7⟩; have Rx := RawAt.below Rx b7 Rx.lt; have Rr := RawAt.below Rr b7 Rr.lt; have hW2 := hW2.trans (b7.mono hW2.size); have c3x : w7.cell? ⟨w.heap.size + 1, 0, none⟩ = some (.slice A3 D.length c3) := RawAt.cell Rr 0; have c4 : (w7.alloc (.cells #[.int .i64 0, .int .i64 a.id, .int .i64 0, .int .i64 cn, .int .i64 0, .int .i64 0, .string ⟨#[]⟩] 120)).cell? ⟨w.heap.size + 1, 0, none⟩ = some (.slice A3 D.length c3) := RawAt.cell (RawAt.below Rr ((Below.refl _ _).alloc (Nat.le_refl _) _) Rr.lt) 0))
        refine hK.out _ _ (by first | (with_reducible exact MK.out _ Rx) | exact MK.out _ (RawAt.below Rx ((Below.refl _ _).alloc (Nat.le_refl _) _) Rx.lt) | exact MK.out _ (RawAt.set_other Rx hne 0 _)) (fun hHeld => ?_)
        clear hK K
        go_simp
        refine wpAnyH_ready (rs := [6]) (by kernel_rfl) (by simp) ?_
        refine AllReadyH.cons rfl (fun K hK => ?_) ?_
        rotate_left
        · exact AllReadyH.nil
        go_simp
        go_wp2_with (first | (go_at_call 79; (with_reducible refine (CC.out _).mono ?_); rintro e w6 ⟨rfl, b6⟩; have Rx := RawAt.below Rx b6 Rx.lt; have Rr := RawAt.below Rr b6 Rr.lt; have hW2 := hW2.trans (b6.mono hW2.size); have c2 : w6.cell? ⟨w.heap.size + 1, 0, none⟩ = some (.slice A3 D.length c3) := RawAt.cell Rr 0) | (go_at_call 88; (with_reducible refine (CP.out _).mono ?_); rintro e w7 ⟨rfl, b7⟩; have Rx := RawAt.below Rx b7 Rx.lt; have Rr := RawAt.below Rr b7 Rr.lt; have hW2 := hW2.trans (b7.mono hW2.size); have c3x : w7.cell? ⟨w.heap.size + 1, 0, none⟩ = some (.slice A3 D.length c3) := RawAt.cell Rr 0; have c4 : (w7.alloc (.cells #[.int .i64 0, .int .i64 a.id, .int .i64 0, .int .i64 cn, .int .i64 0, .int .i64 0, .string ⟨#[]⟩] 120)).cell? ⟨w.heap.size + 1, 0, none⟩ = some (.slice A3 D.length c3) := RawAt.cell (RawAt.below Rr ((Below.refl _ _).alloc (Nat.le_refl _) _) Rr.lt) 0))
        refine hK.out _ _ (by first | (with_reducible exact MK.out _ Rx) | exact MK.out _ (RawAt.below Rx ((Below.refl _ _).alloc (Nat.le_refl _) _) Rx.lt) | exact MK.out _ (RawAt.set_other Rx hne 0 _)) (fun hHeld => ?_)
        clear hK K
        go_simp
        refine wpAnyH_ready (rs := [7]) (by kernel_rfl) (by simp) ?_
        refine AllReadyH.cons rfl (fun K hK => ?_) ?_
        rotate_left
        · exact AllReadyH.nil
        go_simp
        go_wp2_with (first | (go_at_call 79; (with_reducible refine (CC.out _).mono ?_); rintro e w6 ⟨rfl, b6⟩; have Rx := RawAt.below Rx b6 Rx.lt; have Rr := RawAt.below Rr b6 Rr.lt; have hW2 := hW2.trans (b6.mono hW2.size); have c2 : w6.cell? ⟨w.heap.size + 1, 0, none⟩ = some (.slice A3 D.length c3) := RawAt.cell Rr 0) | (go_at_call 88; (with_reducible refine (CP.out _).mono ?_); rintro e w7 ⟨rfl, b7⟩; have Rx := RawAt.below Rx b7 Rx.lt; have Rr := RawAt.below Rr b7 Rr.lt; have hW2 := hW2.trans (b7.mono hW2.size); have c3x : w7.cell? ⟨w.heap.size + 1, 0, none⟩ = some (.slice A3 D.length c3) := RawAt.cell Rr 0; have c4 : (w7.alloc (.cells #[.int .i64 0, .int .i64 a.id, .int .i64 0, .int .i64 cn, .int .i64 0, .int .i64 0, .string ⟨#[]⟩] 120)).cell? ⟨w.heap.size + 1, 0, none⟩ = some (.slice A3 D.length c3) := RawAt.cell (RawAt.below Rr ((Below.refl _ _).alloc (Nat.le_refl _) _) Rr.lt) 0))
        refine hK.out _ _ (by first | (with_reducible exact MK.out _ Rx) | exact MK.out _ (RawAt.below Rx ((Below.refl _ _).alloc (Nat.le_refl _) _) Rx.lt) | exact MK.out _ (RawAt.set_other Rx hne 0 _)) (fun hHeld => ?_)
        clear hK K
        go_simp
        refine wpAnyH_ready (rs := [8]) (by kernel_rfl) (by simp) ?_
        refine AllReadyH.cons rfl (fun K hK => ?_) ?_
        rotate_left
        · exact AllReadyH.nil
        have x9 : Below w7.heap.size w7 (w7.alloc (.cells #[.int .i64 0, .int .i64 a.id, .int .i64 0, .int .i64 cn, .int .i64 0, .int .i64 0, .string ⟨#[]⟩] 120)) := (Below.refl _ _).alloc (Nat.le_refl _) _
        have R9 : RawAt 120 (w7.alloc (.cells #[.int .i64 0, .int .i64 a.id, .int .i64 0, .int .i64 cn, .int .i64 0, .int .i64 0, .string ⟨#[]⟩] 120)) w7.heap.size #[.int .i64 0, .int .i64 a.id, .int .i64 0, .int .i64 cn, .int .i64 0, .int .i64 0, .string ⟨#[]⟩] := heap_alloc_new w7 _
        have hrow := rows_of_block (enc := encIt) (k := 7) encIt_len R9 (l := [wpc a.id 0 cn]) rfl
        have HB9 := hW2.trans (x9.mono hW2.size)
        have hbs := HB9.size
        have Rx9 := RawAt.below Rx x9 Rx.lt
        refine step_appK (enc := encIt) ST encIt_len (by omega) rfl (.tmp 22) (.tmp 29) rfl (base := w.heap.size + 2) (v := .slice A3 D.length c3) (n := D.length) (xs := kfl encIt D) (by simp [Act.eval]) (own_below H3.out HB9) (some ⟨w7.heap.size, 0, none⟩) 1 1 [wpc a.id 0 cn] (by simp [Act.eval]) hrow ⟨Nat.le_refl _, fun h => by cases h⟩ rfl (kfl_one' encIt_one _) (by simp only [maxLen]; omega) (by omega) (by omega) ?_
        intro v8 w8 hown8 hg8 hor8
        have T8 := OnT.grown (ts := [120]) (own_below H3.out HB9) hg8 (by simp)
        obtain ⟨g8, cap8, rfl⟩ := own_slice hown8 (by omega)
        have HB8 : Below (w.heap.size + 2) w5 w8 := ((HB9.mono (by omega)).grown hg8 (by omega) (fun j hj => (hlt4 j hj).1))
        have Rx : RawAt 56 w8 bx #[.int .i64 a.id, .int .i64 a.pl, .int .i64 a.bi, .int .i64 a.ky, .string a.tx] := T8 _ _ _ (by decide) Rx9
        have Rf := RawAt.below HF5.out HB8 (by omega)
        have Rr := RawAt.below H2.out HB8 (by omega)
        have fr := RawAt.free Rr 0
        have cr : w8.cell? ⟨w.heap.size + 1, 0, none⟩ = some (.slice A3 D.length c3) := RawAt.cell Rr 0
        refine hK.out _ _ (by first | (with_reducible exact MK.out _ Rx) | exact MK.out _ (RawAt.below Rx ((Below.refl _ _).alloc (Nat.le_refl _) _) Rx.lt) | exact MK.out _ (RawAt.set_other Rx hne 0 _)) (fun hHeld => ?_)
        clear hK K
        go_simp
        refine wpAnyH_ready (rs := [9]) (by kernel_rfl) (by simp) ?_
        refine AllReadyH.cons rfl (fun K hK => ?_) ?_
        rotate_left
        · exact AllReadyH.nil
        go_simp
        go_wp2_with (first | (go_at_call 79; (with_reducible refine (CC.out _).mono ?_); rintro e w6 ⟨rfl, b6⟩; have Rx := RawAt.below Rx b6 Rx.lt; have Rr := RawAt.below Rr b6 Rr.lt; have hW2 := hW2.trans (b6.mono hW2.size); have c2 : w6.cell? ⟨w.heap.size + 1, 0, none⟩ = some (.slice A3 D.length c3) := RawAt.cell Rr 0) | (go_at_call 88; (with_reducible refine (CP.out _).mono ?_); rintro e w7 ⟨rfl, b7⟩; have Rx := RawAt.below Rx b7 Rx.lt; have Rr := RawAt.below Rr b7 Rr.lt; have hW2 := hW2.trans (b7.mono hW2.size); have c3x : w7.cell? ⟨w.heap.size + 1, 0, none⟩ = some (.slice A3 D.length c3) := RawAt.cell Rr 0; have c4 : (w7.alloc (.cells #[.int .i64 0, .int .i64 a.id, .int .i64 0, .int .i64 cn, .int .i64 0, .int .i64 0, .string ⟨#[]⟩] 120)).cell? ⟨w.heap.size + 1, 0, none⟩ = some (.slice A3 D.length c3) := RawAt.cell (RawAt.below Rr ((Below.refl _ _).alloc (Nat.le_refl _) _) Rr.lt) 0))
        refine hK.out _ _ (by first | (with_reducible exact MK.out _ Rx) | exact MK.out _ (RawAt.below Rx ((Below.refl _ _).alloc (Nat.le_refl _) _) Rx.lt) | exact MK.out _ (RawAt.set_other Rx hne 0 _)) (fun hHeld => ?_)
        clear hK K
        go_simp
        refine wpAnyH_done (by kernel_rfl) ?_ _
        refine NoPanic.normal ?_
        have HB10 : Hid (Below w.heap.size w (w8.setCell ⟨w.heap.size + 1, 0, none⟩ (.slice (some ⟨g8, 0, none⟩) (D.length + 1) cap8))) := Lib.hid ((HB5.out.trans (HB8.mono (show w.heap.size ≤ w.heap.size + 2 by omega))).setCell (p := ⟨w.heap.size + 1, 0, none⟩) (by simp) _)
        have S0 := RawAt.set_other Rf (show w.heap.size ≠ w.heap.size + 1 by omega) 0 (.slice (some ⟨g8, 0, none⟩) (D.length + 1) cap8)
        have S1 : RawAt 77 (w8.setCell ⟨w.heap.size + 1, 0, none⟩ (.slice (some ⟨g8, 0, none⟩) (D.length + 1) cap8)) (w.heap.size + 1) #[.slice (some ⟨g8, 0, none⟩) (D.length + 1) cap8] := (Rr.set_ 0 _).of_eq (by simp)
        have S2 := own_set hown8 (show w.heap.size + 1 < w.heap.size + 2 by omega) 0 (.slice (some ⟨g8, 0, none⟩) (D.length + 1) cap8)
        have HU : Hid (UpAt w.heap.size (wlast f (l.take (j + 1))) (wvQ f (l.take (j + 1))) (w8.setCell ⟨w.heap.size + 1, 0, none⟩ (.slice (some ⟨g8, 0, none⟩) (D.length + 1) cap8))) := Lib.hid (by rw [HE5.out, HQ2.out]; refine ⟨S0, ⟨_, S1, ?_⟩, S1.lt⟩; rw [kfl_append, List.length_append]; exact S2)
        clear S0 S1 S2 hown8 hg8 hor8 hrow R9 x9 HB9 hW2 MK H2 H3 Rf Rr Rx Rx9 T8 HB8 HB5 HX5 HF5 HE5 HQ2
        go_wp2
        go_roundg (gk - 1)
        case measure => omega
        case rel => exact ⟨j + 1, by go_num, by omega, by omega, HB10, HU⟩
      · go_simp
        go_wp2_with (first | (go_at_call 79; (with_reducible refine (CC.out _).mono ?_); rintro e w6 ⟨rfl, b6⟩; have Rx := RawAt.below Rx b6 Rx.lt; have Rr := RawAt.below Rr b6 Rr.lt; have hW2 := hW2.trans (b6.mono hW2.size); have c2 : w6.cell? ⟨w.heap.size + 1, 0, none⟩ = some (.slice A3 D.length c3) := RawAt.cell Rr 0) | (go_at_call 88; (with_reducible refine (CP.out _).mono ?_); rintro e w7 ⟨rfl, b7⟩; have Rx := RawAt.below Rx b7 Rx.lt; have Rr := RawAt.below Rr b7 Rr.lt; have hW2 := hW2.trans (b7.mono hW2.size); have c3x : w7.cell? ⟨w.heap.size + 1, 0, none⟩ = some (.slice A3 D.length c3) := RawAt.cell Rr 0; have c4 : (w7.alloc (.cells #[.int .i64 0, .int .i64 a.id, .int .i64 0, .int .i64 cn, .int .i64 0, .int .i64 0, .string ⟨#[]⟩] 120)).cell? ⟨w.heap.size + 1, 0, none⟩ = some (.slice A3 D.length c3) := RawAt.cell (RawAt.below Rr ((Below.refl _ _).alloc (Nat.le_refl _) _) Rr.lt) 0))
        refine hK.out _ _ (by first | (with_reducible exact MK.out _ Rx) | exact MK.out _ (RawAt.below Rx ((Below.refl _ _).alloc (Nat.le_refl _) _) Rx.lt) | exact MK.out _ (RawAt.set_other Rx hne 0 _)) (fun hHeld => ?_)
        clear hK K
        go_simp
        refine wpAnyH_ready (rs := [0, 6]) (by kernel_rfl) (by simp) ?_
        refine AllReadyH.cons rfl (fun K hK => ?_) (AllReadyH.cons rfl (fun K hK => ?_) AllReadyH.nil)
        · go_simp
          go_wp2_with (first | (go_at_call 79; (with_reducible refine (CC.out _).mono ?_); rintro e w6 ⟨rfl, b6⟩; have Rx := RawAt.below Rx b6 Rx.lt; have Rr := RawAt.below Rr b6 Rr.lt; have hW2 := hW2.trans (b6.mono hW2.size); have c2 : w6.cell? ⟨w.heap.size + 1, 0, none⟩ = some (.slice A3 D.length c3) := RawAt.cell Rr 0) | (go_at_call 88; (with_reducible refine (CP.out _).mono ?_); rintro e w7 ⟨rfl, b7⟩; have Rx := RawAt.below Rx b7 Rx.lt; have Rr := RawAt.below Rr b7 Rr.lt; have hW2 := hW2.trans (b7.mono hW2.size); have c3x : w7.cell? ⟨w.heap.size + 1, 0, none⟩ = some (.slice A3 D.length c3) := RawAt.cell Rr 0; have c4 : (w7.alloc (.cells #[.int .i64 0, .int .i64 a.id, .int .i64 0, .int .i64 cn, .int .i64 0, .int .i64 0, .string ⟨#[]⟩] 120)).cell? ⟨w.heap.size + 1, 0, none⟩ = some (.slice A3 D.length c3) := RawAt.cell (RawAt.below Rr ((Below.refl _ _).alloc (Nat.le_refl _) _) Rr.lt) 0))
          refine hK.out _ _ (by first | (with_reducible exact MK.out _ Rx) | exact MK.out _ (RawAt.below Rx ((Below.refl _ _).alloc (Nat.le_refl _) _) Rx.lt) | exact MK.out _ (RawAt.set_other Rx hne 0 _)) (fun hHeld => ?_)
          clear hK K
          go_simp
          refine wpAnyH_ready (rs := [6]) (by kernel_rfl) (by simp) ?_
          refine AllReadyH.cons rfl (fun K hK => ?_) ?_
          rotate_left
          · exact AllReadyH.nil
          go_simp
          go_wp2_with (first | (go_at_call 79; (with_reducible refine (CC.out _).mono ?_); rintro e w6 ⟨rfl, b6⟩; have Rx := RawAt.below Rx b6 Rx.lt; have Rr := RawAt.below Rr b6 Rr.lt; have hW2 := hW2.trans (b6.mono hW2.size); have c2 : w6.cell? ⟨w.heap.size + 1, 0, none⟩ = some (.slice A3 D.length c3) := RawAt.cell Rr 0) | (go_at_call 88; (with_reducible refine (CP.out _).mono ?_); rintro e w7 ⟨rfl, b7⟩; have Rx := RawAt.below Rx b7 Rx.lt; have Rr := RawAt.below Rr b7 Rr.lt; have hW2 := hW2.trans (b7.mono hW2.size); have c3x : w7.cell? ⟨w.heap.size + 1, 0, none⟩ = some (.slice A3 D.length c3) := RawAt.cell Rr 0; have c4 : (w7.alloc (.cells #[.int .i64 0, .int .i64 a.id, .int .i64 0, .int .i64 cn, .int .i64 0, .int .i64 0, .string ⟨#[]⟩] 120)).cell? ⟨w.heap.size + 1, 0, none⟩ = some (.slice A3 D.length c3) := RawAt.cell (RawAt.below Rr ((Below.refl _ _).alloc (Nat.le_refl _) _) Rr.lt) 0))
          refine hK.out _ _ (by first | (with_reducible exact MK.out _ Rx) | exact MK.out _ (RawAt.below Rx ((Below.refl _ _).alloc (Nat.le_refl _) _) Rx.lt) | exact MK.out _ (RawAt.set_other Rx hne 0 _)) (fun hHeld => ?_)
          clear hK K
          go_simp
          refine wpAnyH_ready (rs := [7]) (by kernel_rfl) (by simp) ?_
          refine AllReadyH.cons rfl (fun K hK => ?_) ?_
          rotate_left
          · exact AllReadyH.nil
          go_simp
          go_wp2_with (first | (go_at_call 79; (with_reducible refine (CC.out _).mono ?_); rintro e w6 ⟨rfl, b6⟩; have Rx := RawAt.below Rx b6 Rx.lt; have Rr := RawAt.below Rr b6 Rr.lt; have hW2 := hW2.trans (b6.mono hW2.size); have c2 : w6.cell? ⟨w.heap.size + 1, 0, none⟩ = some (.slice A3 D.length c3) := RawAt.cell Rr 0) | (go_at_call 88; (with_reducible refine (CP.out _).mono ?_); rintro e w7 ⟨rfl, b7⟩; have Rx := RawAt.below Rx b7 Rx.lt; have Rr := RawAt.below Rr b7 Rr.lt; have hW2 := hW2.trans (b7.mono hW2.size); have c3x : w7.cell? ⟨w.heap.size + 1, 0, none⟩ = some (.slice A3 D.length c3) := RawAt.cell Rr 0; have c4 : (w7.alloc (.cells #[.int .i64 0, .int .i64 a.id, .int .i64 0, .int .i64 cn, .int .i64 0, .int .i64 0, .string ⟨#[]⟩] 120)).cell? ⟨w.heap.size + 1, 0, none⟩ = some (.slice A3 D.length c3) := RawAt.cell (RawAt.below Rr ((Below.refl _ _).alloc (Nat.le_refl _) _) Rr.lt) 0))
          refine hK.out _ _ (by first | (with_reducible exact MK.out _ Rx) | exact MK.out _ (RawAt.below Rx ((Below.refl _ _).alloc (Nat.le_refl _) _) Rx.lt) | exact MK.out _ (RawAt.set_other Rx hne 0 _)) (fun hHeld => ?_)
          clear hK K
          go_simp
          refine wpAnyH_ready (rs := [8]) (by kernel_rfl) (by simp) ?_
          refine AllReadyH.cons rfl (fun K hK => ?_) ?_
          rotate_left
          · exact AllReadyH.nil
          have x9 : Below w7.heap.size w7 (w7.alloc (.cells #[.int .i64 0, .int .i64 a.id, .int .i64 0, .int .i64 cn, .int .i64 0, .int .i64 0, .string ⟨#[]⟩] 120)) := (Below.refl _ _).alloc (Nat.le_refl _) _
          have R9 : RawAt 120 (w7.alloc (.cells #[.int .i64 0, .int .i64 a.id, .int .i64 0, .int .i64 cn, .int .i64 0, .int .i64 0, .string ⟨#[]⟩] 120)) w7.heap.size #[.int .i64 0, .int .i64 a.id, .int .i64 0, .int .i64 cn, .int .i64 0, .int .i64 0, .string ⟨#[]⟩] := heap_alloc_new w7 _
          have hrow := rows_of_block (enc := encIt) (k := 7) encIt_len R9 (l := [wpc a.id 0 cn]) rfl
          have HB9 := hW2.trans (x9.mono hW2.size)
          have hbs := HB9.size
          have Rx9 := RawAt.below Rx x9 Rx.lt
          refine step_appK (enc := encIt) ST encIt_len (by omega) rfl (.tmp 22) (.tmp 29) rfl (base := w.heap.size + 2) (v := .slice A3 D.length c3) (n := D.length) (xs := kfl encIt D) (by simp [Act.eval]) (own_below H3.out HB9) (some ⟨w7.heap.size, 0, none⟩) 1 1 [wpc a.id 0 cn] (by simp [Act.eval]) hrow ⟨Nat.le_refl _, fun h => by cases h⟩ rfl (kfl_one' encIt_one _) (by simp only [maxLen]; omega) (by omega) (by omega) ?_
          intro v8 w8 hown8 hg8 hor8
          have T8 := OnT.grown (ts := [120]) (own_below H3.out HB9) hg8 (by simp)
          obtain ⟨g8, cap8, rfl⟩ := own_slice hown8 (by omega)
          have HB8 : Below (w.heap.size + 2) w5 w8 := ((HB9.mono (by omega)).grown hg8 (by omega) (fun j hj => (hlt4 j hj).1))
          have Rx : RawAt 56 w8 bx #[.int .i64 a.id, .int .i64 a.pl, .int .i64 a.bi, .int .i64 a.ky, .string a.tx] := T8 _ _ _ (by decide) Rx9
          have Rf := RawAt.below HF5.out HB8 (by omega)
          have Rr := RawAt.below H2.out HB8 (by omega)
          have fr := RawAt.free Rr 0
          have cr : w8.cell? ⟨w.heap.size + 1, 0, none⟩ = some (.slice A3 D.length c3) := RawAt.cell Rr 0
          refine hK.out _ _ (by first | (with_reducible exact MK.out _ Rx) | exact MK.out _ (RawAt.below Rx ((Below.refl _ _).alloc (Nat.le_refl _) _) Rx.lt) | exact MK.out _ (RawAt.set_other Rx hne 0 _)) (fun hHeld => ?_)
          clear hK K
          go_simp
          refine wpAnyH_ready (rs := [9]) (by kernel_rfl) (by simp) ?_
          refine AllReadyH.cons rfl (fun K hK => ?_) ?_
          rotate_left
          · exact AllReadyH.nil
          go_simp
          go_wp2_with (first | (go_at_call 79; (with_reducible refine (CC.out _).mono ?_); rintro e w6 ⟨rfl, b6⟩; have Rx := RawAt.below Rx b6 Rx.lt; have Rr := RawAt.below Rr b6 Rr.lt; have hW2 := hW2.trans (b6.mono hW2.size); have c2 : w6.cell? ⟨w.heap.size + 1, 0, none⟩ = some (.slice A3 D.length c3) := RawAt.cell Rr 0) | (go_at_call 88; (with_reducible refine (CP.out _).mono ?_); rintro e w7 ⟨rfl, b7⟩; have Rx := RawAt.below Rx b7 Rx.lt; have Rr := RawAt.below Rr b7 Rr.lt; have hW2 := hW2.trans (b7.mono hW2.size); have c3x : w7.cell? ⟨w.heap.size + 1, 0, none⟩ = some (.slice A3 D.length c3) := RawAt.cell Rr 0; have c4 : (w7.alloc (.cells #[.int .i64 0, .int .i64 a.id, .int .i64 0, .int .i64 cn, .int .i64 0, .int .i64 0, .string ⟨#[]⟩] 120)).cell? ⟨w.heap.size + 1, 0, none⟩ = some (.slice A3 D.length c3) := RawAt.cell (RawAt.below Rr ((Below.refl _ _).alloc (Nat.le_refl _) _) Rr.lt) 0))
          refine hK.out _ _ (by first | (with_reducible exact MK.out _ Rx) | exact MK.out _ (RawAt.below Rx ((Below.refl _ _).alloc (Nat.le_refl _) _) Rx.lt) | exact MK.out _ (RawAt.set_other Rx hne 0 _)) (fun hHeld => ?_)
          clear hK K
          go_simp
          refine wpAnyH_done (by kernel_rfl) ?_ _
          refine NoPanic.normal ?_
          have HB10 : Hid (Below w.heap.size w (w8.setCell ⟨w.heap.size + 1, 0, none⟩ (.slice (some ⟨g8, 0, none⟩) (D.length + 1) cap8))) := Lib.hid ((HB5.out.trans (HB8.mono (show w.heap.size ≤ w.heap.size + 2 by omega))).setCell (p := ⟨w.heap.size + 1, 0, none⟩) (by simp) _)
          have S0 := RawAt.set_other Rf (show w.heap.size ≠ w.heap.size + 1 by omega) 0 (.slice (some ⟨g8, 0, none⟩) (D.length + 1) cap8)
          have S1 : RawAt 77 (w8.setCell ⟨w.heap.size + 1, 0, none⟩ (.slice (some ⟨g8, 0, none⟩) (D.length + 1) cap8)) (w.heap.size + 1) #[.slice (some ⟨g8, 0, none⟩) (D.length + 1) cap8] := (Rr.set_ 0 _).of_eq (by simp)
          have S2 := own_set hown8 (show w.heap.size + 1 < w.heap.size + 2 by omega) 0 (.slice (some ⟨g8, 0, none⟩) (D.length + 1) cap8)
          have HU : Hid (UpAt w.heap.size (wlast f (l.take (j + 1))) (wvQ f (l.take (j + 1))) (w8.setCell ⟨w.heap.size + 1, 0, none⟩ (.slice (some ⟨g8, 0, none⟩) (D.length + 1) cap8))) := Lib.hid (by rw [HE5.out, HQ2.out]; refine ⟨S0, ⟨_, S1, ?_⟩, S1.lt⟩; rw [kfl_append, List.length_append]; exact S2)
          clear S0 S1 S2 hown8 hg8 hor8 hrow R9 x9 HB9 hW2 MK H2 H3 Rf Rr Rx Rx9 T8 HB8 HB5 HX5 HF5 HE5 HQ2
          go_wp2
          go_roundg (gk - 1)
          case measure => omega
          case rel => exact ⟨j + 1, by go_num, by omega, by omega, HB10, HU⟩
        · go_simp
          go_wp2_with (first | (go_at_call 79; (with_reducible refine (CC.out _).mono ?_); rintro e w6 ⟨rfl, b6⟩; have Rx := RawAt.below Rx b6 Rx.lt; have Rr := RawAt.below Rr b6 Rr.lt; have hW2 := hW2.trans (b6.mono hW2.size); have c2 : w6.cell? ⟨w.heap.size + 1, 0, none⟩ = some (.slice A3 D.length c3) := RawAt.cell Rr 0) | (go_at_call 88; (with_reducible refine (CP.out _).mono ?_); rintro e w7 ⟨rfl, b7⟩; have Rx := RawAt.below Rx b7 Rx.lt; have Rr := RawAt.below Rr b7 Rr.lt; have hW2 := hW2.trans (b7.mono hW2.size); have c3x : w7.cell? ⟨w.heap.size + 1, 0, none⟩ = some (.slice A3 D.length c3) := RawAt.cell Rr 0; have c4 : (w7.alloc (.cells #[.int .i64 0, .int .i64 a.id, .int .i64 0, .int .i64 cn, .int .i64 0, .int .i64 0, .string ⟨#[]⟩] 120)).cell? ⟨w.heap.size + 1, 0, none⟩ = some (.slice A3 D.length c3) := RawAt.cell (RawAt.below Rr ((Below.refl _ _).alloc (Nat.le_refl _) _) Rr.lt) 0))
          refine hK.out _ _ (by first | (with_reducible exact MK.out _ Rx) | exact MK.out _ (RawAt.below Rx ((Below.refl _ _).alloc (Nat.le_refl _) _) Rx.lt) | exact MK.out _ (RawAt.set_other Rx hne 0 _)) (fun hHeld => ?_)
          clear hK K
          go_simp
          refine wpAnyH_ready (rs := [0, 7]) (by kernel_rfl) (by simp) ?_
          refine AllReadyH.cons rfl (fun K hK => ?_) (AllReadyH.cons rfl (fun K hK => ?_) AllReadyH.nil)
          · go_simp
            go_wp2_with (first | (go_at_call 79; (with_reducible refine (CC.out _).mono ?_); rintro e w6 ⟨rfl, b6⟩; have Rx := RawAt.below Rx b6 Rx.lt; have Rr := RawAt.below Rr b6 Rr.lt; have hW2 := hW2.trans (b6.mono hW2.size); have c2 : w6.cell? ⟨w.heap.size + 1, 0, none⟩ = some (.slice A3 D.length c3) := RawAt.cell Rr 0) | (go_at_call 88; (with_reducible refine (CP.out _).mono ?_); rintro e w7 ⟨rfl, b7⟩; have Rx := RawAt.below Rx b7 Rx.lt; have Rr := RawAt.below Rr b7 Rr.lt; have hW2 := hW2.trans (b7.mono hW2.size); have c3x : w7.cell? ⟨w.heap.size + 1, 0, none⟩ = some (.slice A3 D.length c3) := RawAt.cell Rr 0; have c4 : (w7.alloc (.cells #[.int .i64 0, .int .i64 a.id, .int .i64 0, .int .i64 cn, .int .i64 0, .int .i64 0, .string ⟨#[]⟩] 120)).cell? ⟨w.heap.size + 1, 0, none⟩ = some (.slice A3 D.length c3) := RawAt.cell (RawAt.below Rr ((Below.refl _ _).alloc (Nat.le_refl _) _) Rr.lt) 0))
            refine hK.out _ _ (by first | (with_reducible exact MK.out _ Rx) | exact MK.out _ (RawAt.below Rx ((Below.refl _ _).alloc (Nat.le_refl _) _) Rx.lt) | exact MK.out _ (RawAt.set_other Rx hne 0 _)) (fun hHeld => ?_)
            clear hK K
            go_simp
            refine wpAnyH_ready (rs := [7]) (by kernel_rfl) (by simp) ?_
            refine AllReadyH.cons rfl (fun K hK => ?_) ?_
            rotate_left
            · exact AllReadyH.nil
            go_simp
            go_wp2_with (first | (go_at_call 79; (with_reducible refine (CC.out _).mono ?_); rintro e w6 ⟨rfl, b6⟩; have Rx := RawAt.below Rx b6 Rx.lt; have Rr := RawAt.below Rr b6 Rr.lt; have hW2 := hW2.trans (b6.mono hW2.size); have c2 : w6.cell? ⟨w.heap.size + 1, 0, none⟩ = some (.slice A3 D.length c3) := RawAt.cell Rr 0) | (go_at_call 88; (with_reducible refine (CP.out _).mono ?_); rintro e w7 ⟨rfl, b7⟩; have Rx := RawAt.below Rx b7 Rx.lt; have Rr := RawAt.below Rr b7 Rr.lt; have hW2 := hW2.trans (b7.mono hW2.size); have c3x : w7.cell? ⟨w.heap.size + 1, 0, none⟩ = some (.slice A3 D.length c3) := RawAt.cell Rr 0; have c4 : (w7.alloc (.cells #[.int .i64 0, .int .i64 a.id, .int .i64 0, .int .i64 cn, .int .i64 0, .int .i64 0, .string ⟨#[]⟩] 120)).cell? ⟨w.heap.size + 1, 0, none⟩ = some (.slice A3 D.length c3) := RawAt.cell (RawAt.below Rr ((Below.refl _ _).alloc (Nat.le_refl _) _) Rr.lt) 0))
            refine hK.out _ _ (by first | (with_reducible exact MK.out _ Rx) | exact MK.out _ (RawAt.below Rx ((Below.refl _ _).alloc (Nat.le_refl _) _) Rx.lt) | exact MK.out _ (RawAt.set_other Rx hne 0 _)) (fun hHeld => ?_)
            clear hK K
            go_simp
            refine wpAnyH_ready (rs := [8]) (by kernel_rfl) (by simp) ?_
            refine AllReadyH.cons rfl (fun K hK => ?_) ?_
            rotate_left
            · exact AllReadyH.nil
            have x9 : Below w7.heap.size w7 (w7.alloc (.cells #[.int .i64 0, .int .i64 a.id, .int .i64 0, .int .i64 cn, .int .i64 0, .int .i64 0, .string ⟨#[]⟩] 120)) := (Below.refl _ _).alloc (Nat.le_refl _) _
            have R9 : RawAt 120 (w7.alloc (.cells #[.int .i64 0, .int .i64 a.id, .int .i64 0, .int .i64 cn, .int .i64 0, .int .i64 0, .string ⟨#[]⟩] 120)) w7.heap.size #[.int .i64 0, .int .i64 a.id, .int .i64 0, .int .i64 cn, .int .i64 0, .int .i64 0, .string ⟨#[]⟩] := heap_alloc_new w7 _
            have hrow := rows_of_block (enc := encIt) (k := 7) encIt_len R9 (l := [wpc a.id 0 cn]) rfl
            have HB9 := hW2.trans (x9.mono hW2.size)
            have hbs := HB9.size
            have Rx9 := RawAt.below Rx x9 Rx.lt
            refine step_appK (enc := encIt) ST encIt_len (by omega) rfl (.tmp 22) (.tmp 29) rfl (base := w.heap.size + 2) (v := .slice A3 D.length c3) (n := D.length) (xs := kfl encIt D) (by simp [Act.eval]) (own_below H3.out HB9) (some ⟨w7.heap.size, 0, none⟩) 1 1 [wpc a.id 0 cn] (by simp [Act.eval]) hrow ⟨Nat.le_refl _, fun h => by cases h⟩ rfl (kfl_one' encIt_one _) (by simp only [maxLen]; omega) (by omega) (by omega) ?_
            intro v8 w8 hown8 hg8 hor8
            have T8 := OnT.grown (ts := [120]) (own_below H3.out HB9) hg8 (by simp)
            obtain ⟨g8, cap8, rfl⟩ := own_slice hown8 (by omega)
            have HB8 : Below (w.heap.size + 2) w5 w8 := ((HB9.mono (by omega)).grown hg8 (by omega) (fun j hj => (hlt4 j hj).1))
            have Rx : RawAt 56 w8 bx #[.int .i64 a.id, .int .i64 a.pl, .int .i64 a.bi, .int .i64 a.ky, .string a.tx] := T8 _ _ _ (by decide) Rx9
            have Rf := RawAt.below HF5.out HB8 (by omega)
            have Rr := RawAt.below H2.out HB8 (by omega)
            have fr := RawAt.free Rr 0
            have cr : w8.cell? ⟨w.heap.size + 1, 0, none⟩ = some (.slice A3 D.length c3) := RawAt.cell Rr 0
            refine hK.out _ _ (by first | (with_reducible exact MK.out _ Rx) | exact MK.out _ (RawAt.below Rx ((Below.refl _ _).alloc (Nat.le_refl _) _) Rx.lt) | exact MK.out _ (RawAt.set_other Rx hne 0 _)) (fun hHeld => ?_)
            clear hK K
            go_simp
            refine wpAnyH_ready (rs := [9]) (by kernel_rfl) (by simp) ?_
            refine AllReadyH.cons rfl (fun K hK => ?_) ?_
            rotate_left
            · exact AllReadyH.nil
            go_simp
            go_wp2_with (first | (go_at_call 79; (with_reducible refine (CC.out _).mono ?_); rintro e w6 ⟨rfl, b6⟩; have Rx := RawAt.below Rx b6 Rx.lt; have Rr := RawAt.below Rr b6 Rr.lt; have hW2 := hW2.trans (b6.mono hW2.size); have c2 : w6.cell? ⟨w.heap.size + 1, 0, none⟩ = some (.slice A3 D.length c3) := RawAt.cell Rr 0) | (go_at_call 88; (with_reducible refine (CP.out _).mono ?_); rintro e w7 ⟨rfl, b7⟩; have Rx := RawAt.below Rx b7 Rx.lt; have Rr := RawAt.below Rr b7 Rr.lt; have hW2 := hW2.trans (b7.mono hW2.size); have c3x : w7.cell? ⟨w.heap.size + 1, 0, none⟩ = some (.slice A3 D.length c3) := RawAt.cell Rr 0; have c4 : (w7.alloc (.cells #[.int .i64 0, .int .i64 a.id, .int .i64 0, .int .i64 cn, .int .i64 0, .int .i64 0, .string ⟨#[]⟩] 120)).cell? ⟨w.heap.size + 1, 0, none⟩ = some (.slice A3 D.length c3) := RawAt.cell (RawAt.below Rr ((Below.refl _ _).alloc (Nat.le_refl _) _) Rr.lt) 0))
            refine hK.out _ _ (by first | (with_reducible exact MK.out _ Rx) | exact MK.out _ (RawAt.below Rx ((Below.refl _ _).alloc (Nat.le_refl _) _) Rx.lt) | exact MK.out _ (RawAt.set_other Rx hne 0 _)) (fun hHeld => ?_)
            clear hK K
            go_simp
            refine wpAnyH_done (by kernel_rfl) ?_ _
            refine NoPanic.normal ?_
            have HB10 : Hid (Below w.heap.size w (w8.setCell ⟨w.heap.size + 1, 0, none⟩ (.slice (some ⟨g8, 0, none⟩) (D.length + 1) cap8))) := Lib.hid ((HB5.out.trans (HB8.mono (show w.heap.size ≤ w.heap.size + 2 by omega))).setCell (p := ⟨w.heap.size + 1, 0, none⟩) (by simp) _)
            have S0 := RawAt.set_other Rf (show w.heap.size ≠ w.heap.size + 1 by omega) 0 (.slice (some ⟨g8, 0, none⟩) (D.length + 1) cap8)
            have S1 : RawAt 77 (w8.setCell ⟨w.heap.size + 1, 0, none⟩ (.slice (some ⟨g8, 0, none⟩) (D.length + 1) cap8)) (w.heap.size + 1) #[.slice (some ⟨g8, 0, none⟩) (D.length + 1) cap8] := (Rr.set_ 0 _).of_eq (by simp)
            have S2 := own_set hown8 (show w.heap.size + 1 < w.heap.size + 2 by omega) 0 (.slice (some ⟨g8, 0, none⟩) (D.length + 1) cap8)
            have HU : Hid (UpAt w.heap.size (wlast f (l.take (j + 1))) (wvQ f (l.take (j + 1))) (w8.setCell ⟨w.heap.size + 1, 0, none⟩ (.slice (some ⟨g8, 0, none⟩) (D.length + 1) cap8))) := Lib.hid (by rw [HE5.out, HQ2.out]; refine ⟨S0, ⟨_, S1, ?_⟩, S1.lt⟩; rw [kfl_append, List.length_append]; exact S2)
            clear S0 S1 S2 hown8 hg8 hor8 hrow R9 x9 HB9 hW2 MK H2 H3 Rf Rr Rx Rx9 T8 HB8 HB5 HX5 HF5 HE5 HQ2
            go_wp2
            go_roundg (gk - 1)
            case measure => omega
            case rel => exact ⟨j + 1, by go_num, by omega, by omega, HB10, HU⟩
          · go_simp
            go_wp2_with (first | (go_at_call 79; (with_reducible refine (CC.out _).mono ?_); rintro e w6 ⟨rfl, b6⟩; have Rx := RawAt.below Rx b6 Rx.lt; have Rr := RawAt.below Rr b6 Rr.lt; have hW2 := hW2.trans (b6.mono hW2.size); have c2 : w6.cell? ⟨w.heap.size + 1, 0, none⟩ = some (.slice A3 D.length c3) := RawAt.cell Rr 0) | (go_at_call 88; (with_reducible refine (CP.out _).mono ?_); rintro e w7 ⟨rfl, b7⟩; have Rx := RawAt.below Rx b7 Rx.lt; have Rr := RawAt.below Rr b7 Rr.lt; have hW2 := hW2.trans (b7.mono hW2.size); have c3x : w7.cell? ⟨w.heap.size + 1, 0, none⟩ = some (.slice A3 D.length c3) := RawAt.cell Rr 0; have c4 : (w7.alloc (.cells #[.int .i64 0, .int .i64 a.id, .int .i64 0, .int .i64 cn, .int .i64 0, .int .i64 0, .string ⟨#[]⟩] 120)).cell? ⟨w.heap.size + 1, 0, none⟩ = some (.slice A3 D.length c3) := RawAt.cell (RawAt.below Rr ((Below.refl _ _).alloc (Nat.le_refl _) _) Rr.lt) 0))
            refine hK.out _ _ (by first | (with_reducible exact MK.out _ Rx) | exact MK.out _ (RawAt.below Rx ((Below.refl _ _).alloc (Nat.le_refl _) _) Rx.lt) | exact MK.out _ (RawAt.set_other Rx hne 0 _)) (fun hHeld => ?_)
            clear hK K
            go_simp
            refine wpAnyH_ready (rs := [0]) (by kernel_rfl) (by simp) ?_
            refine AllReadyH.cons rfl (fun K hK => ?_) ?_
            rotate_left
            · exact AllReadyH.nil
            go_simp
            go_wp2_with (first | (go_at_call 79; (with_reducible refine (CC.out _).mono ?_); rintro e w6 ⟨rfl, b6⟩; have Rx := RawAt.below Rx b6 Rx.lt; have Rr := RawAt.below Rr b6 Rr.lt; have hW2 := hW2.trans (b6.mono hW2.size); have c2 : w6.cell? ⟨w.heap.size + 1, 0, none⟩ = some (.slice A3 D.length c3) := RawAt.cell Rr 0) | (go_at_call 88; (with_reducible refine (CP.out _).mono ?_); rintro e w7 ⟨rfl, b7⟩; have Rx := RawAt.below Rx b7 Rx.lt; have Rr := RawAt.below Rr b7 Rr.lt; have hW2 := hW2.trans (b7.mono hW2.size); have c3x : w7.cell? ⟨w.heap.size + 1, 0, none⟩ = some (.slice A3 D.length c3) := RawAt.cell Rr 0; have c4 : (w7.alloc (.cells #[.int .i64 0, .int .i64 a.id, .int .i64 0, .int .i64 cn, .int .i64 0, .int .i64 0, .string ⟨#[]⟩] 120)).cell? ⟨w.heap.size + 1, 0, none⟩ = some (.slice A3 D.length c3) := RawAt.cell (RawAt.below Rr ((Below.refl _ _).alloc (Nat.le_refl _) _) Rr.lt) 0))
            refine hK.out _ _ (by first | (with_reducible exact MK.out _ Rx) | exact MK.out _ (RawAt.below Rx ((Below.refl _ _).alloc (Nat.le_refl _) _) Rx.lt) | exact MK.out _ (RawAt.set_other Rx hne 0 _)) (fun hHeld => ?_)
            clear hK K
            go_simp
            refine wpAnyH_ready (rs := [8]) (by kernel_rfl) (by simp) ?_
            refine AllReadyH.cons rfl (fun K hK => ?_) ?_
            rotate_left
            · exact AllReadyH.nil
            have x9 : Below w7.heap.size w7 (w7.alloc (.cells #[.int .i64 0, .int .i64 a.id, .int .i64 0, .int .i64 cn, .int .i64 0, .int .i64 0, .string ⟨#[]⟩] 120)) := (Below.refl _ _).alloc (Nat.le_refl _) _
            have R9 : RawAt 120 (w7.alloc (.cells #[.int .i64 0, .int .i64 a.id, .int .i64 0, .int .i64 cn, .int .i64 0, .int .i64 0, .string ⟨#[]⟩] 120)) w7.heap.size #[.int .i64 0, .int .i64 a.id, .int .i64 0, .int .i64 cn, .int .i64 0, .int .i64 0, .string ⟨#[]⟩] := heap_alloc_new w7 _
            have hrow := rows_of_block (enc := encIt) (k := 7) encIt_len R9 (l := [wpc a.id 0 cn]) rfl
            have HB9 := hW2.trans (x9.mono hW2.size)
            have hbs := HB9.size
            have Rx9 := RawAt.below Rx x9 Rx.lt
            refine step_appK (enc := encIt) ST encIt_len (by omega) rfl (.tmp 22) (.tmp 29) rfl (base := w.heap.size + 2) (v := .slice A3 D.length c3) (n := D.length) (xs := kfl encIt D) (by simp [Act.eval]) (own_below H3.out HB9) (some ⟨w7.heap.size, 0, none⟩) 1 1 [wpc a.id 0 cn] (by simp [Act.eval]) hrow ⟨Nat.le_refl _, fun h => by cases h⟩ rfl (kfl_one' encIt_one _) (by simp only [maxLen]; omega) (by omega) (by omega) ?_
            intro v8 w8 hown8 hg8 hor8
            have T8 := OnT.grown (ts := [120]) (own_below H3.out HB9) hg8 (by simp)
            obtain ⟨g8, cap8, rfl⟩ := own_slice hown8 (by omega)
            have HB8 : Below (w.heap.size + 2) w5 w8 := ((HB9.mono (by omega)).grown hg8 (by omega) (fun j hj => (hlt4 j hj).1))
            have Rx : RawAt 56 w8 bx #[.int .i64 a.id, .int .i64 a.pl, .int .i64 a.bi, .int .i64 a.ky, .string a.tx] := T8 _ _ _ (by decide) Rx9
            have Rf := RawAt.below HF5.out HB8 (by omega)
            have Rr := RawAt.below H2.out HB8 (by omega)
            have fr := RawAt.free Rr 0
            have cr : w8.cell? ⟨w.heap.size + 1, 0, none⟩ = some (.slice A3 D.length c3) := RawAt.cell Rr 0
            refine hK.out _ _ (by first | (with_reducible exact MK.out _ Rx) | exact MK.out _ (RawAt.below Rx ((Below.refl _ _).alloc (Nat.le_refl _) _) Rx.lt) | exact MK.out _ (RawAt.set_other Rx hne 0 _)) (fun hHeld => ?_)
            clear hK K
            go_simp
            refine wpAnyH_ready (rs := [9]) (by kernel_rfl) (by simp) ?_
            refine AllReadyH.cons rfl (fun K hK => ?_) ?_
            rotate_left
            · exact AllReadyH.nil
            go_simp
            go_wp2_with (first | (go_at_call 79; (with_reducible refine (CC.out _).mono ?_); rintro e w6 ⟨rfl, b6⟩; have Rx := RawAt.below Rx b6 Rx.lt; have Rr := RawAt.below Rr b6 Rr.lt; have hW2 := hW2.trans (b6.mono hW2.size); have c2 : w6.cell? ⟨w.heap.size + 1, 0, none⟩ = some (.slice A3 D.length c3) := RawAt.cell Rr 0) | (go_at_call 88; (with_reducible refine (CP.out _).mono ?_); rintro e w7 ⟨rfl, b7⟩; have Rx := RawAt.below Rx b7 Rx.lt; have Rr := RawAt.below Rr b7 Rr.lt; have hW2 := hW2.trans (b7.mono hW2.size); have c3x : w7.cell? ⟨w.heap.size + 1, 0, none⟩ = some (.slice A3 D.length c3) := RawAt.cell Rr 0; have c4 : (w7.alloc (.cells #[.int .i64 0, .int .i64 a.id, .int .i64 0, .int .i64 cn, .int .i64 0, .int .i64 0, .string ⟨#[]⟩] 120)).cell? ⟨w.heap.size + 1, 0, none⟩ = some (.slice A3 D.length c3) := RawAt.cell (RawAt.below Rr ((Below.refl _ _).alloc (Nat.le_refl _) _) Rr.lt) 0))
            refine hK.out _ _ (by first | (with_reducible exact MK.out _ Rx) | exact MK.out _ (RawAt.below Rx ((Below.refl _ _).alloc (Nat.le_refl _) _) Rx.lt) | exact MK.out _ (RawAt.set_other Rx hne 0 _)) (fun hHeld => ?_)
            clear hK K
            go_simp
            refine wpAnyH_done (by kernel_rfl) ?_ _
            refine NoPanic.normal ?_
            have HB10 : Hid (Below w.heap.size w (w8.setCell ⟨w.heap.size + 1, 0, none⟩ (.slice (some ⟨g8, 0, none⟩) (D.length + 1) cap8))) := Lib.hid ((HB5.out.trans (HB8.mono (show w.heap.size ≤ w.heap.size + 2 by omega))).setCell (p := ⟨w.heap.size + 1, 0, none⟩) (by simp) _)
            have S0 := RawAt.set_other Rf (show w.heap.size ≠ w.heap.size + 1 by omega) 0 (.slice (some ⟨g8, 0, none⟩) (D.length + 1) cap8)
            have S1 : RawAt 77 (w8.setCell ⟨w.heap.size + 1, 0, none⟩ (.slice (some ⟨g8, 0, none⟩) (D.length + 1) cap8)) (w.heap.size + 1) #[.slice (some ⟨g8, 0, none⟩) (D.length + 1) cap8] := (Rr.set_ 0 _).of_eq (by simp)
            have S2 := own_set hown8 (show w.heap.size + 1 < w.heap.size + 2 by omega) 0 (.slice (some ⟨g8, 0, none⟩) (D.length + 1) cap8)
            have HU : Hid (UpAt w.heap.size (wlast f (l.take (j + 1))) (wvQ f (l.take (j + 1))) (w8.setCell ⟨w.heap.size + 1, 0, none⟩ (.slice (some ⟨g8, 0, none⟩) (D.length + 1) cap8))) := Lib.hid (by rw [HE5.out, HQ2.out]; refine ⟨S0, ⟨_, S1, ?_⟩, S1.lt⟩; rw [kfl_append, List.length_append]; exact S2)
            clear S0 S1 S2 hown8 hg8 hor8 hrow R9 x9 HB9 hW2 MK H2 H3 Rf Rr Rx Rx9 T8 HB8 HB5 HX5 HF5 HE5 HQ2
            go_wp2
            go_roundg (gk - 1)
            case measure => omega
            case rel => exact ⟨j + 1, by go_num, by omega, by omega, HB10, HU⟩
    · obtain rfl : n = j := by omega
      have e2 : l.take n = l := List.take_of_length_le (by rw [HL.out]; exact Nat.le_refl _)
      have hwb := HLAST.out n
      have hln := HLEN.out n
      rw [e2] at hu hwb hln
      have CU := Lib.hid (wvUp_any w.heap.size (wlast f l) t (wvQ f l) wr (by have := HL.out; omega) hwb ht hu.out)
      have HB := Lib.hid hb.out
      clear hu hb e2
      go_wp2_with fail
      with_reducible refine (CU.out).mono ?_
      rintro e w5 ⟨rfl, ⟨hf5, ⟨v, hr5, ho5⟩, h5⟩, b5, t5⟩
      have HB5 := Lib.hid (HB.out.trans b5)
      have HO5 : Hid (w5.ownsRow w.heap.size 120 7 v (wvP f l t).length (kfl encIt (wvP f l t))) := Lib.hid (own_base ho5 (by omega))
      have c1 : w5.cell? ⟨w.heap.size + 1, 0, none⟩ = some v := RawAt.cell hr5 0
      obtain ⟨A3, c3, rfl⟩ := own_formI ho5
      clear hr5 ho5 hf5 b5 t5 CU
      generalize (wvQ f l ++ wgap (wlast f l) t).length = N at *
      go_wp2
      go_ret
      exact ⟨_, rfl, HO5.out, HB5.out⟩
end Go.Proofs.YtjkmkobnfhepaaaGreat
