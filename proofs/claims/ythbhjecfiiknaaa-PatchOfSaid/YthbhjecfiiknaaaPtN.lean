/- Patches: what two patches do: the contracts of keptByBoth, between, far, Compose. -/
import Derived.Test.YthbhjecfiiknaaaPtM
namespace Go.Proofs.Ythbhjecfiiknaaa
open Go.RowKit
set_option linter.unusedVariables false
theorem pcs_len (L : Int) : ∀ (p q : Int) (l : List Ch), (pcs L p q l).length ≤ l.length + 1
  | _, _, [] => Nat.le_refl _
  | p, q, c :: l => by
    have ih := pcs_len L c.ob c.nb l
    unfold pcs
    rw [List.length_append, List.length_cons]
    split <;> simp <;> omega
theorem pcs_pos (L : Int) : ∀ (p q : Int) (l : List Ch), 0 < (pcs L p q l).length
  | _, _, [] => Nat.zero_lt_one
  | p, q, c :: l => by
    have ih := pcs_pos L c.ob c.nb l
    unfold pcs
    rw [List.length_append]; omega
theorem pcs_n {M L : Int} (hM : M ≤ L) (hL : 1 ≤ L) : ∀ {p q : Int} {fi : Bool} {l : List Ch}, nrm M p q fi l → 0 ≤ p → ∀ x ∈ pcs L p q l, 1 ≤ x.n ∧ x.n ≤ L
  | p, q, _, [], _, _, x, hx => by
    unfold pcs at hx
    obtain rfl := List.mem_singleton.1 hx
    exact ⟨hL, Int.le_refl _⟩
  | p, q, _, c :: l, h, h0, x, hx => by
    obtain ⟨⟨g1, g2, g3, g4, g5, g6, g7⟩, hh⟩ := h
    unfold pcs at hx
    rcases List.mem_append.1 hx with hx | hx
    · split at hx
      · obtain rfl := List.mem_singleton.1 hx
        simp only
        omega
      · exact absurd hx List.not_mem_nil
    · exact pcs_n hM hL hh (by omega) x hx
theorem pcs_all {l : List Ch} (h : nrm M40 0 0 true l) : ∀ x ∈ pcs LL 0 0 l, 0 ≤ x.o ∧ x.o ≤ 4398046511104 ∧ 0 ≤ x.w ∧ x.w ≤ 4398046511104 ∧ 1 ≤ x.n ∧ x.n ≤ 4398046511104 := fun x hx => by
  have h1 := pcs_bd (L := LL) h (nrm_bd h) (by decide) (by decide) (Int.le_refl _) (Int.le_refl _) x hx
  have h2 := pcs_n (show M40 ≤ LL by decide) (by decide) h (Int.le_refl _) x hx
  unfold M40 at h1
  unfold LL at h2
  omega
theorem GAt.keep {w0 : World} {b : Nat} {d : List Pc} {W W' : World} (h : GAt w0 b d W) (hb0 : b < w0.heap.size) (hb : Below W.heap.size W W') : GAt w0 b d W' := by
  obtain ⟨⟨v, h1, h2⟩, h3, h4⟩ := h
  exact ⟨⟨v, h1.below hb h1.lt, own_below h2 hb⟩, h3.trans (OnT.of hb), h4.trans (hb.mono (by have := h4.size; omega))⟩
set_option maxHeartbeats 4000000 in
set_option maxRecDepth 100000 in
theorem kboth_any (A B : Option Addr) (ma ca mb cb : Nat) (a b : List Ch) (E : Nat) (ecaps : Array Value) (JJ : List Pc → World → Prop) (w : World)
    (hE : ∀ (args : Array Value) (w : World), (callFunc E args).run Try.prog w = .ok (.enter E args) w)
    (hla : a.length = ma) (hma : ma ≤ 100000) (hlb : b.length = mb) (hmb : mb ≤ 100000) (hna : nrm M40 0 0 true a) (hnb : nrm M40 0 0 true b)
    (hJ : ∀ em W W', JJ em W → OnT [79, 76] W W' → Below w.heap.size W W' → JJ em W')
    (CE : ∀ em x r W, em ++ x :: r = inter (pcs LL 0 0 a) (pcs LL 0 0 b) → JJ em W → Calls Try.prog E (#[.agg #[.int .i64 x.o, .int .i64 x.w, .int .i64 x.n]] ++ ecaps) W fun e w' => e = .returned (.tuple #[]) ∧ JJ (em ++ [x]) w' ∧ OnT [22, 56] W w')
    (hAB : ∀ em W, JJ em W → ChsAt W A a ∧ ChsAt W B b ∧ w.heap.size ≤ W.heap.size) (h0 : JJ [] w) :
    Calls Try.prog 39 #[.slice A ma ca, .slice B mb cb, .func (.func E) #[] ecaps] w fun e w' => e = .returned (.tuple #[]) ∧ JJ (inter (pcs LL 0 0 a) (pcs LL 0 0 b)) w' := by
  have hmf : ∀ (fn : Fn) (first cap : Array Value) (w : World), (Instr.makeFunc fn first cap).run Try.prog w = .ok (.func fn first cap) w := fun _ _ _ _ => rfl
  obtain ⟨hr0, hq0, hb0, hs0⟩ := new2 w 65 79 #[.func (.func E) #[] ecaps] #[.slice none 0 0]
  have CK1 := Lib.hid (kept_any 48 #[.pointer (some ⟨w.heap.size + 1, 0, none⟩)] B mb cb b (fun d W => GAt ((w.alloc (.cells #[.func (.func E) #[] ecaps] 65)).alloc (.cells #[.slice none 0 0] 79)) (w.heap.size + 1) d W ∧ JJ [] W ∧ RawAt 65 W w.heap.size #[.func (.func E) #[] ecaps])
    ((w.alloc (.cells #[.func (.func E) #[] ecaps] 65)).alloc (.cells #[.slice none 0 0] 79)) (by intro args w; rfl) hlb (by omega) hnb
    (fun d W h => (hAB _ _ h.2.1).2.1)
    (fun d W W' h hb => ⟨h.1.keep (by rw [hs0]; omega) hb, hJ _ _ _ h.2.1 (OnT.of hb) (hb.mono (hAB _ _ h.2.1).2.2), h.2.2.below hb h.2.2.lt⟩)
    (fun d x r W hd h => by
      have hl := congrArg List.length hd
      have hl2 := pcs_len LL 0 0 b
      rw [List.length_append, List.length_cons] at hl
      refine (gath_any _ _ (by rw [hs0]; omega) d x W (by omega) h.1).mono ?_
      rintro e w' ⟨rfl, h1, h2, h3⟩
      exact ⟨rfl, ⟨h1, hJ _ _ _ h.2.1 h2 (h3.mono (by omega)), h2 _ _ _ (by decide) h.2.2⟩, fun b cs hr => h2 _ _ _ (by decide) hr⟩)
    ⟨⟨⟨_, hq0, World.ownsRow_nil _ _ _ _⟩, OnT.of (Below.refl _ _), Below.refl _ _⟩, hJ _ _ _ h0 (OnT.of hb0) hb0, hr0⟩)
  have CK2 := Lib.hid fun (W : World) (g : Nat) (cur : Array Value) (hcur : cur.toList.take ((pcs LL 0 0 b).length * 3) = pflat (pcs LL 0 0 b)) (hS : SAt JJ (w.heap.size + 1) w.heap.size g cur E ecaps (pcs LL 0 0 b) 0 [] W) =>
    kept_any 49 #[.pointer (some ⟨w.heap.size + 1, 0, none⟩), .pointer (some ⟨w.heap.size, 0, none⟩)] A ma ca a (fun d W => ∃ k em, k ≤ (pcs LL 0 0 b).length ∧ SAt JJ (w.heap.size + 1) w.heap.size g cur E ecaps (pcs LL 0 0 b) k em W ∧ em ++ inter ((pcs LL 0 0 a).drop d.length) ((pcs LL 0 0 b).drop k) = inter (pcs LL 0 0 a) (pcs LL 0 0 b))
    W (by intro args w; rfl) hla (by omega) hna
    (fun d W h => by obtain ⟨k, em, _, h2, _⟩ := h; exact (hAB _ _ h2.jj).1)
    (fun d W W' h hb => by obtain ⟨k, em, h1, h2, h3⟩ := h; exact ⟨k, em, h1, h2.keep hJ (hAB _ _ h2.jj).2.2 hb, h3⟩)
    (fun d x r W hd h => by
      obtain ⟨k, em, h1, h2, h3⟩ := h
      have e1 : (pcs LL 0 0 a).drop d.length = x :: r := by rw [← hd, List.drop_left]
      rw [e1] at h3
      have hx : x ∈ pcs LL 0 0 a := by rw [← hd]; simp
      refine (pair_any JJ w.heap.size _ (pcs LL 0 0 b) E ecaps hE hJ CE (fun em W h => (hAB em W h).2.2) (w.heap.size + 1) w.heap.size g cur (by omega) hcur (pcs_all hnb) (by have := pcs_len LL 0 0 b; omega) x r (pcs_all hna x hx) k em W h1 h2 h3).mono ?_
      rintro e w' ⟨rfl, ⟨k', em', g1, g2, g3⟩, g4⟩
      refine ⟨rfl, ⟨k', em', g1, g2, ?_⟩, fun b cs hr => g4 _ _ _ (by decide) hr⟩
      have e2 : (pcs LL 0 0 a).drop (d ++ [x]).length = r := by rw [← hd, show d ++ x :: r = (d ++ [x]) ++ r from by simp, List.drop_left]
      rw [e2]; exact g3)
    ⟨0, [], Nat.zero_le _, hS, by simp⟩
  have HJ := Lib.hid hJ
  have hpos := Lib.hid (pcs_pos LL 0 0 b)
  clear hJ CE hAB h0 hna hnb hla hlb hr0 hq0 hb0 hs0
  go_enter Try.func39, Try.ntmps39
  go_wp2_with fail
  with_reducible refine CK1.out.mono ?_
  rintro e w3 ⟨rfl, h1, h2, h3⟩
  obtain ⟨⟨v, hR, hO⟩, hT, hB⟩ := h1
  obtain ⟨g, cap, cur, rfl, hg1, hg2, hg3, hg4, hg5, hg6⟩ := hO.2.resolve_left (fun h => by have := hpos.out; omega)
  have CK3 := Lib.hid (CK2.out w3 g cur hg6 ⟨h2, ⟨_, _, hR, fun _ => by simp, by omega⟩, hg2, h3⟩)
  clear hR hO hT hB h2 h3 CK1 CK2 hg1 hg2 hg3 hg4 hg5 hg6
  go_wp2_with fail
  with_reducible refine CK3.out.mono ?_
  rintro e w5 ⟨rfl, k, em, g1, g2, g3⟩
  rw [List.drop_length] at g3
  have g4 : inter [] ((pcs LL 0 0 b).drop k) = [] := by unfold inter; rfl
  rw [g4, List.append_nil] at g3
  have HJ5 := Lib.hid g2.jj
  rw [g3] at HJ5
  clear g1 g2 g3 g4 CK3
  go_wp2
  exact bodyPost_end (v := .tuple #[]) (by simp [results, Try.results39, go_sem]) rfl ⟨rfl, HJ5.out⟩
end Go.Proofs.Ythbhjecfiiknaaa
