/- A range over a function whose iterator writes memory of its own: who owns which blocks is told by a set ('S'): rounds write what they own and what is new, the iterator nothing of theirs. The law for the caller, and the contract's form. Rows that one owns, told by a set of blocks; append inside a fence. A drawn region in a round of a range over a function, walked as everywhere. -/
import Derived.Test.YtpnjokhhbjpciaaGreatDoorKpM
import Derived.Test.YtpnjokhhbjpciaaGreatDoorKRow
import Derived.Deep.RegionHeld3
namespace Go.Proofs.YtpnjokhhbjpciaaGreatDoor
open Go.RowKit Go.Shelf
set_option linter.unusedVariables false
abbrev Bk := Nat → Prop
/-- All that was there stays, but what is in S. -/
structure KeptS (S : Bk) (W W' : World) : Prop where
  zero : Below 0 W W'
  kept : ∀ k, k < W.heap.size → ¬ S k → W'.heap[k]? = W.heap[k]?
theorem KeptS.refl (S : Bk) (W : World) : KeptS S W W := ⟨Below.refl _ _, fun _ _ _ => rfl⟩
theorem KeptS.of_below {S : Bk} {W W' : World} (h : Below W.heap.size W W') : KeptS S W W' := ⟨h.mono (Nat.zero_le _), fun k hk _ => h.block k hk⟩
theorem KeptS.trans {S S' : Bk} {A B C : World} (h : KeptS S A B) (k : KeptS S' B C) (hs : ∀ k, S' k → S k ∨ A.heap.size ≤ k) : KeptS S A C := by
  refine ⟨h.zero.trans k.zero, fun i hi hn => ?_⟩
  refine (k.kept i (Nat.lt_of_lt_of_le hi h.zero.size) (fun h' => ?_)).trans (h.kept i hi hn)
  rcases hs i h' with g | g
  · exact hn g
  · omega
theorem KeptS.mono {S S' : Bk} {A B : World} (h : KeptS S A B) (hs : ∀ k, k < A.heap.size → S k → S' k) : KeptS S' A B := ⟨h.zero, fun k hk hn => h.kept k hk (fun g => hn (hs k hk g))⟩
theorem KeptS.below {S : Bk} {n : Nat} {A B : World} (h : KeptS S A B) (hs : ∀ k, S k → n ≤ k) (hn : n ≤ A.heap.size) : Below n A B :=
  ⟨h.zero.os, h.zero.tape, h.zero.output, h.zero.size, fun k hk => h.kept k (Nat.lt_of_lt_of_le hk hn) (fun g => by have := hs k g; omega)⟩
theorem KeptS.put {S : Bk} (W : World) (l : Nat) (o' : Obj) (hl : S l) : KeptS S W (W.putObj l o') :=
  ⟨⟨rfl, rfl, rfl, by simp, fun k hk => by omega⟩, fun k _ hn => World.putObj_heap_other (fun e => hn (e ▸ hl))⟩
theorem KeptS.set {S : Bk} (W : World) (a : Addr) (v : Value) (hl : S a.block) : KeptS S W (W.setCell a v) :=
  ⟨(Below.refl 0 W).setCell (p := a) (Nat.zero_le _) v, fun k _ hn => Below.heap_setCell _ _ _ _ (fun e => hn (e ▸ hl))⟩
theorem KeptS.grown {S : Bk} {W W' : World} {row : Option Nat} (h : W.grownBy W' row) (hr : ∀ k, row = some k → S k) : KeptS S W W' :=
  ⟨⟨h.os, h.tape, h.output, h.size, fun k hk => by omega⟩, fun k hk hn => h.block k hk (fun e => hn (hr k e.symm))⟩
/-- What lay below n stays, and S stays. -/
def SameS (n : Nat) (S : Bk) (W W' : World) : Prop := Below n W W' ∧ ∀ k, S k → W'.heap[k]? = W.heap[k]?
theorem SameS.refl (n : Nat) (S : Bk) (W : World) : SameS n S W W := ⟨Below.refl _ _, fun _ _ => rfl⟩
theorem SameS.mono {n : Nat} {S S' : Bk} {W W' : World} (h : SameS n S W W') (hs : ∀ k, S' k → S k) : SameS n S' W W' := ⟨h.1, fun k hk => h.2 k (hs k hk)⟩
theorem SameS.of_below {n : Nat} {S : Bk} {W W' : World} (h : Below W.heap.size W W') (hn : n ≤ W.heap.size) (hs : ∀ k, S k → k < W.heap.size) : SameS n S W W' := ⟨h.mono hn, fun k hk => h.block k (hs k hk)⟩
theorem SameS.of_kept {n : Nat} {S S' : Bk} {W W' : World} (h : KeptS S' W W') (hn : n ≤ W.heap.size) (hs : ∀ k, S k → k < W.heap.size) (h1 : ∀ k, S' k → n ≤ k) (h2 : ∀ k, S k → ¬ S' k) : SameS n S W W' :=
  ⟨h.below h1 hn, fun k hk => h.kept k (hs k hk) (h2 k hk)⟩
theorem SameS.put {n : Nat} {S : Bk} (W : World) (l : Nat) (o' : Obj) (hn : n ≤ l) (hl : ¬ S l) : SameS n S W (W.putObj l o') :=
  ⟨⟨rfl, rfl, rfl, by simp, fun k hk => World.putObj_heap_other (by omega)⟩, fun k hk => World.putObj_heap_other (fun e => hl (e ▸ hk))⟩
/-- What one knows of memory that one owns stays where that stays. -/
def AbS {β : Type} (n : Nat) (J : Bk → β → World → Prop) : Prop := ∀ S s A B, J S s A → SameS n S A B → J S s B
def LtS {β : Type} (J : Bk → β → World → Prop) : Prop := ∀ S s A, J S s A → ∀ k, S k → k < A.heap.size
theorem AbS.below {β : Type} {n : Nat} {J : Bk → β → World → Prop} (h : AbS n J) (hl : LtS J) {S : Bk} {s : β} {A B : World} (hj : J S s A) (hb : Below A.heap.size A B) (hn : n ≤ A.heap.size) : J S s B :=
  h S s A B hj (SameS.of_below hb hn (hl S s A hj))
/-- The contract of an iterator. -/
def SeqSep {α : Type} (F : Fence) (n : Nat) (P : Program) (g : Nat) (lb : Array Value) (encs : α → Array Value) (Hd : Bk → α → World → Prop) (n₀ : Nat) (T : Bk) (Sd Sp : List α → Prop) (N : Nat) (w : World) : Prop :=
  ∀ (l : Nat) (J Jx : Bk → List α → World → Prop) (S0 : Bk) (W : World), Below w.heap.size w W → AbS n₀ J → AbS n₀ Jx → LtS J →
    (∀ S pre x H V, J S pre V → pre.length < N → Hd H x V → (∀ k, H k → ¬ S k ∧ k < V.heap.size ∧ n₀ ≤ k) → YieldAt F (n - 1) P l (encs x) V fun e V' =>
      (e = .returned (.bool true) ∧ KeptS S V V' ∧ ∃ S', (∀ k, S' k → S k ∨ H k ∨ V.heap.size ≤ k) ∧ J S' (pre ++ [x]) V') ∨
      (e = .returned (.bool false) ∧ KeptS S V V' ∧ ∃ S', (∀ k, S' k → S k ∨ H k ∨ V.heap.size ≤ k) ∧ Jx S' (pre ++ [x]) V')) →
    J S0 [] W → (∀ k, S0 k → n₀ ≤ k ∧ ¬ T k) → CallsIn F n P g (#[.func (.yield l) #[] #[]] ++ lb) W fun e W' => (∃ v, e = .returned v) ∧ ∃ S', (∀ k, S' k → n₀ ≤ k) ∧ ((∃ xs, Sd xs ∧ J S' xs W') ∨ (∃ pre, Sp pre ∧ Jx S' pre W'))
/-- How the body of a round may be left. -/
def postSep {α : Type} (I : Bk → List α → World → Prop) (Ix : Code → Bk → List α → World → Prop) (S H : Bk) (xs : List α) (W : World) : Exit → Act → World → Prop
  | .normal, _, W' => KeptS S W W' ∧ ∃ S', (∀ k, S' k → S k ∨ H k ∨ W.heap.size ≤ k) ∧ I S' xs W'
  | .ret, _, W' => KeptS S W W' ∧ ∃ S', (∀ k, S' k → S k ∨ H k ∨ W.heap.size ≤ k) ∧ Ix .ret S' xs W'
  | .exit id, _, W' => KeptS S W W' ∧ ∃ S', (∀ k, S' k → S k ∨ H k ∨ W.heap.size ≤ k) ∧ Ix (.exit id) S' xs W'
  | .goto t, _, W' => KeptS S W W' ∧ ∃ S', (∀ k, S' k → S k ∨ H k ∨ W.heap.size ≤ k) ∧ Ix (.goto t) S' xs W'
  | .panic _, _, _ => False
  | .outgrown, _, _ => False
section
variable {F : Fence} {n : Nat} {P : Program}
/-- The loop's record, and the block of the rounds' deferred calls, as they stand between rounds. -/
def RecS (l d : Nat) (r : Loop) (W : World) : Prop := W.heap[l]? = some (.loop r) ∧ W.heap[d]? = some (.deferred (some []))
theorem RecS.same {l d : Nat} {r : Loop} {A B : World} (h : RecS l d r A) (h1 : B.heap[l]? = A.heap[l]?) (h2 : B.heap[d]? = A.heap[d]?) : RecS l d r B := ⟨h1.trans h.1, h2.trans h.2⟩
theorem RecS.ended {l d : Nat} {r : Loop} {W : World} (h : RecS l d r W) (hne : l ≠ d) (r' : Loop) : RecS l d r' (W.putObj l (.loop r')) :=
  ⟨World.putObj_heap_same (Array.getElem?_eq_some_iff.1 h.1).1, (World.putObj_heap_other (fun e => hne e.symm)).trans h.2⟩
/-- The law for the caller. -/
theorem wpIn_rangeFunc_sep {α : Type} {g : Operand} {ps : Array Tmp} {assign body : Code} {Q : Exit → Act → World → Prop} {a : Act} {w : World}
    (hro : F.round = none) (h1 : 1 ≤ n) {gf : Nat} {lb : Array Value} (hg : a.eval g = .func (.func gf) #[] lb) (hFg : F.fn gf) (eg : ∀ args w, (callFunc gf args).run P w = .ok (.enter gf args) w)
    {encs : α → Array Value} {Hd : Bk → α → World → Prop} {n₀ : Nat} {T : Bk} {Sd Sp : List α → Prop} {N : Nat} (hseq : SeqSep F (n - 1) P gf lb encs Hd n₀ T Sd Sp N w)
    (hHd : AbS n₀ Hd) (hn0 : n₀ ≤ w.heap.size) (hT : ∀ k, T k → k < w.heap.size)  (hps : ∀ x, (encs x).size = ps.size)
    (I : Bk → List α → World → Prop) (Ix : Code → Bk → List α → World → Prop) (hI : AbS n₀ I) (hIl : LtS I) (hIx : ∀ c, AbS n₀ (Ix c)) (S0 : Bk) (hS0 : ∀ k, S0 k → n₀ ≤ k ∧ ¬ T k) (h0 : I S0 [] w) (Ax : Nat → α → Act → World → Prop)
    (hAx : ∀ b x a' W W', Ax b x a' W → (∀ (k : Nat) (o : Obj), W.heap[k]? = some o → o.isCells = true → W'.heap[k]? = some o) → Ax b x a' W')
    (hassign : ∀ (l : Nat) (x : α) (W : World) (K : Act → World → Prop), (∀ a' W', Below W.heap.size W W' → Ax W.heap.size x a' W' → K a' W') →
      assign.wpIn (F.inRound l) (n - 1 - 1) P (Exit.then K (fun _ _ _ => False)) { tmps := (ps.zip (encs x)).foldl (fun t (p, v) => t.setIfInBounds p v) a.tmps, defers := [] } W)
    (hbody : ∀ (l : Nat) (S : Bk) (pre : List α) (x : α) (H : Bk) (b : Nat) (a' : Act) (W : World), n₀ ≤ b → b ≤ W.heap.size → I S pre W → pre.length < N → Hd H x W → (∀ k, S k → k < b ∧ n₀ ≤ k) → (∀ k, H k → ¬ S k ∧ k < b ∧ n₀ ≤ k) → Ax b x a' W → body.wpIn (F.inRound l) (n - 1 - 1) P (postSep I Ix S H (pre ++ [x]) W) a' W)
    (hdone : ∀ (D : Nat) (S : Bk) (xs : List α) (W : World), w.heap.size ≤ D → ¬ S D → Sd xs → I S xs W → W.heap[D]? = some (.deferred (some [])) → Q .normal { a with defers := { target := .collected D, args := #[] } :: a.defers } W)
    (hstop : ∀ (D : Nat) (c : Code) (S : Bk) (pre : List α) (W : World), w.heap.size ≤ D → ¬ S D → Sp pre → Ix c S pre W → W.heap[D]? = some (.deferred (some [])) → c.wpIn F n P Q { a with defers := { target := .collected D, args := #[] } :: a.defers } W) :
    (Code.rangeFunc g ps assign body).wpIn F n P Q a w := by
  refine wpIn_rangeFunc fun fn hfn => ?_
  rw [hro]
  let rc : LoopState → Option Code → Loop := fun st pe => { state := st, pending := pe, fn := fn, tmps := a.tmps, params := ps, assign := assign, body := body, defers := w.heap.size }
  obtain ⟨L, hL⟩ : ∃ L, L = w.heap.size + 1 := ⟨_, rfl⟩
  obtain ⟨D, hD⟩ : ∃ D, D = w.heap.size := ⟨_, rfl⟩
  have hne : L ≠ D := by omega
  obtain ⟨W1, hW1⟩ : ∃ W1, W1 = (w.alloc (.deferred (some []))).alloc (.loop (rc .ready none)) := ⟨_, rfl⟩
  have hs1 : W1.heap.size = w.heap.size + 2 := by rw [hW1]; simp
  have hb1 : Below w.heap.size w W1 := by rw [hW1]; exact ((Below.refl _ w).alloc (Nat.le_refl _) _).alloc (by simp) _
  have hrec1 : RecS L D (rc .ready none) W1 := by
    constructor
    · rw [hW1, hL]
      have := World.alloc_heap_new (w.alloc (.deferred (some []))) (.loop (rc .ready none))
      rwa [World.size_alloc] at this
    · rw [hW1, hD]
      exact (Below.heap_alloc _ _ _ (by simp)).trans (World.alloc_heap_new w _)
  have hl0 := hIl S0 [] w h0
  have hI1 : I S0 [] W1 := hI.below hIl h0 hb1 hn0
  refine ⟨L, [{ target := .collected w.heap.size, args := #[] }], W1, { target := .fn (.func gf) lb, args := #[.func (.yield L) #[] #[]] }, W1, gf, #[.func (.yield L) #[] #[]] ++ lb, W1, ?_, ?_, ?_, ?_, fun _ => h1, ?_⟩
  · rw [hW1, hL]; exact run_enterLoop_outer _ _ _ _ _
  · simp only [resolve, hg]; simp [go_sem]
  · intro f' hf'; simp [Target.leads] at hf'; subst hf'; exact hFg
  · simp [invoke, go_sem, eg]
  refine (hseq L (fun S pre W => ∃ S1, I S1 pre W ∧ RecS L D (rc .ready none) W ∧ (∀ k, S k ↔ (S1 k ∨ k = L ∨ k = D)) ∧ ¬ S1 L ∧ ¬ S1 D ∧ (∀ k, S1 k → n₀ ≤ k))
    (fun S pre W => ∃ S1 c, Ix c S1 pre W ∧ RecS L D (rc .done (some c)) W ∧ (∀ k, S k ↔ (S1 k ∨ k = L ∨ k = D)) ∧ ¬ S1 L ∧ ¬ S1 D ∧ (∀ k, S1 k → n₀ ≤ k)) (fun k => S0 k ∨ k = L ∨ k = D) W1 hb1 ?_ ?_ ?_ ?_ ⟨S0, hI1, hrec1, fun k => Iff.rfl, fun h => by have := hl0 _ h; omega, fun h => by have := hl0 _ h; omega, fun k hk => (hS0 k hk).1⟩ ?_).mono ?_
  · rintro S s A B ⟨S1, i1, r1, q1, q2, q3, q4⟩ hs
    exact ⟨S1, hI S1 s A B i1 (hs.mono fun k hk => (q1 k).2 (.inl hk)), r1.same (hs.2 L ((q1 L).2 (.inr (.inl rfl)))) (hs.2 D ((q1 D).2 (.inr (.inr rfl)))), q1, q2, q3, q4⟩
  · rintro S s A B ⟨S1, c, i1, r1, q1, q2, q3, q4⟩ hs
    exact ⟨S1, c, hIx c S1 s A B i1 (hs.mono fun k hk => (q1 k).2 (.inl hk)), r1.same (hs.2 L ((q1 L).2 (.inr (.inl rfl)))) (hs.2 D ((q1 D).2 (.inr (.inr rfl)))), q1, q2, q3, q4⟩
  · rintro S s A ⟨S1, i1, r1, q1, q2, q3, q4⟩ k hk
    rcases (q1 k).1 hk with h | rfl | rfl
    · exact hIl S1 s A i1 k h
    · exact (Array.getElem?_eq_some_iff.1 r1.1).1
    · exact (Array.getElem?_eq_some_iff.1 r1.2).1
  · rintro S pre x H V ⟨S1, hi, hrV, q1, q2, q3, q4⟩ hlen hd hH
    have hLV := (Array.getElem?_eq_some_iff.1 hrV.1).1
    have hDV := (Array.getElem?_eq_some_iff.1 hrV.2).1
    have hy := run_yield (P := P) (args := encs x) hrV.1 (hps x)
    have hHL : ¬ H L := fun h => (hH L h).1 ((q1 L).2 (.inr (.inl rfl)))
    have hHD : ¬ H D := fun h => (hH D h).1 ((q1 D).2 (.inr (.inr rfl)))
    have hnV : n₀ ≤ V.heap.size := by omega
    have hSl := hIl S1 pre V hi
    refine ⟨fn, _, assign, body, hy, roundIn_of_wpIn hfn (hassign _ x V _ ?_)⟩
    intro a' Va hba hax
    have hrA : RecS L D (rc .ready none) Va := hrV.same (hba.block L hLV) (hba.block D hDV)
    refine ⟨_, run_beginRound hrA.1 rfl, ?_⟩
    obtain ⟨V1, hV1⟩ : ∃ V1, V1 = Va.putObj L (.loop { rc .ready none with state := .busy }) := ⟨_, rfl⟩
    have hbusy : RecS L D { rc .ready none with state := .busy } V1 := by rw [hV1]; exact hrA.ended hne _
    have hsz : V.heap.size ≤ V1.heap.size := by rw [hV1]; have := hba.size; simpa using this
    have hk01 : KeptS S V V1 := by rw [hV1]; exact (KeptS.of_below hba).trans (KeptS.put (S := S) _ _ _ ((q1 L).2 (.inr (.inl rfl)))) (fun k h => .inl h)
    have hiA : I S1 pre Va := hI.below hIl hi hba hnV
    have hi1 : I S1 pre V1 := by rw [hV1]; exact hI S1 pre Va _ hiA (SameS.put _ _ _ (by omega) q2)
    have hdA : Hd H x Va := hHd H x V _ hd (SameS.of_below hba hnV (fun k hk => (hH k hk).2.1))
    have hd1 : Hd H x V1 := by rw [hV1]; exact hHd H x Va _ hdA (SameS.put _ _ _ (by omega) hHL)
    have hax1 : Ax V.heap.size x a' V1 := by
      rw [hV1]
      refine hAx _ _ _ Va _ hax (fun k o hk ho => (World.putObj_heap_other (fun e => ?_)).trans hk)
      rw [e, hrA.1] at hk
      cases hk
      cases ho
    rw [← hV1]
    have hn1 : ∀ k, S1 k → n₀ ≤ k := fun k hk => q4 k hk
    refine wpIn_mono (hbody _ S1 pre x H V.heap.size a' V1 hnV hsz hi1 hlen hd1 (fun k hk => ⟨hSl k hk, hn1 k hk⟩) (fun k hk => ⟨fun h => (hH k hk).1 ((q1 k).2 (.inl h)), (hH k hk).2.1, (hH k hk).2.2⟩) hax1) ?_
    have stays : ∀ {V3 : World}, KeptS S1 V1 V3 → RecS L D { rc .ready none with state := .busy } V3 := fun hk => hbusy.same (hk.kept L (by omega) q2) (hk.kept D (by omega) q3)
    have back : ∀ {V3 : World} (r : Loop), KeptS S1 V1 V3 → KeptS S V (V3.putObj L (.loop r)) := fun {V3} r hk =>
      (hk01.trans hk (fun k h => .inl ((q1 k).2 (.inl h)))).trans (KeptS.put (S := fun k => k = L) _ _ _ rfl) (fun k h => .inl ((q1 k).2 (.inr (.inl h))))
    have sets : ∀ {S' : Bk}, (∀ k, S' k → S1 k ∨ H k ∨ V1.heap.size ≤ k) → ¬ S' L ∧ ¬ S' D ∧ (∀ k, (S' k ∨ k = L ∨ k = D) → S k ∨ H k ∨ V.heap.size ≤ k) ∧ ∀ k, S' k → n₀ ≤ k := fun {S'} hs => by
      refine ⟨fun h => ?_, fun h => ?_, fun k h => ?_, fun k h => ?_⟩
      · rcases hs L h with g | g | g
        · exact q2 g
        · exact hHL g
        · omega
      · rcases hs D h with g | g | g
        · exact q3 g
        · exact hHD g
        · omega
      · rcases h with h | h
        · rcases hs k h with g | g | g
          · exact .inl ((q1 k).2 (.inl g))
          · exact .inr (.inl g)
          · exact .inr (.inr (by omega))
        · exact .inl ((q1 k).2 (.inr h))
      · rcases hs k h with g | g | g
        · exact q4 k g
        · exact (hH k g).2.2
        · omega
    rintro e a3 V3 hp
    have leave : ∀ (c : Code), (KeptS S1 V1 V3 ∧ ∃ S' : Bk, (∀ k, S' k → S1 k ∨ H k ∨ V1.heap.size ≤ k) ∧ Ix c S' (pre ++ [x]) V3) → KeptS S V (V3.putObj L (.loop (rc .done (some c)))) ∧ ∃ S' : Bk, (∀ k, S' k → S k ∨ H k ∨ V.heap.size ≤ k) ∧ ∃ S1 c', Ix c' S1 (pre ++ [x]) (V3.putObj L (.loop (rc .done (some c)))) ∧ RecS L D (rc .done (some c')) (V3.putObj L (.loop (rc .done (some c)))) ∧ (∀ k, S' k ↔ (S1 k ∨ k = L ∨ k = D)) ∧ ¬ S1 L ∧ ¬ S1 D ∧ (∀ k, S1 k → n₀ ≤ k) := by
      rintro c ⟨hk3, S', hs', hi3⟩
      obtain ⟨g1, g2, g3, g4⟩ := sets hs'
      have hk4 := back (rc .done (some c)) hk3
      have hi4 := hIx c S' _ V3 (V3.putObj L (.loop (rc .done (some c)))) hi3 (SameS.put _ _ _ (by omega) g1)
      have hr4 := (stays hk3).ended hne (rc .done (some c))
      exact ⟨hk4, fun k => S' k ∨ k = L ∨ k = D, g3, S', c, hi4, hr4, fun k => Iff.rfl, g1, g2, g4⟩
    cases e with
    | normal =>
      obtain ⟨hk3, S', hs', hi3⟩ := hp
      have hr3 := stays hk3
      obtain ⟨g1, g2, g3, g4⟩ := sets hs'
      exact ⟨_, _, run_endRound none hr3.1, .inl ⟨rfl, back _ hk3, fun k => S' k ∨ k = L ∨ k = D, g3, S', hI S' _ V3 _ hi3 (SameS.put _ _ _ (by omega) g1), hr3.ended hne _, fun k => Iff.rfl, g1, g2, g4⟩⟩
    | ret => exact ⟨_, _, run_endRound (some .ret) (stays hp.1).1, .inr ⟨rfl, leave .ret hp⟩⟩
    | exit id => exact ⟨_, _, run_endRound (some (.exit id)) (stays hp.1).1, .inr ⟨rfl, leave (.exit id) hp⟩⟩
    | goto t => exact ⟨_, _, run_endRound (some (.goto t)) (stays hp.1).1, .inr ⟨rfl, leave (.goto t) hp⟩⟩
    | panic ch => exact hp.elim
    | outgrown => exact hp.elim
  · rintro k (h | rfl | rfl)
    · exact hS0 k h
    · exact ⟨by omega, fun h => by have := hT _ h; omega⟩
    · exact ⟨by omega, fun h => by have := hT _ h; omega⟩
  · rintro e W2 ⟨⟨v, rfl⟩, S', hS', ⟨xs, hSd, S1, hi, hr2, q1, q2, q3, q4⟩ | ⟨pre, hSp, S1, c, hi, hr2, q1, q2, q3, q4⟩⟩
    · exact ⟨none, _, run_endLoop hr2.1 (by simp [rc]), hdone _ S1 xs _ (Nat.le_refl _) (hD ▸ q3) hSd (hI S1 _ _ _ hi (SameS.put _ _ _ (by omega) q2)) (hD ▸ (hr2.ended hne { rc .ready none with state := .exhausted }).2)⟩
    · exact ⟨some c, _, run_endLoop hr2.1 (by simp [rc]), hstop _ c S1 pre _ (Nat.le_refl _) (hD ▸ q3) hSp (hIx c S1 _ _ _ hi (SameS.put _ _ _ (by omega) q2)) (hD ▸ (hr2.ended hne { rc .done (some c) with state := .exhausted }).2)⟩
end
theorem anyDepthR {F : Fence} (hd : F.depth = none) {m m' : Nat} {P : Program} {l : Nat} {f : FuncId} {ts : Array Value} {ac bc : Code} {w : World} {R : Ending → World → Prop} (h : RoundIn F m P l f ts ac bc w R) : RoundIn F m' P l f ts ac bc w R :=
  ⟨h.1, fun c cs _ => h.2 c cs (fun d h => by rw [hd] at h; cases h)⟩
theorem anyDepthY {F : Fence} (hd : F.depth = none) {m : Nat} (m' : Nat) {P : Program} {l : Nat} {args : Array Value} {W : World} {R : Ending → World → Prop} (h : YieldAt F m P l args W R) : YieldAt F m' P l args W R :=
  let ⟨f, ts, ac, bc, hy, hR⟩ := h
  ⟨f, ts, ac, bc, hy, anyDepthR hd hR⟩
set_option linter.unusedVariables false
/-- The block of a slice. -/
def obl : Value → Option Nat := Value.ownBlock
theorem own_same {W W' : World} {base : Nat} {e : TypeId} {size : Nat} {v : Value} {n : Nat} {xs : List Value} (h : W.ownsRow base e size v n xs) (hs : ∀ k, v.ownBlock = some k → W'.heap[k]? = W.heap[k]?) : W'.ownsRow base e size v n xs := by
  refine ⟨h.1, ?_⟩
  rcases h.2 with h2 | ⟨g, cap, cur, rfl, hB, c, h3⟩
  · exact .inl h2
  · exact .inr ⟨g, cap, cur, rfl, hB, (hs g rfl).trans c, h3⟩
theorem own_lt {W : World} {base : Nat} {e : TypeId} {size : Nat} {v : Value} {n : Nat} {xs : List Value} (h : W.ownsRow base e size v n xs) {k : Nat} (hk : v.ownBlock = some k) : base ≤ k ∧ k < W.heap.size ∧ ∃ cur, W.heap[k]? = some (.cells cur e (0, 0)) := by
  rcases h.2 with ⟨rfl, _⟩ | ⟨g, cap, cur, rfl, hB, c, h3⟩
  · cases hk
  · obtain rfl : g = k := by simpa [Value.ownBlock] using hk
    exact ⟨hB, (Array.getElem?_eq_some_iff.1 c).1, cur, c⟩
section
variable {α : Type} {enc : α → List Value} {k : Nat} {P : Program} {w : World} {F : Fence} {nf : Nat}
theorem wpListIn_appK {ops : Array Oper} {o : Oper} {a : Act} {Q : Exit → Act → World → Prop} {rest : List Oper} {t e : TypeId} {bytes : Nat} (S : SlT P t e k bytes) (hk : ∀ x, (enc x).length = k) (hp : 0 < k) (hgd : o.guard = none) (s x : Operand) (ho : o.op = .call { callee := .builtin .append, args := #[s, x], argTypes := #[t, t] })
    {base : Nat} {v : Value} {n : Nat} {xs : List Value} (hs : a.eval s = v) (hown : w.ownsRow base e k v n xs) (A : Option Addr) (m c : Nat) (l : List α) (hx : a.eval x = .slice A m c) (hA : RowsAt enc k w A l) (hcap : Caps A m c) (hl : l.length = m) (h1 : ∀ u ∈ kfl enc l, u.oneCell' = true)
    (h63 : n + m ≤ maxLen) (hbytes : (n + m) * bytes ≤ 140737488355328) (hbase : base ≤ w.heap.size)
    (h : ∀ v' w', w'.ownsRow base e k v' (n + m) (xs ++ kfl enc l) → w.grownBy w' v.ownBlock → (v'.ownBlock = v.ownBlock ∨ v'.ownBlock = some w.heap.size) → wpListIn F nf P ops Q rest (a.put o.dst v') w') : wpListIn F nf P ops Q (o :: rest) a w := by
  refine wpListIn_plain hgd fun K hK => ?_
  obtain ⟨v', w', hrun, h2, h3, h4⟩ := run_appK S hk hp o.type hown A m c l hA hcap hl h1 h63 hbytes hbase
  unfold Oper.wpIn
  refine ⟨?_, ?_⟩
  · simp [Oper.about, ho, resolve, Target.leads, Sem.run_pure]
  · rw [Oper.semAt_plain F _ _ (by rw [ho]; intro c hc'; cases hc')]
    simp [execOp, ho, resolve, invoke, builtin, hs, hx, hrun, Result.andThen]
    exact hK _ _ (h v' w' h2 h3 h4)
end
set_option linter.unusedVariables false
/-- Q where a region ends by itself. -/
def QN (Q : Exit → Act → World → Prop) : Exit → Act → World → Prop
  | .normal, a, w => Q .normal a w
  | _, _, _ => False
theorem QN.normal {Q : Exit → Act → World → Prop} {a : Act} {w : World} (h : Q .normal a w) : QN Q .normal a w := h
theorem QN.imp {Q : Exit → Act → World → Prop} : ∀ (e : Exit) (a : Act) (w : World), QN Q e a w → Q e a w := fun e a w h => by
  cases e <;> first | exact h | exact (h : False).elim
section
variable {P : Program} {ops : Array Oper} {Q : Exit → Act → World → Prop} {l n : Nat}
theorem operIn_of {o : Oper} {a : Act} {w : World} {K : Act → World → Prop} (hd : ∀ c, o.op ≠ .defer c) (h : o.wp P a w K Q) : o.wpIn (Fence.wide.inRound l) n P a w K Q := by
  refine ⟨fun _ _ => trivial, ?_⟩
  have e : o.semAt (Fence.wide.inRound l).round a.eval = execOp a.eval o := Oper.semAt_some l _ _ hd
  rw [e]
  unfold Oper.wp at h
  revert h
  generalize (execOp a.eval o).run P w = r
  intro h
  unfold Oper.upon at h
  unfold Oper.uponIn
  split at h
  · exact h
  · exact h
  · exact h
  · exact ⟨fun hh => (by cases hh), CallsIn.inRound l (callsIn_wide.2 h)⟩
  · refine ⟨fun hh => (by cases hh), fun c cs _ => ?_⟩
    obtain ⟨v, w', r1, s⟩ := h c cs
    exact ⟨v, w', r1, stepsIn_wide.2 s⟩
  · exact h
  · exact h.elim
theorem anyIn_of (hd : ∀ (i : Nat) (o : Oper), ops[i]? = some o → ∀ c, o.op ≠ .defer c) : ∀ (fuel : Nat) (listed : Array Bool) (a : Act) (w : World), wpAny P .any ops (QN Q) fuel listed a w → wpAnyIn (Fence.wide.inRound l) n P .any ops (QN Q) fuel listed a w
  | 0, _, _, _, h => h
  | fuel + 1, listed, a, w, h => ⟨h.1, fun i hi => by
    have h2 := h.2 i hi
    unfold wpOp at h2
    unfold wpOpIn
    split at h2
    · rename_i e; rw [e]; exact anyIn_of hd fuel _ a w h2
    · rename_i o e
      rw [e]
      dsimp only
      by_cases hw : Region.wanted o (yielded ops a.tmps) = true
      · rw [if_pos hw] at h2 ⊢
        rcases h2 with h2 | ⟨_, h2⟩
        · exact Oper.wpIn_mono (fun a w hk => anyIn_of hd fuel _ a w hk) (operIn_of (hd i o e) h2)
        · exact h2.elim fun _ h => h.elim fun _ h => h.elim
      · rw [if_neg hw] at h2 ⊢
        exact ⟨fun _ _ => trivial, anyIn_of hd fuel _ _ w h2⟩⟩
theorem wpIn_region_heldW {S : World → Prop} {id : Nat} {a : Act} {w : World} (hm : P.follows .mixedOrders = true) (hd : (ops.toList.all fun o => match o.op with | .defer _ => false | _ => true) = true) (hS : S w.drew)
    (h : S w.drew → wpAnyH P .any ops (QN Q) S ops.size (Array.replicate ops.size false) a w.drew) : (Code.region id ops true).wpIn (Fence.wide.inRound l) n P Q a w := by
  have hd' : ∀ (i : Nat) (o : Oper), ops[i]? = some o → ∀ c, o.op ≠ .defer c := fun i o ho c e => by
    have hmem : o ∈ ops.toList := by
      rw [← Array.getElem?_toList] at ho
      exact List.mem_of_getElem? ho
    have := List.all_eq_true.1 hd o hmem
    rw [e] at this
    cases this
  exact Code.wpIn_mono (fun e a w => QN.imp e a w) (wpIn_region_any hm (anyIn_of hd' _ _ a _ (wpAny_of_held _ _ a _ (h hS))))
end
end Go.Proofs.YtpnjokhhbjpciaaGreatDoor
