/- A range over a function that hands out things in memory: a round may know of what it is handed what its iterator knows ('Hd x W'). The law for the caller, and the contract's form. -/
import Derived.Test.YtnlhpbnonmdkdaaKpM
namespace Go.Proofs.Ytnlhpbnonmdkdaa
open Go.RowKit Go.Shelf
set_option linter.unusedVariables false
/-- The contract of an iterator that says of each thing, when it hands it out, how it lies in memory. -/
def SeqHand {α : Type} (F : Fence) (n : Nat) (P : Program) (g : Nat) (lb : Array Value) (encs : α → Array Value) (Hd : α → World → Prop) (Kp : World → World → Prop) (S Sp : List α → Prop) (N : Nat) (w : World) : Prop :=
  ∀ (l : Nat) (J Jx : List α → World → Prop) (W : World), Below w.heap.size w W → AbidesFrom W.heap.size J → AbidesFrom W.heap.size Jx →
    (∀ pre x V, J pre V → pre.length < N → Hd x V → YieldAt F (n - 1) P l (encs x) V fun e V' =>
      (e = .returned (.bool true) ∧ J (pre ++ [x]) V' ∧ Kp V V') ∨ (e = .returned (.bool false) ∧ Jx (pre ++ [x]) V')) →
    J [] W → CallsIn F n P g (#[.func (.yield l) #[] #[]] ++ lb) W fun e W' => (∃ v, e = .returned v) ∧ ((∃ xs, S xs ∧ J xs W') ∨ (∃ pre, Sp pre ∧ Jx pre W'))
section
variable {F : Fence} {n : Nat} {P : Program}
/-- The loop's record, and the block of the rounds' deferred calls, as they stand between rounds. -/
def RecAt (l d : Nat) (r : Loop) (W : World) : Prop := W.heap[l]? = some (.loop r) ∧ W.heap[d]? = some (.deferred (some []))
theorem RecAt.kept {l d : Nat} {r : Loop} {A B : World} {row : Option Nat} (h : RecAt l d r A) (hg : A.grownBy B row) (hr : ∀ k, row = some k → ∃ o : Obj, A.heap[k]? = some o ∧ o.isWalk = true) : RecAt l d r B :=
  ⟨(grownBy_keeps hg hr h.1 rfl).trans h.1, (grownBy_keeps hg hr h.2 rfl).trans h.2⟩
theorem RecAt.ended {l d : Nat} {r : Loop} {W : World} (h : RecAt l d r W) (hne : l ≠ d) (r' : Loop) : RecAt l d r' (W.putObj l (.loop r')) :=
  ⟨World.putObj_heap_same (Array.getElem?_eq_some_iff.1 h.1).1, (World.putObj_heap_other (fun e => hne e.symm)).trans h.2⟩
/-- The law for the caller. -/
theorem wpIn_rangeFunc_hand {α : Type} {g : Operand} {ps : Array Tmp} {assign body : Code} {Q : Exit → Act → World → Prop} {a : Act} {w : World}
    (hro : F.round = none) (h1 : 1 ≤ n) {gf : Nat} {lb : Array Value} (hg : a.eval g = .func (.func gf) #[] lb) (hFg : F.fn gf) (eg : ∀ args w, (callFunc gf args).run P w = .ok (.enter gf args) w)
    {encs : α → Array Value} {Hd : α → World → Prop} {Kp : World → World → Prop} {S Sp : List α → Prop} {N : Nat} {w0 : World} (hseq : SeqHand F (n - 1) P gf lb encs Hd Kp S Sp N w0)
    (hHd : ∀ (x : α) (W : World) (l : Nat) (o o' : Obj), Hd x W → W.heap[l]? = some o → o.isCells = false → Hd x (W.putObj l o'))
    (hKt : ∀ {A B C : World}, Kp A B → Kp B C → Kp A C) (hKb : ∀ (W : World) (l : Nat) (o o' : Obj), w.heap.size ≤ l → W.heap[l]? = some o → o.isCells = false → o.isWalk = false → Kp W (W.putObj l o')) (hb0 : Below w0.heap.size w0 w) (hps : ∀ x, (encs x).size = ps.size)
    (I : List α → World → Prop) (Ix : Code → List α → World → Prop) (hI : OwnFrom w.heap.size I) (hIx : ∀ c, OwnFrom w.heap.size (Ix c)) (h0 : I [] w) (a₁ : α → Act)
    (hassign : ∀ (l : Nat) (x : α) (W : World) (K : Act → World → Prop), K (a₁ x) W →
      assign.wpIn (F.inRound l) (n - 1 - 1) P (Exit.then K (fun _ _ _ => False)) { tmps := (ps.zip (encs x)).foldl (fun t (p, v) => t.setIfInBounds p v) a.tmps, defers := [] } W)
    (hbody : ∀ (l : Nat) (pre : List α) (x : α) (W : World), I pre W → pre.length < N → Hd x W → body.wpIn (F.inRound l) (n - 1 - 1) P (ownPostG w.heap.size Kp I Ix (pre ++ [x]) W) (a₁ x) W)
    (hdone : ∀ (D : Nat) (xs : List α) (W : World), w.heap.size ≤ D → S xs → I xs W → W.heap[D]? = some (.deferred (some [])) → Q .normal { a with defers := { target := .collected D, args := #[] } :: a.defers } W)
    (hstop : ∀ (D : Nat) (c : Code) (pre : List α) (W : World), w.heap.size ≤ D → Sp pre → Ix c pre W → W.heap[D]? = some (.deferred (some [])) → c.wpIn F n P Q { a with defers := { target := .collected D, args := #[] } :: a.defers } W) :
    (Code.rangeFunc g ps assign body).wpIn F n P Q a w := by
  refine wpIn_rangeFunc fun fn hfn => ?_
  rw [hro]
  -- the record, by its state and what is pending
  let rc : LoopState → Option Code → Loop := fun st pe => { state := st, pending := pe, fn := fn, tmps := a.tmps, params := ps, assign := assign, body := body, defers := w.heap.size }
  obtain ⟨L, hL⟩ : ∃ L, L = w.heap.size + 1 := ⟨_, rfl⟩
  have hne : L ≠ w.heap.size := by omega
  obtain ⟨W1, hW1⟩ : ∃ W1, W1 = (w.alloc (.deferred (some []))).alloc (.loop (rc .ready none)) := ⟨_, rfl⟩
  have hs1 : W1.heap.size = w.heap.size + 2 := by rw [hW1]; simp
  have hb1 : Below w.heap.size w W1 := by rw [hW1]; exact ((Below.refl _ w).alloc (Nat.le_refl _) _).alloc (by simp) _
  have hrec1 : RecAt L w.heap.size (rc .ready none) W1 := by
    constructor
    · rw [hW1, hL]
      have := World.alloc_heap_new (w.alloc (.deferred (some []))) (.loop (rc .ready none))
      rwa [World.size_alloc] at this
    · rw [hW1]
      exact (Below.heap_alloc _ _ _ (by simp)).trans (World.alloc_heap_new w _)
  have hI1 : I [] W1 := by rw [hW1]; exact hI.alloc _ (hI.alloc _ h0)
  refine ⟨L, [{ target := .collected w.heap.size, args := #[] }], W1, { target := .fn (.func gf) lb, args := #[.func (.yield L) #[] #[]] }, W1, gf, #[.func (.yield L) #[] #[]] ++ lb, W1, ?_, ?_, ?_, ?_, fun _ => h1, ?_⟩
  · rw [hW1, hL]; exact run_enterLoop_outer _ _ _ _ _
  · simp only [resolve, hg]; simp [go_sem]
  · intro f' hf'; simp [Target.leads] at hf'; subst hf'; exact hFg
  · simp [invoke, go_sem, eg]
  have weak : ∀ {A : World} {row : Option Nat}, (∀ r, row = some r → W1.heap.size ≤ r ∧ ∃ o : Obj, A.heap[r]? = some o ∧ o.isWalk = true) → ∀ r, row = some r → w.heap.size ≤ r ∧ ∃ o : Obj, A.heap[r]? = some o ∧ o.isCells = false := by
    intro A row hr r e
    obtain ⟨q1, o, q2, q3⟩ := hr r e
    exact ⟨by omega, o, q2, Obj.not_cells_of_walk q3⟩
  refine (hseq L (fun pre W => I pre W ∧ RecAt L w.heap.size (rc .ready none) W) (fun pre W => ∃ c, Ix c pre W ∧ RecAt L w.heap.size (rc .done (some c)) W) W1 (hb0.trans (hb1.mono hb0.size)) ?_ ?_ ?_ ⟨hI1, hrec1⟩).mono ?_
  · intro s A B row hs hgr hr
    exact ⟨hI s A B row hs.1 hgr (weak hr), hs.2.kept hgr (fun k e => (hr k e).2)⟩
  · intro s A B row hs hgr hr
    obtain ⟨c, hc, hk⟩ := hs
    exact ⟨c, hIx c s A B row hc hgr (weak hr), hk.kept hgr (fun k e => (hr k e).2)⟩
  · rintro pre x V ⟨hi, hrV⟩ hlen hd
    have hy := run_yield (P := P) (args := encs x) hrV.1 (hps x)
    refine ⟨fn, _, assign, body, hy, roundIn_of_wpIn hfn (hassign _ x V _ ⟨_, run_beginRound hrV.1 rfl, ?_⟩)⟩
    have hbusy : RecAt L w.heap.size { rc .ready none with state := .busy } (V.putObj L (.loop { rc .ready none with state := .busy })) := hrV.ended hne _
    have hk0 : Kp V (V.putObj L (.loop { rc .ready none with state := .busy })) := hKb _ _ _ _ (by omega) hrV.1 rfl rfl
    refine wpIn_mono (hbody _ pre x _ (hI.putObj _ hi (by omega) hrV.1 rfl) hlen (hHd x V _ _ _ hd hrV.1 rfl)) ?_
    have stays : ∀ {V3 : World}, KeepsFrom w.heap.size (V.putObj L (.loop { rc .ready none with state := .busy })) V3 → RecAt L w.heap.size { rc .ready none with state := .busy } V3 :=
      fun hk3 => ⟨hk3.same _ _ (by omega) hbusy.1 rfl, hk3.same _ _ (Nat.le_refl _) hbusy.2 rfl⟩
    rintro e a3 V3 hp
    cases e with
    | normal =>
      obtain ⟨hk3, hkp3, hi3⟩ := hp
      have hr3 := stays hk3
      exact ⟨_, _, run_endRound none hr3.1, .inl ⟨rfl, ⟨hI.putObj _ hi3 (by omega) hr3.1 rfl, hr3.ended hne _⟩, hKt (hKt hk0 hkp3) (hKb _ _ _ _ (by omega) hr3.1 rfl rfl)⟩⟩
    | ret =>
      have hr3 := stays hp.1
      exact ⟨_, _, run_endRound (some .ret) hr3.1, .inr ⟨rfl, .ret, (hIx _).putObj _ hp.2 (by omega) hr3.1 rfl, hr3.ended hne _⟩⟩
    | exit id =>
      have hr3 := stays hp.1
      exact ⟨_, _, run_endRound (some (.exit id)) hr3.1, .inr ⟨rfl, .exit id, (hIx _).putObj _ hp.2 (by omega) hr3.1 rfl, hr3.ended hne _⟩⟩
    | goto t =>
      have hr3 := stays hp.1
      exact ⟨_, _, run_endRound (some (.goto t)) hr3.1, .inr ⟨rfl, .goto t, (hIx _).putObj _ hp.2 (by omega) hr3.1 rfl, hr3.ended hne _⟩⟩
    | panic ch => exact hp.elim
    | outgrown => exact hp.elim
  · rintro e W2 ⟨⟨v, rfl⟩, ⟨xs, hS, hi, hr2⟩ | ⟨pre, hSp, c, hi, hr2⟩⟩
    · exact ⟨none, _, run_endLoop hr2.1 (by simp [rc]), hdone _ xs _ (Nat.le_refl _) hS (hI.putObj _ hi (by omega) hr2.1 rfl) (hr2.ended hne { rc .ready none with state := .exhausted }).2⟩
    · exact ⟨some c, _, run_endLoop hr2.1 (by simp [rc]), hstop _ c pre _ (Nat.le_refl _) hSp ((hIx c).putObj _ hi (by omega) hr2.1 rfl) (hr2.ended hne { rc .done (some c) with state := .exhausted }).2⟩
end
end Go.Proofs.Ytnlhpbnonmdkdaa
