/- Source: the state of lines between two spots, and how it goes on. Source: lines: hands the lines from a beginning on to a function. -/
import Derived.Test.YtpnjokhhbjpciaaGreatDoorSoD
import Derived.Test.YtpnjokhhbjpciaaGreatDoorSoW
import Derived.Test.YtpnjokhhbjpciaaGreatDoorInD
import Derived.Test.YtpnjokhhbjpciaaGreatDoorSep
import Derived.Deep.RegionLaw
namespace Go.Proofs.YtpnjokhhbjpciaaGreatDoor
open Go.RowKit Go.Shelf
set_option linter.unusedVariables false
/-- An inlay as a part. -/
def vI (a : In) : Pt := ⟨2, a.pl, dec a.tx⟩
/-- A line, and where its parts lie. -/
structure LnV where
  A : Option Addr
  c : Nat
  ps : List PtV
  fr : Nat
  te : Nat
/-- Its slice of parts. -/
abbrev LnV.v (x : LnV) : Value := .slice x.A x.ps.length x.c
def lnS (x : LnV) : SLn := ⟨x.ps.map ptP, x.fr, x.te⟩
def encLn (x : LnV) : Value := .agg #[.slice x.A x.ps.length x.c, .int .i64 (x.fr : Int), .int .i64 (x.te : Int)]
def HdL (H : Bk) (x : LnV) (W : World) : Prop := PrAt H W x.v x.ps
/-- The memory of lines. -/
structure LnC (w0 : World) (J : Bk → List LnV → World → Prop) (lp Bl Bi B3 : Nat) (W : World) (So T : Bk) (preO : List LnV) (v : Value) (ps : List PtV) (fr : Nat) (te : Int) (L : List In) (X : Option Addr) (d : Nat) : Prop where
  below : Below w0.heap.size w0 W
  dj : ∀ k, T k → ¬ So k
  geS : ∀ k, So k → w0.heap.size ≤ k
  geT : ∀ k, T k → w0.heap.size ≤ k
  lt : ∀ k, T k → k < W.heap.size
  out : J So preO W
  box : RawAt 40 W Bl #[v, .int .i64 (fr : Int), .int .i64 te]
  bi : RawAt 22 W Bi #[.slice X L.length d]
  rx : RowsAt encI 5 W X L
  cx : Caps X L.length d
  xb : ∀ a, X = some a → T a.block ∧ ∃ cur : Array Value, W.heap[a.block]? = some (Obj.cells cur 63 (0, 0))
  yl : RawAt 108 W B3 #[.func (.yield lp) #[] #[]]
  pr : PrAt T W v ps
  tb : T Bl ∧ T Bi ∧ T B3
  ord : L.Pairwise fun a b => a.pl ≤ b.pl
  tx : ∀ a ∈ L, a.tx.size ≤ 1000
theorem rows_same {α : Type} {enc : α → List Value} {k : Nat} {W W' : World} {X : Option Addr} {l : List α} (h : RowsAt enc k W X l) (hb : W.heap.size ≤ W'.heap.size) (hs : ∀ a, X = some a → W'.heap[a.block]? = W.heap[a.block]?) : RowsAt enc k W' X l := by
  intro hl
  obtain ⟨b, off, rfl, h1, h2⟩ := h hl
  exact ⟨b, off, rfl, Nat.lt_of_lt_of_le h1 hb, fun j hj c hc => (World.cell?_of_block (a := ⟨b, off + j * k + c, none⟩) (hs ⟨b, off, none⟩ rfl)).trans (h2 j hj c hc)⟩
section
variable {w0 : World} {J : Bk → List LnV → World → Prop} {lp Bl Bi B3 : Nat} {W W' : World} {So T : Bk} {preO : List LnV} {v : Value} {ps : List PtV} {fr : Nat} {te : Int} {L : List In} {X : Option Addr} {d : Nat}
theorem LnC.same (hJ : AbS w0.heap.size J) (h : LnC w0 J lp Bl Bi B3 W So T preO v ps fr te L X d) (hs : SameS w0.heap.size (fun k => So k ∨ T k) W W') : LnC w0 J lp Bl Bi B3 W' So T preO v ps fr te L X d := by
  have t : ∀ k, T k → W'.heap[k]? = W.heap[k]? := fun k hk => hs.2 k (.inr hk)
  exact ⟨h.below.trans hs.1, h.dj, h.geS, h.geT, fun k hk => Nat.lt_of_lt_of_le (h.lt k hk) hs.1.size, hJ So preO W W' h.out (hs.mono fun k hk => .inl hk), (t _ h.tb.1).trans h.box, (t _ h.tb.2.1).trans h.bi, rows_same h.rx hs.1.size (fun a e => t _ (h.xb a e).1), h.cx,
    fun a e => ⟨(h.xb a e).1, (h.xb a e).2.imp fun cur hc => (t _ (h.xb a e).1).trans hc⟩, (t _ h.tb.2.2).trans h.yl, h.pr.same t, h.tb, h.ord, h.tx⟩
theorem LnC.ltS (hJl : LtS J) (h : LnC w0 J lp Bl Bi B3 W So T preO v ps fr te L X d) : ∀ k, (So k ∨ T k) → k < W.heap.size := fun k hk => hk.elim (hJl _ _ _ h.out k) (h.lt k)
theorem LnC.next (hJ : AbS w0.heap.size J) (hJl : LtS J) (h : LnC w0 J lp Bl Bi B3 W So T preO v ps fr te L X d) (hb : Below W.heap.size W W') : LnC w0 J lp Bl Bi B3 W' So T preO v ps fr te L X d :=
  h.same hJ (SameS.of_below hb h.below.size (h.ltS hJl))
/-- The boxes are no blocks of parts. -/
theorem LnC.apart (h : LnC w0 J lp Bl Bi B3 W So T preO v ps fr te L X d) : ¬ prB v ps Bl ∧ ¬ prB v ps Bi ∧ ¬ prB v ps B3 ∧ ∀ a, X = some a → ¬ prB v ps a.block := by
  refine ⟨fun g => ?_, fun g => ?_, fun g => ?_, fun a e g => ?_⟩
  · obtain ⟨cur, e | e⟩ := h.pr.kind _ g
    all_goals
      have := h.box
      unfold RawAt at this
      rw [this] at e
      simp at e
  · obtain ⟨cur, e | e⟩ := h.pr.kind _ g
    all_goals
      have := h.bi
      unfold RawAt at this
      rw [this] at e
      simp at e
  · obtain ⟨cur, e | e⟩ := h.pr.kind _ g
    all_goals
      have := h.yl
      unfold RawAt at this
      rw [this] at e
      simp at e
  · obtain ⟨_, cur', hc'⟩ := h.xb a e
    obtain ⟨cur, e | e⟩ := h.pr.kind _ g
    all_goals
      rw [hc'] at e
      simp at e
theorem LnC.boxes (h : LnC w0 J lp Bl Bi B3 W So T preO v ps fr te L X d) : Bl ≠ Bi ∧ Bl ≠ B3 ∧ ∀ a, X = some a → Bl ≠ a.block ∧ Bi ≠ a.block := by
  refine ⟨fun e => ?_, fun e => ?_, fun a e => ⟨fun e2 => ?_, fun e2 => ?_⟩⟩
  · have h1 := h.box
    have h2 := h.bi
    unfold RawAt at h1 h2
    rw [e, h2] at h1
    simp at h1
  · have h1 := h.box
    have h2 := h.yl
    unfold RawAt at h1 h2
    rw [e, h2] at h1
    simp at h1
  · obtain ⟨_, cur', hc'⟩ := h.xb a e
    have h1 := h.box
    unfold RawAt at h1
    rw [e2, hc'] at h1
    simp at h1
  · obtain ⟨_, cur', hc'⟩ := h.xb a e
    have h1 := h.bi
    unfold RawAt at h1
    rw [e2, hc'] at h1
    simp at h1
/-- Other parts come into the line. -/
theorem LnC.parts (hJ : AbS w0.heap.size J) (hJl : LtS J) (h : LnC w0 J lp Bl Bi B3 W So T preO v ps fr te L X d) {v' : Value} {ps' : List PtV} (hk : KeptS (prB v ps) W W') (hp : PrAt (fun k => prB v ps k ∨ (W.heap.size ≤ k ∧ k < W'.heap.size)) W' v' ps') :
    LnC w0 J lp Bl Bi B3 (W'.setCell ⟨Bl, 0, none⟩ v') So (fun k => T k ∨ (W.heap.size ≤ k ∧ k < W'.heap.size)) preO v' ps' fr te L X d ∧ KeptS T W (W'.setCell ⟨Bl, 0, none⟩ v') := by
  obtain ⟨a1, a2, a3, a4⟩ := h.apart
  obtain ⟨n1, n2, n3⟩ := h.boxes
  have hl := hJl _ _ _ h.out
  have box' : RawAt 40 W' Bl #[v, .int .i64 (fr : Int), .int .i64 te] := (hk.kept _ h.box.lt a1).trans h.box
  have box2 := box'.set_ 0 v'
  have far : ∀ k, k ≠ Bl → (W'.setCell ⟨Bl, 0, none⟩ v').heap[k]? = W'.heap[k]? := fun k hk => Below.heap_setCell _ _ _ _ hk
  have kT : KeptS T W (W'.setCell ⟨Bl, 0, none⟩ v') := (hk.mono (fun k _ g => h.pr.sub k g)).trans (KeptS.set (S := T) _ _ _ h.tb.1) (fun k g => .inl g)
  have hsz : W.heap.size ≤ W'.heap.size := hk.zero.size
  have keep : ∀ k, k < W.heap.size → k ≠ Bl → ¬ prB v ps k → (W'.setCell ⟨Bl, 0, none⟩ v').heap[k]? = W.heap[k]? := fun k h1 h2 h3 => (far k h2).trans (hk.kept k h1 h3)
  refine ⟨⟨h.below.trans (kT.below h.geT h.below.size), fun k hk => ?_, h.geS, fun k hk => ?_, fun k hk => ?_, ?_, ?_, ?_, ?_, h.cx, ?_, ?_, ?_, ⟨.inl h.tb.1, .inl h.tb.2.1, .inl h.tb.2.2⟩, h.ord, h.tx⟩, kT⟩
  · rcases hk with hk | ⟨hk, _⟩
    · exact h.dj k hk
    · intro g
      have := hl k g
      omega
  · rcases hk with hk | ⟨hk, _⟩
    · exact h.geT k hk
    · exact Nat.le_trans h.below.size hk
  · rw [World.size_setCell]
    rcases hk with hk | ⟨_, hk⟩
    · exact Nat.lt_of_lt_of_le (h.lt k hk) hsz
    · exact hk
  · exact hJ So preO W _ h.out (SameS.of_kept kT h.below.size hl h.geT (fun k hk g => h.dj k g hk))
  · exact box2
  · exact (keep _ h.bi.lt (Ne.symm n1) a2).trans h.bi
  · refine rows_same h.rx (by rw [World.size_setCell]; exact hsz) (fun a e => keep _ ?_ (Ne.symm (n3 a e).1) (a4 a e))
    exact h.lt _ (h.xb a e).1
  · intro a e
    obtain ⟨g1, cur, g2⟩ := h.xb a e
    exact ⟨.inl g1, cur, (keep _ (h.lt _ g1) (Ne.symm (n3 a e).1) (a4 a e)).trans g2⟩
  · exact (keep _ h.yl.lt (Ne.symm n2) a3).trans h.yl
  · refine (hp.same (fun k hk' => far k (fun e => ?_))).grow (fun k hk' => ?_)
    · subst e
      rcases hk' with g | ⟨g, _⟩
      · exact a1 g
      · have := h.box.lt; omega
    · rcases hk' with g | g
      · exact .inl (h.pr.sub k g)
      · exact .inr g
/-- The first inlay goes. -/
theorem LnC.pop (hJ : AbS w0.heap.size J) (hJl : LtS J) {z : In} (h : LnC w0 J lp Bl Bi B3 W So T preO v ps fr te (z :: L) X d) :
    LnC w0 J lp Bl Bi B3 (W.setCell ⟨Bi, 0, none⟩ (.slice (cutK X d 5 1) L.length (d - 1))) So T preO v ps fr te L (cutK X d 5 1) (d - 1) ∧ KeptS T W (W.setCell ⟨Bi, 0, none⟩ (.slice (cutK X d 5 1) L.length (d - 1))) := by
  obtain ⟨a1, a2, a3, a4⟩ := h.apart
  obtain ⟨n1, n2, n3⟩ := h.boxes
  have hl := hJl _ _ _ h.out
  have far : ∀ k, k ≠ Bi → (W.setCell ⟨Bi, 0, none⟩ (.slice (cutK X d 5 1) L.length (d - 1))).heap[k]? = W.heap[k]? := fun k hk => Below.heap_setCell _ _ _ _ hk
  have kT : KeptS T W (W.setCell ⟨Bi, 0, none⟩ (.slice (cutK X d 5 1) L.length (d - 1))) := KeptS.set (S := T) _ _ _ h.tb.2.1
  have blk : ∀ a, cutK X d 5 1 = some a → ∃ a', X = some a' ∧ a'.block = a.block := by
    intro a e
    unfold cutK at e
    split at e
    · exact ⟨a, e, rfl⟩
    · cases X with
      | none => cases e
      | some a' =>
        have e1 : a'.add (1 * 5) = a := by simpa using e
        exact ⟨a', rfl, by rw [← e1]; rfl⟩
  have hc : L.length + 1 ≤ d := by have := h.cx.1; simpa using this
  have hrx : RowsAt encI 5 W (cutK X d 5 1) L := by
    have := h.rx.cut (n := L.length + 1) (by simp) hc (j := 1) (m := L.length) (by omega)
    simpa using this
  have hcx : Caps (cutK X d 5 1) L.length (d - 1) := by
    have h2 : Caps X (L.length + 1) d := by have := h.cx; simpa using this
    exact cutK_caps h2 (j := 1) (m := L.length) (by omega)
  have b3 : B3 ≠ Bi := fun e => by
    have h1 := h.yl
    have h2 := h.bi
    unfold RawAt at h1 h2
    rw [e, h2] at h1
    simp at h1
  refine ⟨⟨h.below.trans (kT.below h.geT h.below.size), h.dj, h.geS, h.geT, fun k hk => by rw [World.size_setCell]; exact h.lt k hk, hJ So preO W _ h.out (SameS.of_kept kT h.below.size hl h.geT (fun k hk g => h.dj k g hk)), (far _ n1).trans h.box, h.bi.set_ 0 _, ?_, hcx, ?_, (far _ b3).trans h.yl, h.pr.same' (fun k hk => far k (fun e => a2 (e ▸ hk))), h.tb, (List.pairwise_cons.1 h.ord).2, fun a ha => h.tx a (List.mem_cons_of_mem _ ha)⟩, kT⟩
  · refine rows_same hrx (by rw [World.size_setCell]; exact Nat.le_refl _) (fun a e => ?_)
    obtain ⟨a', e1, e2⟩ := blk a e
    rw [← e2]
    exact far _ (Ne.symm (n3 a' e1).2)
  · intro a e
    obtain ⟨a', e1, e2⟩ := blk a e
    obtain ⟨g1, cur, g2⟩ := h.xb a' e1
    rw [← e2]
    exact ⟨g1, cur, (far _ (Ne.symm (n3 a' e1).2)).trans g2⟩
/-- An inlay's part comes into the line. -/
theorem LnC.virt (hJ : AbS w0.heap.size J) (hJl : LtS J) (h : LnC w0 J lp Bl Bi B3 W So T preO v ps fr te L X d) {w4 : World} (hb : Below W.heap.size W w4) {kd pl : Int} {A4 : Option Addr} {n4 c4 : Nat} {rs : List Int} (ho : w4.ownsRow W.heap.size 21 1 (.slice A4 n4 c4) n4 (rs.map (.int .i32))) :
    (w4.alloc (.cells #[.int .i64 kd, .int .i64 pl, .slice A4 n4 c4] 78)).ownsRow 0 78 3 v ps.length (kfl ptcs ps) ∧ RowsAt ptcs 3 (w4.alloc (.cells #[.int .i64 kd, .int .i64 pl, .slice A4 n4 c4] 78)) (some ⟨w4.heap.size, 0, none⟩) [⟨kd, pl, A4, n4, c4, rs⟩] ∧
    ∀ v6 w6, w6.ownsRow 0 78 3 v6 (ps.length + 1) (kfl ptcs ps ++ kfl ptcs [⟨kd, pl, A4, n4, c4, rs⟩]) → (w4.alloc (.cells #[.int .i64 kd, .int .i64 pl, .slice A4 n4 c4] 78)).grownBy w6 v.ownBlock → (v6.ownBlock = v.ownBlock ∨ v6.ownBlock = some (w4.alloc (.cells #[.int .i64 kd, .int .i64 pl, .slice A4 n4 c4] 78)).heap.size) →
      KeptS (prB v ps) W w6 ∧ LnC w0 J lp Bl Bi B3 (w6.setCell ⟨Bl, 0, none⟩ v6) So (fun k => T k ∨ (W.heap.size ≤ k ∧ k < w6.heap.size)) preO v6 (ps ++ [⟨kd, pl, A4, n4, c4, rs⟩]) fr te L X d ∧ KeptS T W (w6.setCell ⟨Bl, 0, none⟩ v6) := by
  have x5 : Below W.heap.size W (w4.alloc (.cells #[.int .i64 kd, .int .i64 pl, .slice A4 n4 c4] 78)) := hb.alloc hb.size _
  have h5 := h.next hJ hJl x5
  refine ⟨h5.pr.row, row_new ptcs_len w4 [⟨kd, pl, A4, n4, c4, rs⟩] #[.int .i64 kd, .int .i64 pl, .slice A4 n4 c4] 78 rfl, fun v6 w6 hr hg hn => ?_⟩
  have hs5 : W.heap.size + 1 ≤ (w4.alloc (.cells #[.int .i64 kd, .int .i64 pl, .slice A4 n4 c4] 78)).heap.size := by have := hb.size; simp; omega
  have k6 : KeptS (prB v ps) W w6 := (KeptS.of_below (S := prB v ps) x5).trans (KeptS.grown (S := prB v ps) hg (fun k hk => .inl hk)) (fun k h => .inl h)
  have hsz : (w4.alloc (.cells #[.int .i64 kd, .int .i64 pl, .slice A4 n4 c4] 78)).heap.size ≤ w6.heap.size := hg.size
  have o5 : (w4.alloc (.cells #[.int .i64 kd, .int .i64 pl, .slice A4 n4 c4] 78)).ownsRow 0 21 1 (.slice A4 n4 c4) n4 (rs.map (.int .i32)) := own_base (ho.alloc _) (Nat.zero_le _)
  have fr4 : ∀ k, (Value.slice A4 n4 c4).ownBlock = some k → W.heap.size ≤ k ∧ k < w4.heap.size := fun k hk => ⟨(own_lt ho hk).1, (own_lt ho hk).2.1⟩
  have p6 := (h5.pr.tight.snoc (s := ⟨kd, pl, A4, n4, c4, rs⟩) hr hg o5 (fun k hk g => by have := (fr4 k hk).1; have := h.pr.lt k g; omega)).grow (S' := fun k => prB v ps k ∨ (W.heap.size ≤ k ∧ k < w6.heap.size)) (by
    rintro k (g | g | g)
    · exact .inl g
    · have h8 := (own_lt hr g).2.1
      rcases hn with e | e
      · rw [e] at g; exact .inl (.inl g)
      · rw [e] at g; injection g with g; exact .inr ⟨by omega, h8⟩
    · have := fr4 k g
      have e9 : (w4.alloc (.cells #[.int .i64 kd, .int .i64 pl, .slice A4 n4 c4] 78)).heap.size = w4.heap.size + 1 := by simp
      exact .inr ⟨this.1, by omega⟩)
  obtain ⟨q1, q2⟩ := h.parts hJ hJl k6 p6
  exact ⟨k6, q1, q2⟩
/-- A line goes out, and the next one begins. -/
theorem LnC.emit (hJ : AbS w0.heap.size J) (hJl : LtS J) (h : LnC w0 J lp Bl Bi B3 W So T preO v ps fr te L X d) (xa : Nat) :
    J So preO (W.setCell ⟨Bl, 2, none⟩ (.int .i64 (xa : Int))) ∧ PrAt (prB v ps) (W.setCell ⟨Bl, 2, none⟩ (.int .i64 (xa : Int))) v ps ∧ (∀ k, prB v ps k → ¬ So k ∧ k < (W.setCell ⟨Bl, 2, none⟩ (.int .i64 (xa : Int))).heap.size ∧ w0.heap.size ≤ k) ∧
    RawAt 40 (W.setCell ⟨Bl, 2, none⟩ (.int .i64 (xa : Int))) Bl #[v, .int .i64 (fr : Int), .int .i64 (xa : Int)] ∧ RawAt 108 (W.setCell ⟨Bl, 2, none⟩ (.int .i64 (xa : Int))) B3 #[.func (.yield lp) #[] #[]] ∧ KeptS T W (W.setCell ⟨Bl, 2, none⟩ (.int .i64 (xa : Int))) ∧
    ∀ (W6 : World) (So' : Bk) (x : LnV), KeptS So (W.setCell ⟨Bl, 2, none⟩ (.int .i64 (xa : Int))) W6 → (∀ k, So' k → So k ∨ prB v ps k ∨ (W.setCell ⟨Bl, 2, none⟩ (.int .i64 (xa : Int))).heap.size ≤ k) → J So' (preO ++ [x]) W6 →
      RawAt 40 W6 Bl #[v, .int .i64 (fr : Int), .int .i64 (xa : Int)] ∧ ∀ (W7 : World) (fr' : Nat), RawAt 40 W7 Bl #[.slice none 0 0, .int .i64 (fr' : Int), .int .i64 0] → (∀ k, k ≠ Bl → W7.heap[k]? = W6.heap[k]?) → Below 0 W6 W7 →
        LnC w0 J lp Bl Bi B3 W7 So' (fun k => T k ∧ ¬ So' k) (preO ++ [x]) (.slice none 0 0) [] fr' 0 L X d ∧ KeptS (fun k => So k ∨ T k) W W7 := by
  obtain ⟨a1, a2, a3, a4⟩ := h.apart
  obtain ⟨n1, n2, n3⟩ := h.boxes
  have hl := hJl _ _ _ h.out
  have kT : KeptS T W (W.setCell ⟨Bl, 2, none⟩ (.int .i64 (xa : Int))) := KeptS.set (S := T) _ _ _ h.tb.1
  have far : ∀ k, k ≠ Bl → (W.setCell ⟨Bl, 2, none⟩ (.int .i64 (xa : Int))).heap[k]? = W.heap[k]? := fun k hk => Below.heap_setCell _ _ _ _ hk
  have box5 := h.box.set_ 2 (.int .i64 (xa : Int))
  have hsz : (W.setCell ⟨Bl, 2, none⟩ (.int .i64 (xa : Int))).heap.size = W.heap.size := World.size_setCell _ _ _
  refine ⟨hJ So preO W _ h.out (SameS.of_kept kT h.below.size hl h.geT (fun k hk g => h.dj k g hk)), h.pr.tight.same (fun k hk => far k (fun e => a1 (e ▸ hk))), fun k hk => ⟨h.dj k (h.pr.sub k hk), by rw [hsz]; exact h.pr.lt k hk, h.geT k (h.pr.sub k hk)⟩, box5, (far _ (Ne.symm n2)).trans h.yl, kT, fun W6 So' x hk6 hs6 hj6 => ?_⟩
  have nS : ∀ k, T k → ¬ So k := h.dj
  have keep6 : ∀ k, k < W.heap.size → ¬ So k → W6.heap[k]? = (W.setCell ⟨Bl, 2, none⟩ (.int .i64 (xa : Int))).heap[k]? := fun k h1 h2 => hk6.kept k (by rw [hsz]; exact h1) h2
  refine ⟨(keep6 _ h.box.lt (nS _ h.tb.1)).trans box5, fun W7 fr' hb7 hf7 hz7 => ?_⟩
  have n6 : ∀ k, T k → ¬ prB v ps k → ¬ So' k := fun k h1 h2 g => by
    rcases hs6 k g with g | g | g
    · exact nS k h1 g
    · exact h2 g
    · have := h.lt k h1; omega
  have keep : ∀ k, T k → k ≠ Bl → W7.heap[k]? = W.heap[k]? := fun k h1 h2 => (hf7 k h2).trans ((keep6 k (h.lt k h1) (nS k h1)).trans (far k h2))
  have k7 : KeptS (fun k => So k ∨ T k) W W7 := ((kT.mono (fun k _ g => .inr g)).trans (S' := So) hk6 (fun k g => .inl (.inl g))).trans (S' := T) ⟨hz7, fun k _ g => hf7 k (fun e => g (e ▸ h.tb.1))⟩ (fun k g => .inl (.inr g))
  have hge' : ∀ k, So' k → w0.heap.size ≤ k := fun k g => by
    rcases hs6 k g with g | g | g
    · exact h.geS k g
    · exact h.geT k (h.pr.sub k g)
    · have := h.below.size; omega
  have lt6 : ∀ k, T k → k < W7.heap.size := fun k g => Nat.lt_of_lt_of_le (h.lt k g) k7.zero.size
  refine ⟨⟨h.below.trans (k7.below (fun k g => g.elim (h.geS k) (h.geT k)) h.below.size), fun k g => g.2, hge', fun k g => h.geT k g.1, fun k g => lt6 k g.1, ?_, hb7, (keep _ h.tb.2.1 (Ne.symm n1)).trans h.bi, rows_same h.rx k7.zero.size (fun a e => keep _ (h.xb a e).1 (Ne.symm (n3 a e).1)), h.cx, fun a e => ?_, (keep _ h.tb.2.2 (Ne.symm n2)).trans h.yl, PrAt.nil _ _, ⟨⟨h.tb.1, n6 _ h.tb.1 a1⟩, ⟨h.tb.2.1, n6 _ h.tb.2.1 a2⟩, ⟨h.tb.2.2, n6 _ h.tb.2.2 a3⟩⟩, h.ord, h.tx⟩, k7⟩
  · have hnB : ¬ So' Bl := n6 _ h.tb.1 a1
    refine hJ So' (preO ++ [x]) W6 W7 hj6 ⟨⟨hz7.os, hz7.tape, hz7.output, hz7.size, fun k hk => hf7 k (fun e => ?_)⟩, fun k hk => hf7 k (fun e => hnB (e ▸ hk))⟩
    have := h.geT _ h.tb.1
    omega
  · obtain ⟨g1, cur, g2⟩ := h.xb a e
    exact ⟨⟨g1, n6 _ g1 (a4 a e)⟩, cur, (keep _ g1 (Ne.symm (n3 a e).1)).trans g2⟩
end
theorem spF_len (R : List Int) : ∀ {a : Nat} {H : List (Nat × Nat)}, HOk R.length a H → (spF R a H).length ≤ (R.length - a) + H.length + 1
  | a, [], h => by rw [spF, List.length_append, seg_len, List.length_singleton]; simp
  | a, x :: H, h => by
    have ih := spF_len R h.2.2
    have h1 := h.1
    have h2 := h.2.1
    have h3 := HOk.le h.2.2
    rw [spF, List.length_append, seg_len, List.length_cons, List.length_cons]
    omega
/-- What a spot does to lines, the inlays ahead of it gone. -/
theorem linesP_pop {xa xh : Nat} {xo : Int} {l l1 I I1 : List Pt} {f : Nat} (hI : I.Pairwise fun a b => a.p ≤ b.p) (h : (l1, I1) = popI xa l I) (Y : List Spot) : linesP (⟨xa, xh, xo⟩ :: Y) l f I =
    if xh = 0 then linesP Y (plP l1 xa xo) f I1 else if xh = 1 then linesP Y (l1 ++ [⟨3, xa, []⟩]) f I1 else ⟨l1, f, xa⟩ :: linesP Y [] (xa + 1) I1 := by
  rw [popI_eq xa I l hI] at h
  injection h with h1 h2
  rw [linesP, h1, h2]
set_option linter.unusedVariables false
attribute [local go_sem] Oper.semAt_some
/-- What the program asks of inlays. -/
structure InlC (w0 : World) (ip : Option Addr) (n : Nat) (o : List In) : Prop where
  len : ∀ V : World, Below w0.heap.size w0 V → Calls Tryz.prog 50 #[.pointer ip] V fun e w' => e = .returned (.int .i64 (n : Int)) ∧ Below V.heap.size V w'
  win : ∀ (V : World) (x y : Int), Below w0.heap.size w0 V → Calls Tryz.prog 55 #[.pointer ip, .int .i64 x, .int .i64 y] V fun e w' => ∃ v, e = .returned v ∧ w'.ownsRow V.heap.size 63 5 v (iwithin x y o).length (kfl encI (iwithin x y o)) ∧ Below V.heap.size V w'
  ord : o.Pairwise fun a b => a.pl ≤ b.pl
  tx : ∀ a ∈ o, a.tx.size ≤ 1000
  few : o.length ≤ 10000
/-- What a round that takes a line says. -/
def LnY (lp N : Nat) (n₀ : Nat) (J Jx : Bk → List LnV → World → Prop) : Prop := ∀ S pre x H V, J S pre V → pre.length < N → HdL H x V → (∀ k, H k → ¬ S k ∧ k < V.heap.size ∧ n₀ ≤ k) → YieldAt Fence.wide 0 Tryz.prog lp #[encLn x] V fun e V' =>
  (e = .returned (.bool true) ∧ KeptS S V V' ∧ ∃ S', (∀ k, S' k → S k ∨ H k ∨ V.heap.size ≤ k) ∧ J S' (pre ++ [x]) V') ∨ (e = .returned (.bool false) ∧ KeptS S V V' ∧ ∃ S', (∀ k, S' k → S k ∨ H k ∨ V.heap.size ≤ k) ∧ Jx S' (pre ++ [x]) V')
/-- The lines from a beginning on. -/
def linL (R : List Int) (H : List (Nat × Nat)) (o : List In) (f : Nat) : List SLn := linesP (spF R f (hfr f H)) [] f ((iwithin f R.length o).map vI)

set_option maxHeartbeats 4000000 in
set_option maxRecDepth 100000 in
theorem soSpots_in (n : Nat) (p ip HA : Option Addr) (hn hc : Nat) (f : Int) (w : World) :
    CallsIn Fence.wide n Tryz.prog 56 #[.agg #[.pointer p, .pointer ip, .slice HA hn hc], .int .i64 f] w fun e w' => e = .returned (.func (.func 91) #[] #[.pointer (some ⟨w.heap.size + 1, 0, none⟩), .pointer (some ⟨w.heap.size, 0, none⟩)]) ∧
      w' = (w.alloc (.cells #[.pointer p, .pointer ip, .slice HA hn hc] 29)).alloc (.cells #[.int .i64 f] 3) := by
  refine callsIn_of_wp Tryz.func56 rfl trivial ?_ rfl
  simp only [Tryz.ntmps56, List.size_toArray, List.length_cons, List.length_nil, Nat.reduceAdd, Nat.reduceSub, Array.replicate_succ, Array.replicate_zero, List.push_toArray, List.append_toArray, List.nil_append, List.cons_append]
  gi_wp2
  go_ret
  exact ⟨rfl, rfl⟩
/-- How long the slice in a box is. -/
def bxLen (W : World) (B : Nat) : Nat := match W.cell? ⟨B, 0, none⟩ with | some (.slice _ n _) => n | _ => 0
theorem bx_lt {W W' : World} {B n c c' : Nat} {a a' : Option Addr} (h1 : W'.cell? ⟨B, 0, none⟩ = some (.slice a n c)) (h2 : W.cell? ⟨B, 0, none⟩ = some (.slice a' (n + 1) c')) : bxLen W' B < bxLen W B := by
  unfold bxLen
  rw [h1, h2]
  exact Nat.lt_succ_self n
/-- The state of lines between two spots. -/
def LnI (w0 : World) (J : Bk → List LnV → World → Prop) (I0 : List In) (f lp Bl Bi B3 : Nat) (S : Bk) (pre : List Spot) (W : World) : Prop :=
  ∃ (So T : Bk) (preO : List LnV) (v : Value) (ps : List PtV) (fr : Nat) (L : List In) (X : Option Addr) (d : Nat), LnC w0 J lp Bl Bi B3 W So T preO v ps fr 0 L X d ∧ (∀ k, S k ↔ (So k ∨ T k)) ∧ ps.length + L.length ≤ pre.length + I0.length ∧ (∀ s ∈ ps, s.n ≤ pre.length + 1000) ∧ preO.length ≤ pre.length ∧
    ∀ Y, preO.map lnS ++ linesP Y (ps.map ptP) fr (L.map vI) = linesP (pre ++ Y) [] f (I0.map vI)
def LnIx (w0 : World) (Jx : Bk → List LnV → World → Prop) (I0 : List In) (f : Nat) (c : Code) (S : Bk) (pre : List Spot) (W : World) : Prop :=
  c = .ret ∧ ∃ So preO, (∀ k, So k → S k) ∧ (∀ k, So k → w0.heap.size ≤ k) ∧ Jx So preO W ∧ ∀ X, preO.map lnS <+: linesP (pre ++ X) [] f (I0.map vI)
set_option maxHeartbeats 8000000 in
set_option maxRecDepth 100000 in
theorem soLines1_in (n lp N : Nat) (p ip HA : Option Addr) (hn hc : Nat) (R : List Int) (H : List (Nat × Nat)) (o : List In) (w0 : World) (hcln : Cln R) (hmost : R.length ≤ 20000) (hcs : SlcC w0 p R) (hru : RunC w0 p R) (hA : RowsAt wencS 2 w0 HA (spI H)) (hlen : H.length = hn) (hn1 : hn ≤ 100000) (hin : InlC w0 ip R.length o)
    (f : Nat) (hf : f ≤ R.length) (hok : HOk R.length f (hfr f H)) (hN : (spF R f (hfr f H)).length ≤ N) (h1 : 3 ≤ n)
    (J Jx : Bk → List LnV → World → Prop) (hJ : AbS w0.heap.size J) (hJx : AbS w0.heap.size Jx) (hJl : LtS J) (hY : LnY lp N w0.heap.size J Jx) (S : Bk) (B1 B2 : Nat) (W : World) (h0w : Below w0.heap.size w0 W) (hS : ∀ k, S k → w0.heap.size ≤ k) (h0 : J S [] W)
    (hb1 : RawAt 3 W B1 #[.int .i64 (f : Int)]) (hb2 : RawAt 29 W B2 #[.pointer p, .pointer ip, .slice HA hn hc]) (hs1 : ¬ S B1) (hs2 : ¬ S B2) :
    CallsIn Fence.wide n Tryz.prog 54 #[.func (.yield lp) #[] #[], .pointer (some ⟨B1, 0, none⟩), .pointer (some ⟨B2, 0, none⟩)] W fun e W' =>
      (∃ v, e = .returned v) ∧ ∃ S', (∀ k, S' k → w0.heap.size ≤ k) ∧ ((∃ xs, xs.map lnS = linL R H o f ∧ J S' xs W') ∨ (∃ pre, pre.map lnS <+: linL R H o f ∧ Jx S' pre W')) := by
  have HSL := Lib.hid (hJl _ _ _ h0)
  have HL := Lib.hid hlen
  have HN := Lib.hid hN
  have HY := Lib.hid hY
  have HJ := Lib.hid hJ
  have HJX := Lib.hid hJx
  have HJL := Lib.hid hJl
  have HS := Lib.hid hS
  have H0W := Lib.hid h0w
  have H0 := Lib.hid h0
  have HOK := Lib.hid hok
  have HB1 := Lib.hid hb1
  have HB2 := Lib.hid hb2
  have NB1 := Lib.hid hs1
  have NB2 := Lib.hid hs2
  have HIN := Lib.hid hin
  have HCS := Lib.hid hcs
  have HRU := Lib.hid hru
  have HAA := Lib.hid hA
  have HCL := Lib.hid hcln
  have x1 : Below W.heap.size W ((W.alloc (.cells #[.func (.yield lp) #[] #[]] 108)).alloc (.cells #[.slice none 0 0, .int .i64 (f : Int), .int .i64 0] 40)) := ((Below.refl _ _).alloc (Nat.le_refl _) _).alloc (by simp) _
  have d1 := (hb1.below ((Below.refl _ W).alloc (Nat.le_refl _) (.cells #[.func (.yield lp) #[] #[]] 108)) hb1.lt).cell 0
  clear hru hA hlen hN hY hJ hJx hJl hS h0w h0 hok hb1 hb2 hs1 hs2 hcln hcs hin
  refine callsIn_of_wp_marks Tryz.func54 rfl trivial ?_ rfl
  simp only [Tryz.ntmps54, List.size_toArray, List.length_cons, List.length_nil, Nat.reduceAdd, Nat.reduceSub, Array.replicate_succ, Array.replicate_zero, List.push_toArray, List.append_toArray, List.nil_append, List.cons_append]
  have hmx : Tryz.prog.follows .mixedOrders = true := by kernel_rfl
  gi_wp2
  obtain ⟨W1, hW1⟩ : ∃ W1, W1 = ((W.alloc (.cells #[.func (.yield lp) #[] #[]] 108)).alloc (.cells #[.slice none 0 0, .int .i64 (f : Int), .int .i64 0] 40)) := ⟨_, rfl⟩
  rw [← hW1] at x1 ⊢
  have hR3 : RawAt 108 W1 W.heap.size #[.func (.yield lp) #[] #[]] := by rw [hW1]; exact (new2 W _ _ _ _).1
  have hR4 : RawAt 40 W1 (W.heap.size + 1) #[.slice none 0 0, .int .i64 (f : Int), .int .i64 0] := by rw [hW1]; exact (new2 W _ _ _ _).2.1
  have X1 := Lib.hid x1
  have R3 := Lib.hid hR3
  have R4 := Lib.hid hR4
  have HB1' := Lib.hid (HB1.out.below x1 HB1.out.lt)
  have HB2' := Lib.hid (HB2.out.below x1 HB2.out.lt)
  have H0W1 := Lib.hid (H0W.out.trans (x1.mono H0W.out.size))
  obtain ⟨I0, hI0⟩ : ∃ I0, I0 = iwithin f R.length o := ⟨_, rfl⟩
  have HI0 := Lib.hid hI0
  have MK : Hid (∀ V : World, Below W1.heap.size W1 V → (fun V : World => V.cell? ⟨B1, 0, none⟩ = some (.int .i64 (f : Int)) ∧ V.cell? ⟨B2, 1, none⟩ = some (.pointer ip)) V) := Lib.hid fun V h => ⟨(HB1'.out.below h HB1'.out.lt).cell 0, (HB2'.out.below h HB2'.out.lt).cell 1⟩
  have CL := Lib.hid fun (V : World) (hV : Below W1.heap.size W1 V) => HIN.out.len V (H0W1.out.trans (hV.mono H0W1.out.size))
  have CW := Lib.hid fun (V : World) (hV : Below W1.heap.size W1 V) => (by have := HIN.out.win V f R.length (H0W1.out.trans (hV.mono H0W1.out.size)); rwa [← hI0] at this : Calls Tryz.prog 55 #[.pointer ip, .int .i64 (f : Int), .int .i64 (R.length : Int)] V fun e w' => ∃ v, e = .returned v ∧ w'.ownsRow V.heap.size 63 5 v I0.length (kfl encI I0) ∧ Below V.heap.size V w')
  have hW0 : Below W1.heap.size W1 W1.drew := (Below.refl _ _).drew
  clear hW1 x1 hR3 hR4 d1 hI0
  refine wpIn_wide.2 ?_
  refine wp_mono (Q := fun e a2 w2 => e = .normal ∧ Hid (∃ (bi : Nat) (A : Option Addr) (c : Nat), a2 = { tmps := #[.func (.yield lp) #[] #[], .pointer (some ⟨B1, 0, none⟩), .pointer (some ⟨B2, 0, none⟩), .pointer (some ⟨W.heap.size, 0, none⟩), .pointer (some ⟨W.heap.size + 1, 0, none⟩), .pointer (some ⟨bi, 0, none⟩), undef, .int .i64 (f : Int), .agg #[.slice none 0 0, .int .i64 (f : Int), .int .i64 0], .pointer (some ⟨B2, 1, none⟩), .pointer ip, .int .i64 (f : Int), .pointer (some ⟨B2, 1, none⟩), .pointer ip, .int .i64 (R.length : Int), .slice A I0.length c, undef, undef, undef, undef, undef, undef, undef, undef, undef, undef, undef, undef, undef, undef, undef, undef, undef, undef, undef, undef, undef, undef, undef, undef, undef, undef, undef, undef, undef, undef, undef, undef, undef, undef, undef, undef, undef, undef, undef, undef, undef, undef, undef, undef, undef, undef, undef, undef, undef, undef, undef, undef, undef, undef, undef, undef, undef, undef, undef, undef, undef, undef, undef, undef, undef, undef], defers := [] } ∧ W1.heap.size ≤ bi ∧ Below W1.heap.size W1 w2 ∧ RawAt 22 w2 bi #[.slice A I0.length c] ∧ w2.ownsRow W1.heap.size 63 5 (.slice A I0.length c) I0.length (kfl encI I0))) ?first ?rest
  case first =>
    refine wp_region_noPanic ?_
    refine wp_region_held_drew (S := (fun V : World => V.cell? ⟨B1, 0, none⟩ = some (.int .i64 (f : Int)) ∧ V.cell? ⟨B2, 1, none⟩ = some (.pointer ip))) (by kernel_rfl) (MK.out _ hW0) (fun hHeld => ?_)
    refine wpAnyH_take (i := 0) (v := ?_) rfl (by kernel_rfl) (by kernel_rfl) (by kernel_rfl) (fun _ _ _ h => h) (Or.inl ⟨by rfl, ?_⟩) hHeld ?_
    rotate_left
    · intro w hSw
      (try dsimp only at hSw)
      go_simp
      try with_reducible rfl
    go_simp
    refine wpAnyH_take (i := 1) (v := ?_) rfl (by kernel_rfl) (by kernel_rfl) (by kernel_rfl) (fun _ _ _ h => h) (Or.inl ⟨by rfl, ?_⟩) hHeld ?_
    rotate_left
    · intro w hSw
      (try dsimp only at hSw)
      go_simp
      try with_reducible rfl
    go_simp
    refine wpAnyH_take (i := 2) (v := ?_) rfl (by kernel_rfl) (by kernel_rfl) (by kernel_rfl) (fun _ _ _ h => h) (Or.inl ⟨by rfl, ?_⟩) hHeld ?_
    rotate_left
    · intro w hSw
      (try dsimp only at hSw)
      go_simp
      try with_reducible rfl
    go_simp
    refine wpAnyH_take (i := 3) (v := ?_) rfl (by kernel_rfl) (by kernel_rfl) (by kernel_rfl) (fun _ _ _ h => h) (Or.inl ⟨by rfl, ?_⟩) hHeld ?_
    rotate_left
    · intro w hSw
      (try dsimp only at hSw)
      go_simp
      try with_reducible rfl
    go_simp
    refine wpAnyH_take (i := 4) (v := ?_) rfl (by kernel_rfl) (by kernel_rfl) (by kernel_rfl) (fun _ _ _ h => h) (Or.inl ⟨by rfl, ?_⟩) hHeld ?_
    rotate_left
    · intro w hSw
      (try dsimp only at hSw)
      go_simp
      try with_reducible rfl
    go_simp
    refine wpAnyH_ready (rs := [5, 7]) (by kernel_rfl) (by simp) ?_
    refine AllReadyH.cons rfl (fun K hK => ?_) (AllReadyH.cons rfl (fun K hK => ?_) AllReadyH.nil)
    · go_simp
      go_wp2_with (go_at_call 50; ((with_reducible refine (CL.out _ hW0).mono ?_); rintro e w3 ⟨rfl, hb3⟩; have hW3 := (hW0).trans (hb3.mono (hW0).size)))
      refine hK.out _ _ (MK.out _ hW3) (fun hHeld => ?_)
      clear hK K
      go_simp
      refine wpAnyH_ready (rs := [6, 7]) (by kernel_rfl) (by simp) ?_
      refine AllReadyH.cons rfl (fun K hK => ?_) (AllReadyH.cons rfl (fun K hK => ?_) AllReadyH.nil)
      · go_simp
        go_wp2_with (go_at_call 55; ((with_reducible refine (CW.out _ hW3).mono ?_); rintro e w4 ⟨v4, rfl, ho4, hb4⟩; obtain ⟨A4, c4, rfl⟩ := own_form ho4; have hW4 := (hW3).trans (hb4.mono (hW3).size)))
        refine hK.out _ _ (MK.out _ hW4) (fun hHeld => ?_)
        clear hK K
        go_simp
        refine wpAnyH_ready (rs := [7]) (by kernel_rfl) (by simp) ?_
        refine AllReadyH.cons rfl (fun K hK => ?_) ?_
        rotate_left
        · exact AllReadyH.nil
        go_simp
        go_wp2_with (fail)
        refine hK.out _ _ (MK.out _ (hW4.alloc hW4.size _)) (fun hHeld => ?_)
        clear hK K
        go_simp
        have hW5 : Below W1.heap.size W1 (w4.alloc (.cells #[.slice none 0 0] 22)) := hW4.alloc hW4.size _
        have rz5 : RawAt 22 (w4.alloc (.cells #[.slice none 0 0] 22)) w4.heap.size #[.slice none 0 0] := heap_alloc_new w4 _
        have z0 := rz5.cell 0
        have z1 := rz5.free 0
        refine wpAnyH_ready (rs := [8]) (by kernel_rfl) (by simp) ?_
        refine AllReadyH.cons rfl (fun K hK => ?_) ?_
        rotate_left
        · exact AllReadyH.nil
        go_simp
        go_wp2_with (fail)
        refine hK.out _ _ (MK.out _ (hW4.alloc hW4.size _)) (fun hHeld => ?_)
        clear hK K
        go_simp
        refine wpAnyH_done (by kernel_rfl) ?_ _
        refine NoPanic.normal ?_
        go_wp2_with fail
        refine Lib.hid ⟨w4.heap.size, A4, c4, ⟨rfl, rfl, rfl⟩, hW4.size, hW4.alloc hW4.size _, heap_alloc_new w4 _, ?_⟩
        refine (own_base ho4 hW3.size).alloc _
      · go_simp
        go_wp2_with (fail)
        refine hK.out _ _ (MK.out _ (hW3.alloc hW3.size _)) (fun hHeld => ?_)
        clear hK K
        go_simp
        have hWb : Below W1.heap.size W1 (w3.alloc (.cells #[.slice none 0 0] 22)) := hW3.alloc hW3.size _
        have rzb : RawAt 22 (w3.alloc (.cells #[.slice none 0 0] 22)) w3.heap.size #[.slice none 0 0] := heap_alloc_new w3 _
        refine wpAnyH_ready (rs := [6]) (by kernel_rfl) (by simp) ?_
        refine AllReadyH.cons rfl (fun K hK => ?_) ?_
        rotate_left
        · exact AllReadyH.nil
        go_simp
        go_wp2_with (go_at_call 55; ((with_reducible refine (CW.out _ hWb).mono ?_); rintro e w4 ⟨v4, rfl, ho4, hb4⟩; obtain ⟨A4, c4, rfl⟩ := own_form ho4; have hW4 := (hWb).trans (hb4.mono (hWb).size); have rz4 := rzb.below hb4 rzb.lt; have z0 := rz4.cell 0; have z1 := rz4.free 0))
        refine hK.out _ _ (MK.out _ hW4) (fun hHeld => ?_)
        clear hK K
        go_simp
        refine wpAnyH_ready (rs := [8]) (by kernel_rfl) (by simp) ?_
        refine AllReadyH.cons rfl (fun K hK => ?_) ?_
        rotate_left
        · exact AllReadyH.nil
        go_simp
        go_wp2_with (fail)
        refine hK.out _ _ (MK.out _ (Below.setCell hW4 (p := ⟨_, 0, none⟩) (by first | exact Nat.le_refl _ | exact hW4.size | exact hW3.size) _)) (fun hHeld => ?_)
        clear hK K
        go_simp
        refine wpAnyH_done (by kernel_rfl) ?_ _
        refine NoPanic.normal ?_
        go_wp2_with fail
        refine Lib.hid ⟨w3.heap.size, A4, c4, ⟨rfl, rfl, rfl⟩, hW3.size, Below.setCell hW4 (p := ⟨_, 0, none⟩) hW3.size _, rz4.set_ 0 _, ?_⟩
        refine own_same (own_base ho4 hWb.size) (fun k hk => Below.heap_setCell _ _ _ _ (fun e => ?_))
        have h1 := (own_lt ho4 hk).1
        have h2 := rzb.lt
        simp only at e
        omega
    · go_simp
      go_wp2_with (fail)
      refine hK.out _ _ (MK.out _ ((Below.refl _ _).alloc (Nat.le_refl _) _).drew) (fun hHeld => ?_)
      clear hK K
      go_simp
      have hWa : Below W1.heap.size W1 (W1.alloc (.cells #[.slice none 0 0] 22)).drew := ((Below.refl _ _).alloc (Nat.le_refl _) _).drew
      have rz : RawAt 22 (W1.alloc (.cells #[.slice none 0 0] 22)).drew W1.heap.size #[.slice none 0 0] := heap_alloc_new W1 (.cells #[.slice none 0 0] 22)
      refine wpAnyH_ready (rs := [5]) (by kernel_rfl) (by simp) ?_
      refine AllReadyH.cons rfl (fun K hK => ?_) ?_
      rotate_left
      · exact AllReadyH.nil
      go_simp
      go_wp2_with (go_at_call 50; ((with_reducible refine (CL.out _ hWa).mono ?_); rintro e w3 ⟨rfl, hb3⟩; have hW3 := (hWa).trans (hb3.mono (hWa).size)))
      refine hK.out _ _ (MK.out _ hW3) (fun hHeld => ?_)
      clear hK K
      go_simp
      have rz3 : RawAt 22 w3 W1.heap.size #[.slice none 0 0] := rz.below hb3 rz.lt
      refine wpAnyH_ready (rs := [6]) (by kernel_rfl) (by simp) ?_
      refine AllReadyH.cons rfl (fun K hK => ?_) ?_
      rotate_left
      · exact AllReadyH.nil
      go_simp
      go_wp2_with (go_at_call 55; ((with_reducible refine (CW.out _ hW3).mono ?_); rintro e w4 ⟨v4, rfl, ho4, hb4⟩; obtain ⟨A4, c4, rfl⟩ := own_form ho4; have hW4 := (hW3).trans (hb4.mono (hW3).size); have rz4 := rz3.below hb4 rz3.lt; have z0 := rz4.cell 0; have z1 := rz4.free 0))
      refine hK.out _ _ (MK.out _ hW4) (fun hHeld => ?_)
      clear hK K
      go_simp
      refine wpAnyH_ready (rs := [8]) (by kernel_rfl) (by simp) ?_
      refine AllReadyH.cons rfl (fun K hK => ?_) ?_
      rotate_left
      · exact AllReadyH.nil
      go_simp
      go_wp2_with (fail)
      refine hK.out _ _ (MK.out _ (Below.setCell hW4 (p := ⟨_, 0, none⟩) (by first | exact Nat.le_refl _ | exact hW4.size | exact hW3.size) _)) (fun hHeld => ?_)
      clear hK K
      go_simp
      refine wpAnyH_done (by kernel_rfl) ?_ _
      refine NoPanic.normal ?_
      go_wp2_with fail
      refine Lib.hid ⟨W1.heap.size, A4, c4, ⟨rfl, rfl, rfl⟩, hW0.size, Below.setCell hW4 (p := ⟨_, 0, none⟩) hW0.size _, rz4.set_ 0 _, ?_⟩
      refine own_same (own_base ho4 hW3.size) (fun k hk => Below.heap_setCell _ _ _ _ (fun e => ?_))
      have h1 := (own_lt ho4 hk).1
      have h2 := rz3.lt
      simp only at e
      omega
  case rest =>
    rintro e a2 w2 ⟨rfl, ⟨bi, A, c, rfl, hbi, hb2, hri, hoi⟩⟩
    have RI := Lib.hid hri
    have OI := Lib.hid hoi
    have X2 := Lib.hid hb2
    have HBI := Lib.hid hbi
    have HB1'' := Lib.hid (HB1'.out.below hb2 HB1'.out.lt)
    have HB2'' := Lib.hid (HB2'.out.below hb2 HB2'.out.lt)
    have R3' := Lib.hid (R3.out.below hb2 R3.out.lt)
    have R4' := Lib.hid (R4.out.below hb2 R4.out.lt)
    have e0 := HB2''.out.cell 0
    have e1 := HB2''.out.cell 1
    have e2 := HB2''.out.cell 2
    have e3 := HB1''.out.cell 0
    clear hri hoi hb2 hbi hW0 MK CL CW
    gi_wp2_with fail
    refine ⟨trivial, fun h => (by cases h), ?_⟩
    refine (soSpots_in _ _ _ _ _ _ _ _).mono ?_
    rintro e w3 ⟨rfl, rfl⟩
    gi_wp2_with fail
    have x3 : Below w2.heap.size w2 ((w2.alloc (.cells #[.pointer p, .pointer ip, .slice HA hn hc] 29)).alloc (.cells #[.int .i64 (f : Int)] 3)) := ((Below.refl _ _).alloc (Nat.le_refl _) _).alloc (by simp) _
    have q1 : RawAt 29 ((w2.alloc (.cells #[.pointer p, .pointer ip, .slice HA hn hc] 29)).alloc (.cells #[.int .i64 (f : Int)] 3)) w2.heap.size #[.pointer p, .pointer ip, .slice HA hn hc] := (new2 w2 _ _ _ _).1
    have q2 : RawAt 3 ((w2.alloc (.cells #[.pointer p, .pointer ip, .slice HA hn hc] 29)).alloc (.cells #[.int .i64 (f : Int)] 3)) (w2.heap.size + 1) #[.int .i64 (f : Int)] := (new2 w2 _ _ _ _).2.1
    have hsz3 : ((w2.alloc (.cells #[.pointer p, .pointer ip, .slice HA hn hc] 29)).alloc (.cells #[.int .i64 (f : Int)] 3)).heap.size = w2.heap.size + 2 := by simp
    obtain ⟨w3, hw3⟩ : ∃ w3, w3 = ((w2.alloc (.cells #[.pointer p, .pointer ip, .slice HA hn hc] 29)).alloc (.cells #[.int .i64 (f : Int)] 3)) := ⟨_, rfl⟩
    rw [← hw3] at x3 q1 q2 hsz3 ⊢
    clear hw3
    have XW3 : Hid (Below W.heap.size W w3) := Lib.hid ((X1.out.trans (X2.out.mono X1.out.size)).trans (x3.mono (Nat.le_trans X1.out.size X2.out.size)))
    have H0W3 := Lib.hid (H0W.out.trans (XW3.out.mono H0W.out.size))
    have hw1 := X1.out.size
    have hw2 := X2.out.size
    have hwl : W.heap.size + 1 < W1.heap.size := R4.out.lt
    have hbl : bi < w2.heap.size := RI.out.lt
    have hbg := HBI.out
    have hSl := HSL.out
    have hjs : J S [] w3 := HJ.out.below HJL.out H0.out XW3.out H0W.out.size
    obtain ⟨T0, hT0⟩ : ∃ T0 : Bk, T0 = fun k => k = W.heap.size + 1 ∨ k = bi ∨ k = W.heap.size ∨ (Value.slice A I0.length c).ownBlock = some k := ⟨_, rfl⟩
    have hT0l : ∀ k, T0 k → W.heap.size ≤ k ∧ k < w2.heap.size := by
      rw [hT0]
      rintro k (rfl | rfl | rfl | h)
      · omega
      · omega
      · omega
      · have := own_lt OI.out h; omega
    have o3 := own_base (own_below OI.out x3) (Nat.zero_le _)
    have hord : I0.Pairwise fun a b => a.pl ≤ b.pl := by rw [HI0.out]; exact List.Pairwise.filter _ HIN.out.ord
    have htx : ∀ a ∈ I0, a.tx.size ≤ 1000 := fun a ha => HIN.out.tx a (by rw [HI0.out] at ha; exact (List.mem_filter.1 ha).1)
    have hfew : I0.length ≤ 10000 := by rw [HI0.out]; exact Nat.le_trans (iwithin_len _ _ _) HIN.out.few
    obtain ⟨A9, c9, e9, hrx, _, hcx⟩ := rows_of_own (enc := encI) (k := 5) (fun _ => rfl) (by omega) o3
    injection e9 with e9 e10 e11
    subst e9 e11
    have hI3 : LnI w0 J I0 f lp (W.heap.size + 1) bi W.heap.size (fun k => S k ∨ T0 k) [] w3 :=
      ⟨S, T0, [], .slice none 0 0, [], f, I0, A, c, ⟨H0W3.out, fun k hk hs => by have := hT0l k hk; have := hSl k hs; omega, HS.out, fun k h => Nat.le_trans H0W.out.size (hT0l k h).1, fun k hk => by have := hT0l k hk; omega, hjs, R4'.out.below x3 R4'.out.lt,
        RI.out.below x3 RI.out.lt, hrx, hcx, fun a e => ⟨by rw [hT0]; exact .inr (.inr (.inr (by rw [e]; rfl))), (own_lt o3 (by rw [e]; rfl)).2.2⟩, R3'.out.below x3 R3'.out.lt, PrAt.nil _ _, by rw [hT0]; exact ⟨.inl rfl, .inr (.inl rfl), .inr (.inr (.inl rfl))⟩, hord, htx⟩, fun k => Iff.rfl, by simp, fun s hs => (by cases hs), Nat.le_refl _, fun Y => rfl⟩
    have HFEW := Lib.hid hfew
    have HI3 := Lib.hid hI3
    have HT0 := Lib.hid hT0l
    rw [hT0] at HI3 HT0
    clear hI3 hT0 hT0l hjs o3 hord htx hrx hcx hfew e10
    obtain ⟨SP, hSP⟩ : ∃ SP, SP = spF R f (hfr f H) := ⟨_, rfl⟩
    have HSP := Lib.hid hSP
    have HSPL : Hid (SP.length ≤ 120001) := Lib.hid (by
      have h1 := spF_len R HOK.out
      have h2 : (hfr f H).length ≤ H.length := List.length_filter_le _ _
      have h3 := HL.out
      rw [hSP]; omega)
    have HNN : Hid (SP.length ≤ N) := Lib.hid (by rw [hSP]; exact HN.out)
    have HLL : Hid (linesP SP [] f (I0.map vI) = linL R H o f) := Lib.hid (by rw [hSP, HI0.out]; rfl)
    clear hSP
    have hseq : SeqSep Fence.wide (n - 1) Tryz.prog 91 #[.pointer (some ⟨w2.heap.size + 1, 0, none⟩), .pointer (some ⟨w2.heap.size, 0, none⟩)] (fun x : Spot => #[encSp x]) (fun H x W => x.has ≤ 2 ∧ x.at_ ≤ 20000) w0.heap.size (fun k => k = w2.heap.size + 1 ∨ k = w2.heap.size) (fun ys => ys = SP) (fun pre => pre <+: SP) SP.length w3 := by
      intro l J' Jx' S0 V hV hJ' hJx' hJl' hY' h0' hS0'
      have := soSpots1_in (n - 1) l SP.length p ip HA hn hc R H w0 HCL.out hmost HCS.out HRU.out HAA.out HL.out hn1 f hf HOK.out (by rw [HSP.out]; exact Nat.le_refl _) J' Jx' hJ' hJl' (fun S pre x V hj hl hn0 hx2 => by
        obtain ⟨fn, ts, ac, bc, hy, hR⟩ := anyDepthY rfl 0 (hY' S pre x (fun _ => False) V hj hl hx2 (fun k h => h.elim))
        exact ⟨fn, ts, ac, bc, hy, hR.mono fun e w' hh => hh.imp (fun ⟨a, b, S', c, d⟩ => ⟨a, b, S', fun k hk => (c k hk).elim .inl (fun g => g.elim (fun g => g.elim) .inr), d⟩) (fun ⟨a, b, S', c, d⟩ => ⟨a, b, S', fun k hk => (c k hk).elim .inl (fun g => g.elim (fun g => g.elim) .inr), d⟩)⟩) S0 (w2.heap.size + 1) w2.heap.size V (H0W3.out.trans (hV.mono H0W3.out.size)) (fun k hk => (hS0' k hk).1) h0' (q2.below hV q2.lt) (q1.below hV q1.lt) (fun h => (hS0' _ h).2 (.inl rfl)) (fun h => (hS0' _ h).2 (.inr rfl))
      rw [← HSP.out] at this
      refine this.mono ?_
      rintro e W' ⟨hv, hk, S', hs', hh⟩
      refine ⟨hv, S', fun k hk => (hs' k hk).elim (fun g => (hS0' k g).1) (fun g => Nat.le_trans (Nat.le_trans H0W3.out.size hV.size) g), ?_⟩
      rcases hh with hh | ⟨q, hq, hh⟩
      · exact .inl ⟨SP, rfl, hh⟩
      · exact .inr ⟨q, hq, hh⟩
    have HSEQ := Lib.hid hseq
    clear hseq q1 q2 x3
    refine wpIn_rangeFunc_sep rfl (by omega) (gf := 91) (lb := #[.pointer (some ⟨w2.heap.size + 1, 0, none⟩), .pointer (some ⟨w2.heap.size, 0, none⟩)]) rfl trivial (enters_of Tryz.func91 (by kernel_rfl) rfl)
      HSEQ.out (fun _ _ _ _ h _ => h) H0W3.out.size (by rintro k (rfl | rfl) <;> omega) (fun _ => rfl)
      (fun S' pre V => LnI w0 J I0 f lp (W.heap.size + 1) bi W.heap.size S' pre V)
      (LnIx w0 Jx I0 f)
      (by rintro S' s V V' ⟨So, T, preO, v, ps, fr, L, X, d, h, hss, hr⟩ hs; exact ⟨So, T, preO, v, ps, fr, L, X, d, h.same HJ.out (hs.mono fun k hk => (hss k).2 hk), hss, hr⟩)
      (by rintro S' s V ⟨So, T, preO, v, ps, fr, L, X, d, h, hss, hr⟩ k hk; exact h.ltS HJL.out k ((hss k).1 hk))
      (by rintro c' S' s V V' ⟨hc, So, preO, a1, a2, a3, a4⟩ hs; exact ⟨hc, So, preO, a1, a2, HJX.out So preO V V' a3 (hs.mono a1), a4⟩)
      (fun k => S k ∨ (k = W.heap.size + 1 ∨ k = bi ∨ k = W.heap.size ∨ (Value.slice A I0.length c).ownBlock = some k)) ?s0 ?h0
      (fun b x a' V => ∃ Bx, b ≤ Bx ∧ RawAt 113 V Bx #[.int .i64 (x.at_ : Int), .int .i64 (x.has : Int), .int .i32 x.own] ∧ a' = { tmps := #[.func (.yield lp) #[] #[], .pointer (some ⟨B1, 0, none⟩), .pointer (some ⟨B2, 0, none⟩), .pointer (some ⟨W.heap.size, 0, none⟩), .pointer (some ⟨W.heap.size + 1, 0, none⟩), .pointer (some ⟨bi, 0, none⟩), .pointer (some ⟨Bx, 0, none⟩), .int .i64 (f : Int), .agg #[.slice none 0 0, .int .i64 (f : Int), .int .i64 0], .pointer (some ⟨B2, 1, none⟩), .pointer ip, .int .i64 (f : Int), .pointer (some ⟨B2, 1, none⟩), .pointer ip, .int .i64 (R.length : Int), .slice A I0.length c, .agg #[.pointer p, .pointer ip, .slice HA hn hc], .int .i64 (f : Int), .func (.func 91) #[] #[.pointer (some ⟨w2.heap.size + 1, 0, none⟩), .pointer (some ⟨w2.heap.size, 0, none⟩)], encSp x, undef, undef, undef, undef, undef, undef, undef, undef, undef, undef, undef, undef, undef, undef, undef, undef, undef, undef, undef, undef, undef, undef, undef, undef, undef, undef, undef, undef, undef, undef, undef, undef, undef, undef, undef, undef, undef, undef, undef, undef, undef, undef, undef, undef, undef, undef, undef, undef, undef, undef, undef, undef, undef, undef, undef, undef, undef, undef, undef, undef, undef, undef], defers := [] }) ?hax ?assign ?body ?done ?stop
    case s0 =>
      intro k hk
      have h2 : w0.heap.size ≤ k ∧ k < w2.heap.size := by
        rcases hk with hk | hk
        · exact ⟨HS.out k hk, by have := hSl k hk; omega⟩
        · exact ⟨Nat.le_trans H0W.out.size (HT0.out k hk).1, (HT0.out k hk).2⟩
      exact ⟨h2.1, fun e => by rcases e with e | e <;> omega⟩
    case h0 => exact HI3.out
    case hax =>
      rintro b x a' V V' ⟨Bx, g1, g2, g3⟩ hk
      exact ⟨Bx, g1, hk _ _ g2 rfl, g3⟩
    case assign =>
      intro l x V K hK
      unfold encSp
      gi_wp2
      exact hK _ _ ((Below.refl _ _).alloc (Nat.le_refl _) _) ⟨V.heap.size, Nat.le_refl _, heap_alloc_new V _, rfl⟩
    case done =>
      rintro D S' xs V hD hnD rfl ⟨So, T, preO, v, ps, fr, L, X, d, h, hss, _, _, _, heq⟩ hK
      have hJ9 : J So preO (V.putObj D (.deferred none)) := HJ.out So preO V _ h.out (SameS.put _ _ _ (Nat.le_trans H0W3.out.size hD) (fun g => hnD ((hss D).2 (.inl g))))
      have hE : preO.map lnS = linL R H o f := by
        have := heq []
        rw [List.append_nil, HLL.out] at this
        rw [← this]
        simp [linesP]
      have hG : ∀ k, So k → w0.heap.size ≤ k := h.geS
      have HJ9 := Lib.hid hJ9
      have HE := Lib.hid hE
      clear h hE hJ9 heq
      gi_wp2
      refine ⟨by simp, .inl ⟨_, _, rfl, run_takeDeferred hK, ?_⟩⟩
      exact ⟨_, results_none rfl _ _ _, ⟨_, rfl⟩, So, hG, .inl ⟨preO, HE.out, HJ9.out⟩⟩
    case stop =>
      rintro D c' S' pre V hD hnD hpre ⟨rfl, So, preO, a1, a2, a3, a4⟩ hK
      have hJ9 : Jx So preO (V.putObj D (.deferred none)) := HJX.out So preO V _ a3 (SameS.put _ _ _ (Nat.le_trans H0W3.out.size hD) (fun g => hnD (a1 D g)))
      have hE : preO.map lnS <+: linL R H o f := by
        obtain ⟨X, hX⟩ := hpre
        have := a4 X
        rwa [hX, HLL.out] at this
      have HJ9 := Lib.hid hJ9
      have HE := Lib.hid hE
      clear hE hJ9 a3 a4
      gi_wp2
      refine ⟨by simp, .inl ⟨_, _, rfl, run_takeDeferred hK, ?_⟩⟩
      exact ⟨_, results_none rfl _ _ _, ⟨_, rfl⟩, So, a2, .inr ⟨preO, HE.out, HJ9.out⟩⟩
    case body =>
      rintro l S' pre x H' b a' V hb0 hbV ⟨So, T, preO, v, ps, fr, L, X, d, h, hss, hlc, hrn, hpl, heq⟩ hlen ⟨hx2, hxa⟩ hSb _ ⟨Bx, hBx, rx, rfl⟩
      obtain ⟨xa, xh, xo⟩ := x
      unfold encSp
      simp only at rx hx2 hxa ⊢
      have hTb : ∀ k, T k → k < b := fun k hk => (hSb k ((hss k).2 (.inr hk))).1
      have hBxV := rx.lt
      have hfw := HFEW.out
      have hspl := HSPL.out
      have H := Lib.hid h
      have HSS := Lib.hid hss
      have HEQ := Lib.hid heq
      have HSB := Lib.hid hSb
      have HTB := Lib.hid hTb
      have HRN := Lib.hid hrn
      have RX := Lib.hid rx
      obtain ⟨PP, hPP⟩ : ∃ PP, PP = popI xa (ps.map ptP) (L.map vI) := ⟨_, rfl⟩
      have HPP := Lib.hid hPP
      clear h hss heq hSb hTb hrn rx hPP
      gi_wp2_with fail
      gi_loopw [20] (fun p20 wr => ∃ (T1 : Bk) (v1 : Value) (ps1 : List PtV) (L1 : List In) (X1 : Option Addr) (d1 : Nat), Hid (LnC w0 J lp (W.heap.size + 1) bi W.heap.size wr So T1 preO v1 ps1 fr 0 L1 X1 d1) ∧ Hid (KeptS S' V wr) ∧ Hid (∀ k, T1 k → T k ∨ V.heap.size ≤ k) ∧ Hid (RawAt 113 wr Bx #[.int .i64 (xa : Int), .int .i64 (xh : Int), .int .i32 xo]) ∧ Hid (popI xa (ps1.map ptP) (L1.map vI) = PP) ∧ ps1.length + L1.length ≤ pre.length + I0.length ∧ Hid (∀ s ∈ ps1, s.n ≤ pre.length + 1000))
        (fun _ wr => bxLen wr bi)
      case atStart => exact ⟨T, v, ps, L, X, d, H, Lib.hid (KeptS.refl _ _), Lib.hid (fun k h => .inl h), RX, Lib.hid HPP.out.symm, hlc, HRN⟩
      case round =>
        obtain ⟨T1, v1, ps1, L1, X1, d1, HC, HK, HT1, RX1, HPO, hlc1, HRN1⟩ := hrel
        have hVw : V.heap.size ≤ wr.heap.size := HK.out.zero.size
        have hnBx : ¬ T1 Bx := fun g => (HT1.out _ g).elim (fun g => by have := HTB.out _ g; omega) (fun g => by omega)
        cases L1 with
        | nil =>
          have MK0 : Hid (∀ U : World, Below wr.heap.size wr U → (fun U : World => U.cell? ⟨bi, 0, none⟩ = some (.slice X1 0 d1)) U) := Lib.hid fun U hU => (HC.out.bi.below hU HC.out.bi.lt).cell 0
          have hd0 : Below wr.heap.size wr wr.drew := (Below.refl _ _).drew
          gi_wp2_with fail
          refine wpIn_region_heldW (S := (fun U : World => U.cell? ⟨bi, 0, none⟩ = some (.slice X1 0 d1))) (by kernel_rfl) (by rfl) (MK0.out _ hd0) (fun hHeld => ?_)
          refine wpAnyH_take (i := 0) (v := ?_) rfl (by kernel_rfl) (by kernel_rfl) (by kernel_rfl) (fun _ _ _ h => h) (Or.inl ⟨by rfl, ?_⟩) hHeld ?_
          rotate_left
          · intro w hSw
            (try dsimp only at hSw)
            go_simp
            try with_reducible rfl
          go_simp
          refine wpAnyH_take (i := 1) (v := ?_) rfl (by kernel_rfl) (by kernel_rfl) (by kernel_rfl) (fun _ _ _ h => h) (Or.inl ⟨by rfl, ?_⟩) hHeld ?_
          rotate_left
          · intro w hSw
            (try dsimp only at hSw)
            go_simp
            try with_reducible rfl
          go_simp
          refine wpAnyH_take (i := 2) (v := ?_) rfl (by kernel_rfl) (by kernel_rfl) (by kernel_rfl) (fun _ _ _ h => h) (Or.inl ⟨by rfl, ?_⟩) hHeld ?_
          rotate_left
          · intro w hSw
            (try dsimp only at hSw)
            go_simp
            try with_reducible rfl
          go_simp
          refine wpAnyH_take (i := 3) (v := ?_) rfl (by kernel_rfl) (by kernel_rfl) (by kernel_rfl) (fun _ _ _ h => h) (Or.inl ⟨by rfl, ?_⟩) hHeld ?_
          rotate_left
          · intro w hSw
            (try dsimp only at hSw)
            go_simp
            try with_reducible rfl
          go_simp
          refine wpAnyH_take (i := 4) (v := undef) rfl (by kernel_rfl) (by kernel_rfl) (by kernel_rfl) (fun _ _ _ h => h) (Or.inr ⟨by rfl, rfl⟩) hHeld ?_
          go_simp
          refine wpAnyH_take (i := 5) (v := undef) rfl (by kernel_rfl) (by kernel_rfl) (by kernel_rfl) (fun _ _ _ h => h) (Or.inr ⟨by rfl, rfl⟩) hHeld ?_
          go_simp
          refine wpAnyH_take (i := 6) (v := undef) rfl (by kernel_rfl) (by kernel_rfl) (by kernel_rfl) (fun _ _ _ h => h) (Or.inr ⟨by rfl, rfl⟩) hHeld ?_
          go_simp
          refine wpAnyH_take (i := 7) (v := undef) rfl (by kernel_rfl) (by kernel_rfl) (by kernel_rfl) (fun _ _ _ h => h) (Or.inr ⟨by rfl, rfl⟩) hHeld ?_
          go_simp
          refine wpAnyH_take (i := 8) (v := undef) rfl (by kernel_rfl) (by kernel_rfl) (by kernel_rfl) (fun _ _ _ h => h) (Or.inr ⟨by rfl, rfl⟩) hHeld ?_
          go_simp
          refine wpAnyH_take (i := 9) (v := undef) rfl (by kernel_rfl) (by kernel_rfl) (by kernel_rfl) (fun _ _ _ h => h) (Or.inr ⟨by rfl, rfl⟩) hHeld ?_
          go_simp
          refine wpAnyH_take (i := 10) (v := undef) rfl (by kernel_rfl) (by kernel_rfl) (by kernel_rfl) (fun _ _ _ h => h) (Or.inr ⟨by rfl, rfl⟩) hHeld ?_
          go_simp
          refine wpAnyH_take (i := 11) (v := ?_) rfl (by kernel_rfl) (by kernel_rfl) (by kernel_rfl) (fun _ _ _ h => h) (Or.inl ⟨by rfl, ?_⟩) hHeld ?_
          rotate_left
          · intro w hSw
            (try dsimp only at hSw)
            go_simp
            try with_reducible rfl
          go_simp
          refine wpAnyH_done (by kernel_rfl) ?_ _
          refine QN.normal ?_
          have HC9 := Lib.hid (HC.out.next HJ.out HJL.out hd0)
          have HK9 : Hid (KeptS S' V wr.drew) := Lib.hid (HK.out.trans (KeptS.of_below (S := S') hd0) (fun k h => .inl h))
          have RX9 := Lib.hid (RX1.out.below hd0 RX1.out.lt)
          have HP9 : Hid ((ps1.map ptP, ([] : List In).map vI) = PP) := HPO
          clear HC HK RX1 HPO MK0 hd0
          obtain ⟨we, hwe⟩ : ∃ we, we = wr.drew := ⟨_, rfl⟩
          rw [← hwe] at HC9 HK9 RX9 ⊢
          clear hwe
          have b0 := RX9.out.cell 0
          have b1 := RX9.out.cell 1
          have b2 := RX9.out.cell 2
          have c0 := HC9.out.box.cell 0
          have c1 := HC9.out.box.cell 1
          have c2 := HC9.out.box.cell 2
          have f0 := HC9.out.box.free 0
          have f1 := HC9.out.box.free 1
          have f2 := HC9.out.box.free 2
          have HPQ := Lib.hid fun (Y : List Spot) => linesP_pop (xh := xh) (xo := xo) (f := fr) (List.Pairwise.map vI (fun _ _ h => h) H.out.ord) (HP9.out.trans HPP.out) Y
          have HSL1 := Lib.hid (HC9.out.ltS HJL.out)
          have hVe : V.heap.size ≤ we.heap.size := HK9.out.zero.size
          have HST : Hid (∀ k, T1 k → S' k ∨ V.heap.size ≤ k) := Lib.hid fun k g => (HT1.out k g).imp (fun g => (HSS.out k).2 (.inr g)) id
          have HSO : Hid (∀ k, So k → S' k) := Lib.hid fun k g => (HSS.out k).2 (.inl g)
          have HBX := Lib.hid HC9.out.box
          have HAP := Lib.hid HC9.out.apart.1
          rcases (show xh = 0 ∨ xh = 1 ∨ xh = 2 by omega) with hx | hx | hx
          · subst hx
            have HPY : Hid (∀ Y, preO.map lnS ++ linesP Y (plP (ps1.map ptP) xa xo) fr (_) = linesP ((pre ++ [⟨xa, 0, xo⟩]) ++ Y) [] f (I0.map vI)) := Lib.hid fun Y => by have := HEQ.out (⟨xa, 0, xo⟩ :: Y); rw [HPQ.out, if_pos rfl] at this; rw [this, List.append_assoc]; rfl
            clear HPQ HEQ
            gi_wp2_with fail
            refine ⟨trivial, fun h => (by cases h), ?_⟩
            refine (CallsIn.inRound l (callsIn_wide.2 (soPlain_any T1 v1 ps1 xa _ xo we HC9.out.pr (by omega) (fun s hs => by have := HRN1.out s hs; omega)))).mono ?_
            rintro e w5 ⟨v5, ps5, rfl, hk5, hp5, hm5, hl5, hn5⟩
            obtain ⟨hC5, hK5⟩ := HC9.out.parts HJ.out HJL.out hk5 hp5
            have hbx5 : RawAt 40 w5 (W.heap.size + 1) #[v1, .int .i64 (fr : Int), .int .i64 0] := (hk5.kept _ HBX.out.lt HAP.out).trans HBX.out
            have g0 := hbx5.cell 0
            have g1 := hbx5.free 0
            obtain ⟨A5, c5, rfl⟩ := hp5.len
            have HC5 := Lib.hid hC5
            have HK5 := Lib.hid hK5
            have HM5 := Lib.hid hm5
            have HN5 := Lib.hid (hn5 _ HRN1.out)
            clear hC5 hK5 hk5 hp5 hm5 hbx5 hn5 b0 b1 b2 c0 c1 c2 f0 f1 f2
            gi_wp2
            refine ⟨HK9.out.trans HK5.out HST.out, fun k => So k ∨ (T1 k ∨ (we.heap.size ≤ k ∧ k < w5.heap.size)), fun k g => ?_, So, _, preO, _, ps5, fr, _, _, _, HC5.out, fun k => Iff.rfl, ?_, fun s hs => ?_, ?_, fun Y => ?_⟩
            · rcases g with g | g | ⟨g, _⟩
              · exact .inl (HSO.out k g)
              · exact (HST.out k g).imp id .inr
              · exact .inr (.inr (by omega))
            · rw [List.length_append, List.length_singleton]; omega
            · have := HN5.out s hs; rw [List.length_append, List.length_singleton]; omega
            · rw [List.length_append, List.length_singleton]; omega
            · rw [HM5.out]; exact HPY.out Y
          · subst hx
            have HPY : Hid (∀ Y, preO.map lnS ++ linesP Y (ps1.map ptP ++ [⟨3, xa, []⟩]) fr (_) = linesP ((pre ++ [⟨xa, 1, xo⟩]) ++ Y) [] f (I0.map vI)) := Lib.hid fun Y => by have := HEQ.out (⟨xa, 1, xo⟩ :: Y); rw [HPQ.out, if_neg (by decide), if_pos rfl] at this; rw [this, List.append_assoc]; rfl
            have VV := Lib.hid (HC9.out.virt HJ.out HJL.out (w4 := we) (kd := 3) (pl := (xa : Int)) (A4 := none) (n4 := 0) (c4 := 0) (rs := []) (Below.refl _ _) (World.ownsRow_nil _ _ _ _))
            obtain ⟨A1, c1v, rfl⟩ := HC9.out.pr.len
            clear HPQ HEQ
            gi_wp2_with (gi_at_builtin; refine wpListIn_appK (enc := ptcs) part_slt ptcs_len (by omega) rfl (.tmp 62) (.tmp 66) rfl rfl VV.out.1 (some ⟨we.heap.size, 0, none⟩) 1 1 [⟨3, (xa : Int), none, 0, 0, []⟩] rfl VV.out.2.1 ⟨Nat.le_refl _, fun h => by cases h⟩ rfl (kfl_one' ptcs_one _) (by simp only [maxLen]; omega) (by omega) (Nat.zero_le _) ?_; intro v6 w6 hown6 hg6 hn6; obtain ⟨hk6, hC6, hK6⟩ := VV.out.2.2 v6 w6 hown6 hg6 hn6; have hbx6 := RawAt.cell (t := 40) ((hk6.kept _ HBX.out.lt HAP.out).trans HBX.out) 0; have hbf6 := RawAt.free (t := 40) ((hk6.kept _ HBX.out.lt HAP.out).trans HBX.out) 0; obtain ⟨A6, c6, rfl⟩ := own_form hown6; have HC6 := Lib.hid hC6; have HK6 := Lib.hid hK6; clear hown6 hg6 hn6 hk6 hC6 hK6)
            refine ⟨HK9.out.trans HK6.out HST.out, fun k => So k ∨ (T1 k ∨ (we.heap.size ≤ k ∧ k < w6.heap.size)), fun k g => ?_, So, _, preO, _, _, fr, _, _, _, HC6.out, fun k => Iff.rfl, ?_, fun s hs => ?_, ?_, fun Y => ?_⟩
            · rcases g with g | g | ⟨g, _⟩
              · exact .inl (HSO.out k g)
              · exact (HST.out k g).imp id .inr
              · exact .inr (.inr (by omega))
            · rw [List.length_append, List.length_append, List.length_singleton, List.length_singleton]; omega
            · rw [List.length_append, List.length_singleton]
              rcases List.mem_append.1 hs with hs | hs
              · have := HRN1.out s hs; omega
              · rw [List.mem_singleton.1 hs]; show 0 ≤ _; omega
            · rw [List.length_append, List.length_singleton]; omega
            · rw [List.map_append]; exact HPY.out Y
          · subst hx
            have HPY : Hid (∀ Y, preO.map lnS ++ ⟨ps1.map ptP, fr, xa⟩ :: linesP Y [] (xa + 1) (_) = linesP ((pre ++ [⟨xa, 2, xo⟩]) ++ Y) [] f (I0.map vI)) := Lib.hid fun Y => by have := HEQ.out (⟨xa, 2, xo⟩ :: Y); rw [HPQ.out, if_neg (by decide), if_neg (by decide)] at this; rw [this, List.append_assoc]; rfl
            obtain ⟨A1, c1v, rfl⟩ := HC9.out.pr.len
            obtain ⟨e1, e2, e3, e4, e5, e6, e7⟩ := HC9.out.emit HJ.out HJL.out xa
            have y0 := e5.cell 0
            have l0 := e4.cell 0
            have l1 := e4.cell 1
            have l2 := e4.cell 2
            have wr1 : IntKind.i64.wrap ((xa : Int) + 1) = ((xa + 1 : Nat) : Int) := by rw [IntWalk.i64_in _ (by omega)]; omega
            have E3 := Lib.hid e3
            have E6 := Lib.hid e6
            have E7 := Lib.hid e7
            have hbnd : preO.length < N := by have := HNN.out; omega
            obtain ⟨fn, tmps, assign, body, hy, hR⟩ := anyDepthY rfl (n - 1 - 1 - 1) (HY.out So preO ⟨A1, c1v, ps1, fr, xa⟩ (prB (.slice A1 ps1.length c1v) ps1) _ e1 hbnd e2 e3)
            have hR' : RoundIn (Fence.wide.inRound l) (n - 1 - 1 - 1) Tryz.prog lp fn tmps assign body _ _ := hR
            simp only [encLn] at hy
            clear HPQ HEQ e1 e2 e3 e4 e5 e6 e7 hR
            gi_wp2
            refine ⟨fun h => (by cases h), ?_⟩
            refine hR'.mono ?_
            rintro e W6 (⟨rfl, hk6, So', hs6, hJ6⟩ | ⟨rfl, hk6, So', hs6, hJx6⟩)
            · obtain ⟨bx6, e8⟩ := E7.out W6 So' _ hk6 hs6 hJ6
              have m0 := bx6.cell 0
              have m1 := bx6.cell 1
              have m2 := bx6.cell 2
              have n0 := bx6.free 0
              have n1' := bx6.free 1
              have n2 := bx6.free 2
              have rx6 : RawAt 113 W6 Bx #[.int .i64 (xa : Int), .int .i64 ((2 : Nat) : Int), .int .i32 xo] := (hk6.kept Bx (by rw [World.size_setCell]; exact RX9.out.lt) (fun g => by have := (HSB.out Bx (HSO.out Bx g)).1; omega)).trans ((Below.heap_setCell _ (⟨W.heap.size + 1, 2, none⟩ : Addr) _ _ (fun e => hnBx (by have h9 := HC9.out.tb.1; rw [← show Bx = W.heap.size + 1 from e] at h9; exact h9))).trans RX9.out)
              have p0 := rx6.cell 0
              have E8 := Lib.hid e8
              have BX6 := Lib.hid bx6
              have HS6 := Lib.hid hs6
              clear e8 bx6 hk6 hs6 hJ6 hR' hy y0 l0 l1 l2 rx6
              gi_wp2
              have hb7 : RawAt 40 (((W6.setCell ⟨W.heap.size + 1, 0, none⟩ (.slice none 0 0)).setCell ⟨W.heap.size + 1, 1, none⟩ (.int .i64 ((xa : Int) + 1))).setCell ⟨W.heap.size + 1, 2, none⟩ (.int .i64 0)) (W.heap.size + 1) #[.slice none 0 0, .int .i64 ((xa + 1 : Nat) : Int), .int .i64 0] := by
                have := ((BX6.out.set_ 0 (.slice none 0 0)).set_ 1 (.int .i64 ((xa : Int) + 1))).set_ 2 (.int .i64 0)
                simpa using this
              have hf7 : ∀ k, k ≠ W.heap.size + 1 → (((W6.setCell ⟨W.heap.size + 1, 0, none⟩ (.slice none 0 0)).setCell ⟨W.heap.size + 1, 1, none⟩ (.int .i64 ((xa : Int) + 1))).setCell ⟨W.heap.size + 1, 2, none⟩ (.int .i64 0)).heap[k]? = W6.heap[k]? := fun k hk => (Below.heap_setCell _ (⟨W.heap.size + 1, 2, none⟩ : Addr) _ _ hk).trans ((Below.heap_setCell _ (⟨W.heap.size + 1, 1, none⟩ : Addr) _ _ hk).trans (Below.heap_setCell _ (⟨W.heap.size + 1, 0, none⟩ : Addr) _ _ hk))
              have hz7 : Below 0 W6 (((W6.setCell ⟨W.heap.size + 1, 0, none⟩ (.slice none 0 0)).setCell ⟨W.heap.size + 1, 1, none⟩ (.int .i64 ((xa : Int) + 1))).setCell ⟨W.heap.size + 1, 2, none⟩ (.int .i64 0)) := (((Below.refl 0 W6).setCell (p := ⟨_, _, none⟩) (Nat.zero_le _) _).setCell (p := ⟨_, _, none⟩) (Nat.zero_le _) _).setCell (p := ⟨_, _, none⟩) (Nat.zero_le _) _
              obtain ⟨hC7, hK7⟩ := E8.out _ (xa + 1) hb7 hf7 hz7
              refine ⟨HK9.out.trans hK7 (fun k g => g.elim (fun g => .inl (HSO.out k g)) (HST.out k)), fun k => So' k ∨ (T1 k ∧ ¬ So' k), fun k g => ?_, So', _, _, _, [], xa + 1, _, _, _, hC7, fun k => Iff.rfl, ?_, fun s hs => (by cases hs), ?_, fun Y => ?_⟩
              · rcases g with g | g
                · rcases HS6.out k g with g | g | g
                  · exact .inl (HSO.out k g)
                  · exact (HST.out k (HC9.out.pr.sub k g)).imp id .inr
                  · rw [World.size_setCell] at g; exact .inr (.inr (by omega))
                · exact (HST.out k g.1).imp id .inr
              · rw [List.length_append, List.length_singleton]; simp only [List.length_nil]; omega
              · rw [List.length_append, List.length_append, List.length_singleton, List.length_singleton]; omega
              · rw [← HPY.out Y, List.map_append, List.append_assoc]; rfl
            · have HK6 := Lib.hid (hk6)
              have HS6 := Lib.hid hs6
              have HJX6 := Lib.hid hJx6
              clear hk6 hs6 hJx6 hR' hy y0 l0 l1 l2
              gi_wp2
              refine ⟨(HK9.out.trans E6.out HST.out).trans HK6.out (fun k g => .inl (HSO.out k g)), So', fun k g => ?_, rfl, So', preO ++ [⟨A1, c1v, ps1, fr, xa⟩], fun k g => g, fun k g => ?_, HJX6.out, fun Y => ⟨_, by rw [← HPY.out Y, List.map_append, List.append_assoc]; rfl⟩⟩
              · rcases HS6.out k g with g | g | g
                · exact .inl (HSO.out k g)
                · exact (HST.out k (HC9.out.pr.sub k g)).imp id .inr
                · rw [World.size_setCell] at g; exact .inr (.inr (by omega))
              · rcases HS6.out k g with g | g | g
                · exact HC9.out.geS k g
                · exact (E3.out k g).2.2
                · rw [World.size_setCell] at g; have := HC9.out.below.size; omega
        | cons z L2 =>
          have hz := HC.out.rx.at1 (j := 0) (by simp)
          obtain ⟨bX, oX, rfl, hbX, hzc⟩ := hz
          have hbi0 : RawAt 22 wr bi #[.slice (some ⟨bX, oX, none⟩) (L2.length + 1) d1] := by have := HC.out.bi; rwa [List.length_cons] at this
          have hz0 := hzc 0 (by omega)
          have hz1 := hzc 1 (by omega)
          have hz2 := hzc 2 (by omega)
          have hz3 := hzc 3 (by omega)
          have hz4 := hzc 4 (by omega)
          simp only [Nat.zero_mul, Nat.add_zero, List.getElem_cons_zero] at hz0 hz1 hz2 hz3 hz4
          have MK1 : Hid (∀ U : World, Below wr.heap.size wr U → (fun U : World => U.cell? ⟨bi, 0, none⟩ = some (.slice (some ⟨bX, oX, none⟩) (L2.length + 1) d1) ∧ U.cell? ⟨bX, oX + 1, none⟩ = some (.int .i64 z.pl) ∧ U.cell? ⟨Bx, 0, none⟩ = some (.int .i64 (xa : Int))) U) := Lib.hid fun U hU => ⟨(hbi0.below hU hbi0.lt).cell 0, (World.cell?_of_block (a := ⟨bX, oX + 1, none⟩) (hU.block bX hbX)).trans hz1, (RX1.out.below hU RX1.out.lt).cell 0⟩
          have MK7 : Hid (∀ U : World, U.heap[bi]? = wr.heap[bi]? → U.heap[bX]? = wr.heap[bX]? → (fun U : World => U.cell? ⟨bi, 0, none⟩ = some (.slice (some ⟨bX, oX, none⟩) (L2.length + 1) d1) ∧ U.cell? ⟨bX, oX, none⟩ = some (.int .i64 z.id) ∧ U.cell? ⟨bX, oX + 1, none⟩ = some (.int .i64 z.pl) ∧ U.cell? ⟨bX, oX + 2, none⟩ = some (.int .i64 z.bi) ∧ U.cell? ⟨bX, oX + 3, none⟩ = some (.int .i64 z.ky) ∧ U.cell? ⟨bX, oX + 4, none⟩ = some (.string z.tx)) U) := Lib.hid fun U h1 h2 => ⟨RawAt.cell (h1.trans hbi0) 0, (World.cell?_of_block (a := ⟨bX, oX, none⟩) h2).trans hz0, (World.cell?_of_block (a := ⟨bX, oX + 1, none⟩) h2).trans hz1, (World.cell?_of_block (a := ⟨bX, oX + 2, none⟩) h2).trans hz2, (World.cell?_of_block (a := ⟨bX, oX + 3, none⟩) h2).trans hz3, (World.cell?_of_block (a := ⟨bX, oX + 4, none⟩) h2).trans hz4⟩
          have hd0 : Below wr.heap.size wr wr.drew := (Below.refl _ _).drew
          have hd1 : Below wr.heap.size wr wr.drew.drew := hd0.drew
          have kl : (0 : Int) < (L2.length : Int) + 1 := by omega
          have hzt : z.tx.size ≤ 1000 := HC.out.tx z (by simp)
          clear hzc hz0 hz1 hz2 hz3 hz4
          by_cases hle : z.pl ≤ (xa : Int)
          · have k1 : decide (z.pl ≤ (xa : Int)) = true := decide_eq_true hle
            gi_wp2_with fail
            refine wpIn_region_heldW (S := (fun U : World => U.cell? ⟨bi, 0, none⟩ = some (.slice (some ⟨bX, oX, none⟩) (L2.length + 1) d1) ∧ U.cell? ⟨bX, oX + 1, none⟩ = some (.int .i64 z.pl) ∧ U.cell? ⟨Bx, 0, none⟩ = some (.int .i64 (xa : Int)))) (by kernel_rfl) (by rfl) (MK1.out _ hd0) (fun hHeld => ?_)
            refine wpAnyH_take (i := 0) (v := ?_) rfl (by kernel_rfl) (by kernel_rfl) (by kernel_rfl) (fun _ _ _ h => h) (Or.inl ⟨by rfl, ?_⟩) hHeld ?_
            rotate_left
            · intro w hSw
              (try dsimp only at hSw)
              go_simp
              try with_reducible rfl
            go_simp
            refine wpAnyH_take (i := 1) (v := ?_) rfl (by kernel_rfl) (by kernel_rfl) (by kernel_rfl) (fun _ _ _ h => h) (Or.inl ⟨by rfl, ?_⟩) hHeld ?_
            rotate_left
            · intro w hSw
              (try dsimp only at hSw)
              go_simp
              try with_reducible rfl
            go_simp
            refine wpAnyH_take (i := 2) (v := ?_) rfl (by kernel_rfl) (by kernel_rfl) (by kernel_rfl) (fun _ _ _ h => h) (Or.inl ⟨by rfl, ?_⟩) hHeld ?_
            rotate_left
            · intro w hSw
              (try dsimp only at hSw)
              go_simp
              try with_reducible rfl
            go_simp
            refine wpAnyH_take (i := 3) (v := ?_) rfl (by kernel_rfl) (by kernel_rfl) (by kernel_rfl) (fun _ _ _ h => h) (Or.inl ⟨by rfl, ?_⟩) hHeld ?_
            rotate_left
            · intro w hSw
              (try dsimp only at hSw)
              go_simp
              try with_reducible rfl
            go_simp
            refine wpAnyH_take (i := 4) (v := ?_) rfl (by kernel_rfl) (by kernel_rfl) (by kernel_rfl) (fun _ _ _ h => h) (Or.inl ⟨by rfl, ?_⟩) hHeld ?_
            rotate_left
            · intro w hSw
              (try dsimp only at hSw)
              go_simp
              try with_reducible rfl
            go_simp
            refine wpAnyH_take (i := 5) (v := ?_) rfl (by kernel_rfl) (by kernel_rfl) (by kernel_rfl) (fun _ _ _ h => h) (Or.inl ⟨by rfl, ?_⟩) hHeld ?_
            rotate_left
            · intro w hSw
              (try dsimp only at hSw)
              go_simp
              try with_reducible rfl
            go_simp
            refine wpAnyH_take (i := 6) (v := ?_) rfl (by kernel_rfl) (by kernel_rfl) (by kernel_rfl) (fun _ _ _ h => h) (Or.inl ⟨by rfl, ?_⟩) hHeld ?_
            rotate_left
            · intro w hSw
              (try dsimp only at hSw)
              go_simp
              try with_reducible rfl
            go_simp
            refine wpAnyH_take (i := 7) (v := ?_) rfl (by kernel_rfl) (by kernel_rfl) (by kernel_rfl) (fun _ _ _ h => h) (Or.inl ⟨by rfl, ?_⟩) hHeld ?_
            rotate_left
            · intro w hSw
              (try dsimp only at hSw)
              go_simp
              try with_reducible rfl
            go_simp
            refine wpAnyH_take (i := 8) (v := ?_) rfl (by kernel_rfl) (by kernel_rfl) (by kernel_rfl) (fun _ _ _ h => h) (Or.inl ⟨by rfl, ?_⟩) hHeld ?_
            rotate_left
            · intro w hSw
              (try dsimp only at hSw)
              go_simp
              try with_reducible rfl
            go_simp
            refine wpAnyH_take (i := 9) (v := ?_) rfl (by kernel_rfl) (by kernel_rfl) (by kernel_rfl) (fun _ _ _ h => h) (Or.inl ⟨by rfl, ?_⟩) hHeld ?_
            rotate_left
            · intro w hSw
              (try dsimp only at hSw)
              go_simp
              try with_reducible rfl
            go_simp
            refine wpAnyH_take (i := 10) (v := ?_) rfl (by kernel_rfl) (by kernel_rfl) (by kernel_rfl) (fun _ _ _ h => h) (Or.inl ⟨by rfl, ?_⟩) hHeld ?_
            rotate_left
            · intro w hSw
              (try dsimp only at hSw)
              go_simp
              try with_reducible rfl
            go_simp
            refine wpAnyH_take (i := 11) (v := ?_) rfl (by kernel_rfl) (by kernel_rfl) (by kernel_rfl) (fun _ _ _ h => h) (Or.inl ⟨by rfl, ?_⟩) hHeld ?_
            rotate_left
            · intro w hSw
              (try dsimp only at hSw)
              go_simp
              try with_reducible rfl
            go_simp
            refine wpAnyH_done (by kernel_rfl) ?_ _
            refine QN.normal ?_
            have hd2 : Below wr.heap.size wr wr.drew.drew.drew := hd1.drew
            have kt : ∀ V : World, (Instr.slice 22 (.slice (some ⟨bX, oX, none⟩) (L2.length + 1) d1) (some (.int .i64 1)) none none).run Tryz.prog V = .ok (.slice (cutK (some ⟨bX, oX, none⟩) d1 5 1) L2.length (d1 - 1)) V := fun V => by
              have := cutK_tl in_slt (some ⟨bX, oX, none⟩) (L2.length + 1) d1 1 (by omega) V
              simpa using this
            by_cases heq : z.pl = (xa : Int)
            · have k2 : (z.pl == (xa : Int)) = true := beq_iff_eq.2 heq
              have HPO2 : Hid (popI xa (ps1.map ptP ++ [vI z]) (L2.map vI) = PP) := Lib.hid (by have := HPO.out; rw [List.map_cons, popI, if_pos (show (vI z).p ≤ (xa : Int) from hle), if_pos (show (vI z).p = (xa : Int) from heq)] at this; exact this)
              clear heq
              gi_wp2_with fail
              refine wpIn_region_heldW (S := (fun U : World => U.cell? ⟨bi, 0, none⟩ = some (.slice (some ⟨bX, oX, none⟩) (L2.length + 1) d1) ∧ U.cell? ⟨bX, oX + 1, none⟩ = some (.int .i64 z.pl) ∧ U.cell? ⟨Bx, 0, none⟩ = some (.int .i64 (xa : Int)))) (by kernel_rfl) (by rfl) (MK1.out _ hd1) (fun hHeld => ?_)
              refine wpAnyH_take (i := 0) (v := ?_) rfl (by kernel_rfl) (by kernel_rfl) (by kernel_rfl) (fun _ _ _ h => h) (Or.inl ⟨by rfl, ?_⟩) hHeld ?_
              rotate_left
              · intro w hSw
                (try dsimp only at hSw)
                go_simp
                try with_reducible rfl
              go_simp
              refine wpAnyH_take (i := 1) (v := ?_) rfl (by kernel_rfl) (by kernel_rfl) (by kernel_rfl) (fun _ _ _ h => h) (Or.inl ⟨by rfl, ?_⟩) hHeld ?_
              rotate_left
              · intro w hSw
                (try dsimp only at hSw)
                go_simp
                try with_reducible rfl
              go_simp
              refine wpAnyH_take (i := 2) (v := ?_) rfl (by kernel_rfl) (by kernel_rfl) (by kernel_rfl) (fun _ _ _ h => h) (Or.inl ⟨by rfl, ?_⟩) hHeld ?_
              rotate_left
              · intro w hSw
                (try dsimp only at hSw)
                go_simp
                try with_reducible rfl
              go_simp
              refine wpAnyH_take (i := 3) (v := ?_) rfl (by kernel_rfl) (by kernel_rfl) (by kernel_rfl) (fun _ _ _ h => h) (Or.inl ⟨by rfl, ?_⟩) hHeld ?_
              rotate_left
              · intro w hSw
                (try dsimp only at hSw)
                go_simp
                try with_reducible rfl
              go_simp
              refine wpAnyH_take (i := 4) (v := ?_) rfl (by kernel_rfl) (by kernel_rfl) (by kernel_rfl) (fun _ _ _ h => h) (Or.inl ⟨by rfl, ?_⟩) hHeld ?_
              rotate_left
              · intro w hSw
                (try dsimp only at hSw)
                go_simp
                try with_reducible rfl
              go_simp
              refine wpAnyH_take (i := 5) (v := ?_) rfl (by kernel_rfl) (by kernel_rfl) (by kernel_rfl) (fun _ _ _ h => h) (Or.inl ⟨by rfl, ?_⟩) hHeld ?_
              rotate_left
              · intro w hSw
                (try dsimp only at hSw)
                go_simp
                try with_reducible rfl
              go_simp
              refine wpAnyH_take (i := 6) (v := ?_) rfl (by kernel_rfl) (by kernel_rfl) (by kernel_rfl) (fun _ _ _ h => h) (Or.inl ⟨by rfl, ?_⟩) hHeld ?_
              rotate_left
              · intro w hSw
                (try dsimp only at hSw)
                go_simp
                try with_reducible rfl
              go_simp
              refine wpAnyH_done (by kernel_rfl) ?_ _
              refine QN.normal ?_
              have hCU := HC.out.next HJ.out HJL.out hd2
              have HKU : Hid (KeptS S' V wr.drew.drew.drew) := Lib.hid (HK.out.trans (KeptS.of_below (S := S') hd2) (fun k h => .inl h))
              have RXU := Lib.hid (RX1.out.below hd2 RX1.out.lt)
              have c0U := hCU.box.cell 0
              have hBXU := Lib.hid hCU.box
              obtain ⟨a1, a2, a3, a4⟩ := hCU.apart
              obtain ⟨n1, n2, n3⟩ := hCU.boxes
              have HCU := Lib.hid hCU
              obtain ⟨A1, c1v, rfl⟩ := hCU.pr.len
              have hbil : bi < wr.drew.drew.drew.heap.size := hCU.bi.lt
              have hbXl : bX < wr.drew.drew.drew.heap.size := hbX
              have hBll : W.heap.size + 1 < wr.drew.drew.drew.heap.size := hCU.box.lt
              have CV := Lib.hid fun (U : World) => soVirt z.id z.pl z.bi z.ky z.tx (by omega) U
              clear hCU
              gi_wp2_with fail
              refine wpIn_region_heldW (S := (fun U : World => U.cell? ⟨bi, 0, none⟩ = some (.slice (some ⟨bX, oX, none⟩) (L2.length + 1) d1) ∧ U.cell? ⟨bX, oX, none⟩ = some (.int .i64 z.id) ∧ U.cell? ⟨bX, oX + 1, none⟩ = some (.int .i64 z.pl) ∧ U.cell? ⟨bX, oX + 2, none⟩ = some (.int .i64 z.bi) ∧ U.cell? ⟨bX, oX + 3, none⟩ = some (.int .i64 z.ky) ∧ U.cell? ⟨bX, oX + 4, none⟩ = some (.string z.tx))) (by kernel_rfl) (by rfl) (MK7.out _ rfl rfl) (fun hHeld => ?_)
              refine wpAnyH_take (i := 0) (v := ?_) rfl (by kernel_rfl) (by kernel_rfl) (by kernel_rfl) (fun _ _ _ h => h) (Or.inl ⟨by rfl, ?_⟩) hHeld ?_
              rotate_left
              · intro w hSw
                (try dsimp only at hSw)
                go_simp
                try with_reducible rfl
              go_simp
              refine wpAnyH_take (i := 2) (v := ?_) rfl (by kernel_rfl) (by kernel_rfl) (by kernel_rfl) (fun _ _ _ h => h) (Or.inl ⟨by rfl, ?_⟩) hHeld ?_
              rotate_left
              · intro w hSw
                (try dsimp only at hSw)
                go_simp
                try with_reducible rfl
              go_simp
              refine wpAnyH_take (i := 3) (v := ?_) rfl (by kernel_rfl) (by kernel_rfl) (by kernel_rfl) (fun _ _ _ h => h) (Or.inl ⟨by rfl, ?_⟩) hHeld ?_
              rotate_left
              · intro w hSw
                (try dsimp only at hSw)
                go_simp
                try with_reducible rfl
              go_simp
              refine wpAnyH_take (i := 4) (v := ?_) rfl (by kernel_rfl) (by kernel_rfl) (by kernel_rfl) (fun _ _ _ h => h) (Or.inl ⟨by rfl, ?_⟩) hHeld ?_
              rotate_left
              · intro w hSw
                (try dsimp only at hSw)
                go_simp
                try with_reducible rfl
              go_simp
              refine wpAnyH_ready (rs := [1, 5]) (by kernel_rfl) (by simp) ?_
              refine AllReadyH.cons rfl (fun K hK => ?_) (AllReadyH.cons rfl (fun K hK => ?_) AllReadyH.nil)
              · go_simp
                go_wp2_with (fail)
                refine hK.out _ _ (MK7.out _ rfl rfl) (fun hHeld => ?_)
                clear hK K
                go_simp
                refine wpAnyH_ready (rs := [5]) (by kernel_rfl) (by simp) ?_
                refine AllReadyH.cons rfl (fun K hK => ?_) ?_
                rotate_left
                · exact AllReadyH.nil
                go_simp
                go_wp2_with (go_at_call 57; ((with_reducible refine (CV.out _).mono ?_); rintro e w4 ⟨A4, c4, rfl, hb4, ho4⟩; have hE5 : Below wr.drew.drew.drew.heap.size wr.drew.drew.drew (w4.alloc (.cells #[.int .i64 2, .int .i64 z.pl, .slice A4 (dec z.tx).length c4] 78)) := hb4.alloc hb4.size _; have VV := Lib.hid (HCU.out.virt HJ.out HJL.out (kd := 2) (pl := z.pl) hb4 ho4); have c04 := (hBXU.out.below hb4 hBll).cell 0; have c05 := (hBXU.out.below hE5 hBll).cell 0))
                refine hK.out _ _ (MK7.out _ (hb4.block bi hbil) (hb4.block bX hbXl)) (fun hHeld => ?_)
                clear hK K
                go_simp
                refine wpAnyH_ready (rs := [6]) (by kernel_rfl) (by simp) ?_
                refine AllReadyH.cons rfl (fun K hK => ?_) ?_
                rotate_left
                · exact AllReadyH.nil
                go_simp
                go_wp2_with (fail)
                refine hK.out _ _ (MK7.out _ (hE5.block bi hbil) (hE5.block bX hbXl)) (fun hHeld => ?_)
                clear hK K
                go_simp
                refine wpAnyH_ready (rs := [7]) (by kernel_rfl) (by simp) ?_
                refine AllReadyH.cons rfl (fun K hK => ?_) ?_
                rotate_left
                · exact AllReadyH.nil
                refine step_appK (enc := ptcs) part_slt ptcs_len (by omega) rfl (.tmp 40) (.tmp 45) rfl rfl VV.out.1 (some ⟨w4.heap.size, 0, none⟩) 1 1 [⟨2, z.pl, A4, (dec z.tx).length, c4, dec z.tx⟩] rfl VV.out.2.1 ⟨Nat.le_refl _, fun h => by cases h⟩ rfl (kfl_one' ptcs_one _) (by simp only [maxLen, List.length_cons] at *; omega) (by simp only [List.length_cons] at *; omega) (Nat.zero_le _) ?_
                intro v6 w6 hown6 hg6 hn6
                obtain ⟨hk6, hC6, hK6⟩ := VV.out.2.2 v6 w6 hown6 hg6 hn6
                obtain ⟨A6, c6, rfl⟩ := own_form hown6
                have bx6 : RawAt 40 w6 (W.heap.size + 1) _ := (hk6.kept _ hBll a1).trans hBXU.out
                have d06 := bx6.cell 0
                have e06 := bx6.free 0
                refine hK.out _ _ (MK7.out _ (hk6.kept bi hbil a2) (hk6.kept bX hbXl (a4 _ rfl))) (fun hHeld => ?_)
                clear hK K
                go_simp
                refine wpAnyH_take (i := 8) (v := ?_) rfl (by kernel_rfl) (by kernel_rfl) (by kernel_rfl) (fun _ _ _ h => h) (Or.inl ⟨by rfl, ?_⟩) hHeld ?_
                rotate_left
                · intro w hSw
                  (try dsimp only at hSw)
                  go_simp
                  try with_reducible rfl
                go_simp
                refine wpAnyH_ready (rs := [9]) (by kernel_rfl) (by simp) ?_
                refine AllReadyH.cons rfl (fun K hK => ?_) ?_
                rotate_left
                · exact AllReadyH.nil
                go_simp
                go_wp2_with (fail)
                refine hK.out _ _ (MK7.out _ ((Below.heap_setCell _ (⟨W.heap.size + 1, 0, none⟩ : Addr) _ _ (fun e => n1 e.symm)).trans (hk6.kept bi hbil a2)) ((Below.heap_setCell _ (⟨W.heap.size + 1, 0, none⟩ : Addr) _ _ (fun e => (n3 _ rfl).1 e.symm)).trans (hk6.kept bX hbXl (a4 _ rfl)))) (fun hHeld => ?_)
                clear hK K
                go_simp
                refine wpAnyH_done (by kernel_rfl) ?_ _
                refine QN.normal ?_
                obtain ⟨hc8, hk8⟩ := hC6.pop HJ.out HJL.out
                have HC8 := Lib.hid hc8
                have hszU : V.heap.size ≤ wr.drew.drew.drew.heap.size := hVw
                have hT6 : ∀ k, (T1 k ∨ (wr.drew.drew.drew.heap.size ≤ k ∧ k < w6.heap.size)) → S' k ∨ V.heap.size ≤ k := fun k g => g.elim (fun g => (HT1.out k g).imp (fun g => (HSS.out k).2 (.inr g)) id) (fun g => .inr (Nat.le_trans hszU g.1))
                have hK7 := HKU.out.trans hK6 (fun k g => (HT1.out k g).imp (fun g => (HSS.out k).2 (.inr g)) id)
                have HK8 := Lib.hid (hK7.trans hk8 hT6)
                have y0 := hC6.bi.cell 0
                have y1 := hC6.bi.free 0
                simp only [List.length_cons] at y0
                have RX8 : Hid (RawAt 113 ((w6.setCell ⟨W.heap.size + 1, 0, none⟩ (.slice A6 (ps1.length + 1) c6)).setCell ⟨bi, 0, none⟩ (.slice (cutK (some ⟨bX, oX, none⟩) d1 5 1) L2.length (d1 - 1))) Bx #[.int .i64 (xa : Int), .int .i64 (xh : Int), .int .i32 xo]) := Lib.hid ((Below.heap_setCell _ (⟨bi, 0, none⟩ : Addr) _ _ (fun e => hnBx (by have h9 := HC.out.tb.2.1; rw [← show Bx = bi from e] at h9; exact h9))).trans ((hK6.kept Bx RXU.out.lt hnBx).trans RXU.out))
                have HT8 : Hid (∀ k, (T1 k ∨ (wr.drew.drew.drew.heap.size ≤ k ∧ k < w6.heap.size)) → T k ∨ V.heap.size ≤ k) := Lib.hid (fun k g => g.elim (HT1.out k) (fun g => .inr (Nat.le_trans hszU g.1)))
                have hm1 := hc8.bi.cell 0
                have hm2 := hbi0.cell 0
                have HRN8 : Hid (∀ s ∈ ps1 ++ [(⟨2, z.pl, A4, (dec z.tx).length, c4, dec z.tx⟩ : PtV)], s.n ≤ pre.length + 1000) := Lib.hid (fun s hs => by
                  rcases List.mem_append.1 hs with hs | hs
                  · exact HRN1.out s hs
                  · rw [List.mem_singleton.1 hs]; have := dec_len z.tx; show (dec z.tx).length ≤ _; omega)
                have HPO8 : Hid (popI xa ((ps1 ++ [(⟨2, z.pl, A4, (dec z.tx).length, c4, dec z.tx⟩ : PtV)]).map ptP) (L2.map vI) = PP) := Lib.hid (by rw [List.map_append]; exact HPO2.out)
                clear hc8 hk8 hC6 hK6 hk6 bx6 d06 e06 hown6 hg6 hn6 VV c04 c05 hE5 hb4 ho4 hHeld
                gi_wp2
                go_roundw
                case rel => exact ⟨_, _, _, L2, _, _, HC8, HK8, HT8, RX8, HPO8, by simp only [List.length_cons] at hlc1; rw [List.length_append, List.length_singleton]; omega, HRN8⟩
                case measure => exact bx_lt hm1 hm2
              · go_simp
                go_wp2_with (go_at_call 57; ((with_reducible refine (CV.out _).mono ?_); rintro e w4 ⟨A4, c4, rfl, hb4, ho4⟩; have hE5 : Below wr.drew.drew.drew.heap.size wr.drew.drew.drew (w4.alloc (.cells #[.int .i64 2, .int .i64 z.pl, .slice A4 (dec z.tx).length c4] 78)) := hb4.alloc hb4.size _; have VV := Lib.hid (HCU.out.virt HJ.out HJL.out (kd := 2) (pl := z.pl) hb4 ho4); have c04 := (hBXU.out.below hb4 hBll).cell 0; have c05 := (hBXU.out.below hE5 hBll).cell 0))
                refine hK.out _ _ (MK7.out _ (hb4.block bi hbil) (hb4.block bX hbXl)) (fun hHeld => ?_)
                clear hK K
                go_simp
                refine wpAnyH_ready (rs := [1, 6]) (by kernel_rfl) (by simp) ?_
                refine AllReadyH.cons rfl (fun K hK => ?_) (AllReadyH.cons rfl (fun K hK => ?_) AllReadyH.nil)
                · go_simp
                  go_wp2_with (fail)
                  refine hK.out _ _ (MK7.out _ (hb4.block bi hbil) (hb4.block bX hbXl)) (fun hHeld => ?_)
                  clear hK K
                  go_simp
                  refine wpAnyH_ready (rs := [6]) (by kernel_rfl) (by simp) ?_
                  refine AllReadyH.cons rfl (fun K hK => ?_) ?_
                  rotate_left
                  · exact AllReadyH.nil
                  go_simp
                  go_wp2_with (fail)
                  refine hK.out _ _ (MK7.out _ (hE5.block bi hbil) (hE5.block bX hbXl)) (fun hHeld => ?_)
                  clear hK K
                  go_simp
                  refine wpAnyH_ready (rs := [7]) (by kernel_rfl) (by simp) ?_
                  refine AllReadyH.cons rfl (fun K hK => ?_) ?_
                  rotate_left
                  · exact AllReadyH.nil
                  refine step_appK (enc := ptcs) part_slt ptcs_len (by omega) rfl (.tmp 40) (.tmp 45) rfl rfl VV.out.1 (some ⟨w4.heap.size, 0, none⟩) 1 1 [⟨2, z.pl, A4, (dec z.tx).length, c4, dec z.tx⟩] rfl VV.out.2.1 ⟨Nat.le_refl _, fun h => by cases h⟩ rfl (kfl_one' ptcs_one _) (by simp only [maxLen, List.length_cons] at *; omega) (by simp only [List.length_cons] at *; omega) (Nat.zero_le _) ?_
                  intro v6 w6 hown6 hg6 hn6
                  obtain ⟨hk6, hC6, hK6⟩ := VV.out.2.2 v6 w6 hown6 hg6 hn6
                  obtain ⟨A6, c6, rfl⟩ := own_form hown6
                  have bx6 : RawAt 40 w6 (W.heap.size + 1) _ := (hk6.kept _ hBll a1).trans hBXU.out
                  have d06 := bx6.cell 0
                  have e06 := bx6.free 0
                  refine hK.out _ _ (MK7.out _ (hk6.kept bi hbil a2) (hk6.kept bX hbXl (a4 _ rfl))) (fun hHeld => ?_)
                  clear hK K
                  go_simp
                  refine wpAnyH_take (i := 8) (v := ?_) rfl (by kernel_rfl) (by kernel_rfl) (by kernel_rfl) (fun _ _ _ h => h) (Or.inl ⟨by rfl, ?_⟩) hHeld ?_
                  rotate_left
                  · intro w hSw
                    (try dsimp only at hSw)
                    go_simp
                    try with_reducible rfl
                  go_simp
                  refine wpAnyH_ready (rs := [9]) (by kernel_rfl) (by simp) ?_
                  refine AllReadyH.cons rfl (fun K hK => ?_) ?_
                  rotate_left
                  · exact AllReadyH.nil
                  go_simp
                  go_wp2_with (fail)
                  refine hK.out _ _ (MK7.out _ ((Below.heap_setCell _ (⟨W.heap.size + 1, 0, none⟩ : Addr) _ _ (fun e => n1 e.symm)).trans (hk6.kept bi hbil a2)) ((Below.heap_setCell _ (⟨W.heap.size + 1, 0, none⟩ : Addr) _ _ (fun e => (n3 _ rfl).1 e.symm)).trans (hk6.kept bX hbXl (a4 _ rfl)))) (fun hHeld => ?_)
                  clear hK K
                  go_simp
                  refine wpAnyH_done (by kernel_rfl) ?_ _
                  refine QN.normal ?_
                  obtain ⟨hc8, hk8⟩ := hC6.pop HJ.out HJL.out
                  have HC8 := Lib.hid hc8
                  have hszU : V.heap.size ≤ wr.drew.drew.drew.heap.size := hVw
                  have hT6 : ∀ k, (T1 k ∨ (wr.drew.drew.drew.heap.size ≤ k ∧ k < w6.heap.size)) → S' k ∨ V.heap.size ≤ k := fun k g => g.elim (fun g => (HT1.out k g).imp (fun g => (HSS.out k).2 (.inr g)) id) (fun g => .inr (Nat.le_trans hszU g.1))
                  have hK7 := HKU.out.trans hK6 (fun k g => (HT1.out k g).imp (fun g => (HSS.out k).2 (.inr g)) id)
                  have HK8 := Lib.hid (hK7.trans hk8 hT6)
                  have y0 := hC6.bi.cell 0
                  have y1 := hC6.bi.free 0
                  simp only [List.length_cons] at y0
                  have RX8 : Hid (RawAt 113 ((w6.setCell ⟨W.heap.size + 1, 0, none⟩ (.slice A6 (ps1.length + 1) c6)).setCell ⟨bi, 0, none⟩ (.slice (cutK (some ⟨bX, oX, none⟩) d1 5 1) L2.length (d1 - 1))) Bx #[.int .i64 (xa : Int), .int .i64 (xh : Int), .int .i32 xo]) := Lib.hid ((Below.heap_setCell _ (⟨bi, 0, none⟩ : Addr) _ _ (fun e => hnBx (by have h9 := HC.out.tb.2.1; rw [← show Bx = bi from e] at h9; exact h9))).trans ((hK6.kept Bx RXU.out.lt hnBx).trans RXU.out))
                  have HT8 : Hid (∀ k, (T1 k ∨ (wr.drew.drew.drew.heap.size ≤ k ∧ k < w6.heap.size)) → T k ∨ V.heap.size ≤ k) := Lib.hid (fun k g => g.elim (HT1.out k) (fun g => .inr (Nat.le_trans hszU g.1)))
                  have hm1 := hc8.bi.cell 0
                  have hm2 := hbi0.cell 0
                  have HRN8 : Hid (∀ s ∈ ps1 ++ [(⟨2, z.pl, A4, (dec z.tx).length, c4, dec z.tx⟩ : PtV)], s.n ≤ pre.length + 1000) := Lib.hid (fun s hs => by
                    rcases List.mem_append.1 hs with hs | hs
                    · exact HRN1.out s hs
                    · rw [List.mem_singleton.1 hs]; have := dec_len z.tx; show (dec z.tx).length ≤ _; omega)
                  have HPO8 : Hid (popI xa ((ps1 ++ [(⟨2, z.pl, A4, (dec z.tx).length, c4, dec z.tx⟩ : PtV)]).map ptP) (L2.map vI) = PP) := Lib.hid (by rw [List.map_append]; exact HPO2.out)
                  clear hc8 hk8 hC6 hK6 hk6 bx6 d06 e06 hown6 hg6 hn6 VV c04 c05 hE5 hb4 ho4 hHeld
                  gi_wp2
                  go_roundw
                  case rel => exact ⟨_, _, _, L2, _, _, HC8, HK8, HT8, RX8, HPO8, by simp only [List.length_cons] at hlc1; rw [List.length_append, List.length_singleton]; omega, HRN8⟩
                  case measure => exact bx_lt hm1 hm2
                · go_simp
                  go_wp2_with (fail)
                  refine hK.out _ _ (MK7.out _ (hE5.block bi hbil) (hE5.block bX hbXl)) (fun hHeld => ?_)
                  clear hK K
                  go_simp
                  refine wpAnyH_ready (rs := [1]) (by kernel_rfl) (by simp) ?_
                  refine AllReadyH.cons rfl (fun K hK => ?_) ?_
                  rotate_left
                  · exact AllReadyH.nil
                  go_simp
                  go_wp2_with (fail)
                  refine hK.out _ _ (MK7.out _ (hE5.block bi hbil) (hE5.block bX hbXl)) (fun hHeld => ?_)
                  clear hK K
                  go_simp
                  refine wpAnyH_ready (rs := [7]) (by kernel_rfl) (by simp) ?_
                  refine AllReadyH.cons rfl (fun K hK => ?_) ?_
                  rotate_left
                  · exact AllReadyH.nil
                  refine step_appK (enc := ptcs) part_slt ptcs_len (by omega) rfl (.tmp 40) (.tmp 45) rfl rfl VV.out.1 (some ⟨w4.heap.size, 0, none⟩) 1 1 [⟨2, z.pl, A4, (dec z.tx).length, c4, dec z.tx⟩] rfl VV.out.2.1 ⟨Nat.le_refl _, fun h => by cases h⟩ rfl (kfl_one' ptcs_one _) (by simp only [maxLen, List.length_cons] at *; omega) (by simp only [List.length_cons] at *; omega) (Nat.zero_le _) ?_
                  intro v6 w6 hown6 hg6 hn6
                  obtain ⟨hk6, hC6, hK6⟩ := VV.out.2.2 v6 w6 hown6 hg6 hn6
                  obtain ⟨A6, c6, rfl⟩ := own_form hown6
                  have bx6 : RawAt 40 w6 (W.heap.size + 1) _ := (hk6.kept _ hBll a1).trans hBXU.out
                  have d06 := bx6.cell 0
                  have e06 := bx6.free 0
                  refine hK.out _ _ (MK7.out _ (hk6.kept bi hbil a2) (hk6.kept bX hbXl (a4 _ rfl))) (fun hHeld => ?_)
                  clear hK K
                  go_simp
                  refine wpAnyH_take (i := 8) (v := ?_) rfl (by kernel_rfl) (by kernel_rfl) (by kernel_rfl) (fun _ _ _ h => h) (Or.inl ⟨by rfl, ?_⟩) hHeld ?_
                  rotate_left
                  · intro w hSw
                    (try dsimp only at hSw)
                    go_simp
                    try with_reducible rfl
                  go_simp
                  refine wpAnyH_ready (rs := [9]) (by kernel_rfl) (by simp) ?_
                  refine AllReadyH.cons rfl (fun K hK => ?_) ?_
                  rotate_left
                  · exact AllReadyH.nil
                  go_simp
                  go_wp2_with (fail)
                  refine hK.out _ _ (MK7.out _ ((Below.heap_setCell _ (⟨W.heap.size + 1, 0, none⟩ : Addr) _ _ (fun e => n1 e.symm)).trans (hk6.kept bi hbil a2)) ((Below.heap_setCell _ (⟨W.heap.size + 1, 0, none⟩ : Addr) _ _ (fun e => (n3 _ rfl).1 e.symm)).trans (hk6.kept bX hbXl (a4 _ rfl)))) (fun hHeld => ?_)
                  clear hK K
                  go_simp
                  refine wpAnyH_done (by kernel_rfl) ?_ _
                  refine QN.normal ?_
                  obtain ⟨hc8, hk8⟩ := hC6.pop HJ.out HJL.out
                  have HC8 := Lib.hid hc8
                  have hszU : V.heap.size ≤ wr.drew.drew.drew.heap.size := hVw
                  have hT6 : ∀ k, (T1 k ∨ (wr.drew.drew.drew.heap.size ≤ k ∧ k < w6.heap.size)) → S' k ∨ V.heap.size ≤ k := fun k g => g.elim (fun g => (HT1.out k g).imp (fun g => (HSS.out k).2 (.inr g)) id) (fun g => .inr (Nat.le_trans hszU g.1))
                  have hK7 := HKU.out.trans hK6 (fun k g => (HT1.out k g).imp (fun g => (HSS.out k).2 (.inr g)) id)
                  have HK8 := Lib.hid (hK7.trans hk8 hT6)
                  have y0 := hC6.bi.cell 0
                  have y1 := hC6.bi.free 0
                  simp only [List.length_cons] at y0
                  have RX8 : Hid (RawAt 113 ((w6.setCell ⟨W.heap.size + 1, 0, none⟩ (.slice A6 (ps1.length + 1) c6)).setCell ⟨bi, 0, none⟩ (.slice (cutK (some ⟨bX, oX, none⟩) d1 5 1) L2.length (d1 - 1))) Bx #[.int .i64 (xa : Int), .int .i64 (xh : Int), .int .i32 xo]) := Lib.hid ((Below.heap_setCell _ (⟨bi, 0, none⟩ : Addr) _ _ (fun e => hnBx (by have h9 := HC.out.tb.2.1; rw [← show Bx = bi from e] at h9; exact h9))).trans ((hK6.kept Bx RXU.out.lt hnBx).trans RXU.out))
                  have HT8 : Hid (∀ k, (T1 k ∨ (wr.drew.drew.drew.heap.size ≤ k ∧ k < w6.heap.size)) → T k ∨ V.heap.size ≤ k) := Lib.hid (fun k g => g.elim (HT1.out k) (fun g => .inr (Nat.le_trans hszU g.1)))
                  have hm1 := hc8.bi.cell 0
                  have hm2 := hbi0.cell 0
                  have HRN8 : Hid (∀ s ∈ ps1 ++ [(⟨2, z.pl, A4, (dec z.tx).length, c4, dec z.tx⟩ : PtV)], s.n ≤ pre.length + 1000) := Lib.hid (fun s hs => by
                    rcases List.mem_append.1 hs with hs | hs
                    · exact HRN1.out s hs
                    · rw [List.mem_singleton.1 hs]; have := dec_len z.tx; show (dec z.tx).length ≤ _; omega)
                  have HPO8 : Hid (popI xa ((ps1 ++ [(⟨2, z.pl, A4, (dec z.tx).length, c4, dec z.tx⟩ : PtV)]).map ptP) (L2.map vI) = PP) := Lib.hid (by rw [List.map_append]; exact HPO2.out)
                  clear hc8 hk8 hC6 hK6 hk6 bx6 d06 e06 hown6 hg6 hn6 VV c04 c05 hE5 hb4 ho4 hHeld
                  gi_wp2
                  go_roundw
                  case rel => exact ⟨_, _, _, L2, _, _, HC8, HK8, HT8, RX8, HPO8, by simp only [List.length_cons] at hlc1; rw [List.length_append, List.length_singleton]; omega, HRN8⟩
                  case measure => exact bx_lt hm1 hm2
            · have k2 : (z.pl == (xa : Int)) = false := beq_eq_false_iff_ne.2 heq
              have HPO2 : Hid (popI xa (ps1.map ptP) (L2.map vI) = PP) := Lib.hid (by have := HPO.out; rw [List.map_cons, popI, if_pos (show (vI z).p ≤ (xa : Int) from hle), if_neg (show ¬ (vI z).p = (xa : Int) from heq)] at this; exact this)
              clear heq
              gi_wp2_with fail
              refine wpIn_region_heldW (S := (fun U : World => U.cell? ⟨bi, 0, none⟩ = some (.slice (some ⟨bX, oX, none⟩) (L2.length + 1) d1) ∧ U.cell? ⟨bX, oX + 1, none⟩ = some (.int .i64 z.pl) ∧ U.cell? ⟨Bx, 0, none⟩ = some (.int .i64 (xa : Int)))) (by kernel_rfl) (by rfl) (MK1.out _ hd1) (fun hHeld => ?_)
              refine wpAnyH_take (i := 0) (v := ?_) rfl (by kernel_rfl) (by kernel_rfl) (by kernel_rfl) (fun _ _ _ h => h) (Or.inl ⟨by rfl, ?_⟩) hHeld ?_
              rotate_left
              · intro w hSw
                (try dsimp only at hSw)
                go_simp
                try with_reducible rfl
              go_simp
              refine wpAnyH_take (i := 1) (v := ?_) rfl (by kernel_rfl) (by kernel_rfl) (by kernel_rfl) (fun _ _ _ h => h) (Or.inl ⟨by rfl, ?_⟩) hHeld ?_
              rotate_left
              · intro w hSw
                (try dsimp only at hSw)
                go_simp
                try with_reducible rfl
              go_simp
              refine wpAnyH_take (i := 2) (v := ?_) rfl (by kernel_rfl) (by kernel_rfl) (by kernel_rfl) (fun _ _ _ h => h) (Or.inl ⟨by rfl, ?_⟩) hHeld ?_
              rotate_left
              · intro w hSw
                (try dsimp only at hSw)
                go_simp
                try with_reducible rfl
              go_simp
              refine wpAnyH_take (i := 3) (v := ?_) rfl (by kernel_rfl) (by kernel_rfl) (by kernel_rfl) (fun _ _ _ h => h) (Or.inl ⟨by rfl, ?_⟩) hHeld ?_
              rotate_left
              · intro w hSw
                (try dsimp only at hSw)
                go_simp
                try with_reducible rfl
              go_simp
              refine wpAnyH_take (i := 4) (v := ?_) rfl (by kernel_rfl) (by kernel_rfl) (by kernel_rfl) (fun _ _ _ h => h) (Or.inl ⟨by rfl, ?_⟩) hHeld ?_
              rotate_left
              · intro w hSw
                (try dsimp only at hSw)
                go_simp
                try with_reducible rfl
              go_simp
              refine wpAnyH_take (i := 5) (v := ?_) rfl (by kernel_rfl) (by kernel_rfl) (by kernel_rfl) (fun _ _ _ h => h) (Or.inl ⟨by rfl, ?_⟩) hHeld ?_
              rotate_left
              · intro w hSw
                (try dsimp only at hSw)
                go_simp
                try with_reducible rfl
              go_simp
              refine wpAnyH_take (i := 6) (v := ?_) rfl (by kernel_rfl) (by kernel_rfl) (by kernel_rfl) (fun _ _ _ h => h) (Or.inl ⟨by rfl, ?_⟩) hHeld ?_
              rotate_left
              · intro w hSw
                (try dsimp only at hSw)
                go_simp
                try with_reducible rfl
              go_simp
              refine wpAnyH_done (by kernel_rfl) ?_ _
              refine QN.normal ?_
              obtain ⟨hc8, hk8⟩ := (HC.out.next HJ.out HJL.out hd1).pop HJ.out HJL.out
              have HC8 := Lib.hid hc8
              have HK8 := Lib.hid ((HK.out.trans (KeptS.of_below (S := S') hd1) (fun k h => .inl h)).trans hk8 (fun k g => (HT1.out k g).imp (fun g => (HSS.out k).2 (.inr g)) id))
              have y0 : wr.drew.drew.cell? ⟨bi, 0, none⟩ = some (.slice (some ⟨bX, oX, none⟩) (L2.length + 1) d1) := (hbi0.below hd1 hbi0.lt).cell 0
              have y1 : wr.drew.drew.frozen? ⟨bi, 0, none⟩ = false := (hbi0.below hd1 hbi0.lt).free 0
              have RX8 : Hid (RawAt 113 (wr.drew.drew.setCell ⟨bi, 0, none⟩ (.slice (cutK (some ⟨bX, oX, none⟩) d1 5 1) L2.length (d1 - 1))) Bx #[.int .i64 (xa : Int), .int .i64 (xh : Int), .int .i32 xo]) := Lib.hid ((Below.heap_setCell _ (⟨bi, 0, none⟩ : Addr) _ _ (fun e => hnBx (by have h9 := HC.out.tb.2.1; rw [← show Bx = bi from e] at h9; exact h9))).trans (RX1.out.below hd1 RX1.out.lt))
              have hm1 := hc8.bi.cell 0
              have hm2 := hbi0.cell 0
              have HRN2 := HRN1
              clear hc8 hk8
              gi_wp2
              go_roundw
              case rel => exact ⟨T1, v1, ps1, L2, _, _, HC8, HK8, HT1, RX8, HPO2, by simp only [List.length_cons] at hlc1; omega, HRN1⟩
              case measure => exact bx_lt hm1 hm2
          · have k1 : decide (z.pl ≤ (xa : Int)) = false := decide_eq_false hle
            gi_wp2_with fail
            refine wpIn_region_heldW (S := (fun U : World => U.cell? ⟨bi, 0, none⟩ = some (.slice (some ⟨bX, oX, none⟩) (L2.length + 1) d1) ∧ U.cell? ⟨bX, oX + 1, none⟩ = some (.int .i64 z.pl) ∧ U.cell? ⟨Bx, 0, none⟩ = some (.int .i64 (xa : Int)))) (by kernel_rfl) (by rfl) (MK1.out _ hd0) (fun hHeld => ?_)
            refine wpAnyH_take (i := 0) (v := ?_) rfl (by kernel_rfl) (by kernel_rfl) (by kernel_rfl) (fun _ _ _ h => h) (Or.inl ⟨by rfl, ?_⟩) hHeld ?_
            rotate_left
            · intro w hSw
              (try dsimp only at hSw)
              go_simp
              try with_reducible rfl
            go_simp
            refine wpAnyH_take (i := 1) (v := ?_) rfl (by kernel_rfl) (by kernel_rfl) (by kernel_rfl) (fun _ _ _ h => h) (Or.inl ⟨by rfl, ?_⟩) hHeld ?_
            rotate_left
            · intro w hSw
              (try dsimp only at hSw)
              go_simp
              try with_reducible rfl
            go_simp
            refine wpAnyH_take (i := 2) (v := ?_) rfl (by kernel_rfl) (by kernel_rfl) (by kernel_rfl) (fun _ _ _ h => h) (Or.inl ⟨by rfl, ?_⟩) hHeld ?_
            rotate_left
            · intro w hSw
              (try dsimp only at hSw)
              go_simp
              try with_reducible rfl
            go_simp
            refine wpAnyH_take (i := 3) (v := ?_) rfl (by kernel_rfl) (by kernel_rfl) (by kernel_rfl) (fun _ _ _ h => h) (Or.inl ⟨by rfl, ?_⟩) hHeld ?_
            rotate_left
            · intro w hSw
              (try dsimp only at hSw)
              go_simp
              try with_reducible rfl
            go_simp
            refine wpAnyH_take (i := 4) (v := ?_) rfl (by kernel_rfl) (by kernel_rfl) (by kernel_rfl) (fun _ _ _ h => h) (Or.inl ⟨by rfl, ?_⟩) hHeld ?_
            rotate_left
            · intro w hSw
              (try dsimp only at hSw)
              go_simp
              try with_reducible rfl
            go_simp
            refine wpAnyH_take (i := 5) (v := ?_) rfl (by kernel_rfl) (by kernel_rfl) (by kernel_rfl) (fun _ _ _ h => h) (Or.inl ⟨by rfl, ?_⟩) hHeld ?_
            rotate_left
            · intro w hSw
              (try dsimp only at hSw)
              go_simp
              try with_reducible rfl
            go_simp
            refine wpAnyH_take (i := 6) (v := ?_) rfl (by kernel_rfl) (by kernel_rfl) (by kernel_rfl) (fun _ _ _ h => h) (Or.inl ⟨by rfl, ?_⟩) hHeld ?_
            rotate_left
            · intro w hSw
              (try dsimp only at hSw)
              go_simp
              try with_reducible rfl
            go_simp
            refine wpAnyH_take (i := 7) (v := ?_) rfl (by kernel_rfl) (by kernel_rfl) (by kernel_rfl) (fun _ _ _ h => h) (Or.inl ⟨by rfl, ?_⟩) hHeld ?_
            rotate_left
            · intro w hSw
              (try dsimp only at hSw)
              go_simp
              try with_reducible rfl
            go_simp
            refine wpAnyH_take (i := 8) (v := ?_) rfl (by kernel_rfl) (by kernel_rfl) (by kernel_rfl) (fun _ _ _ h => h) (Or.inl ⟨by rfl, ?_⟩) hHeld ?_
            rotate_left
            · intro w hSw
              (try dsimp only at hSw)
              go_simp
              try with_reducible rfl
            go_simp
            refine wpAnyH_take (i := 9) (v := ?_) rfl (by kernel_rfl) (by kernel_rfl) (by kernel_rfl) (fun _ _ _ h => h) (Or.inl ⟨by rfl, ?_⟩) hHeld ?_
            rotate_left
            · intro w hSw
              (try dsimp only at hSw)
              go_simp
              try with_reducible rfl
            go_simp
            refine wpAnyH_take (i := 10) (v := ?_) rfl (by kernel_rfl) (by kernel_rfl) (by kernel_rfl) (fun _ _ _ h => h) (Or.inl ⟨by rfl, ?_⟩) hHeld ?_
            rotate_left
            · intro w hSw
              (try dsimp only at hSw)
              go_simp
              try with_reducible rfl
            go_simp
            refine wpAnyH_take (i := 11) (v := ?_) rfl (by kernel_rfl) (by kernel_rfl) (by kernel_rfl) (fun _ _ _ h => h) (Or.inl ⟨by rfl, ?_⟩) hHeld ?_
            rotate_left
            · intro w hSw
              (try dsimp only at hSw)
              go_simp
              try with_reducible rfl
            go_simp
            refine wpAnyH_done (by kernel_rfl) ?_ _
            refine QN.normal ?_
            have HC9 := Lib.hid (HC.out.next HJ.out HJL.out hd0)
            have HK9 : Hid (KeptS S' V wr.drew) := Lib.hid (HK.out.trans (KeptS.of_below (S := S') hd0) (fun k h => .inl h))
            have RX9 := Lib.hid (RX1.out.below hd0 RX1.out.lt)
            have HP9 : Hid ((ps1.map ptP, (z :: L2).map vI) = PP) := Lib.hid (by rw [← HPO.out, List.map_cons, popI, if_neg (by show ¬ z.pl ≤ (xa : Int); omega)])
            clear HC HK RX1 HPO MK1 MK7 hd0 hd1 hbi0
            generalize hL1 : z :: L2 = L1 at *
            generalize hX1 : (some ⟨bX, oX, none⟩ : Option Addr) = X1 at *
            obtain ⟨we, hwe⟩ : ∃ we, we = wr.drew := ⟨_, rfl⟩
            rw [← hwe] at HC9 HK9 RX9 ⊢
            clear hwe
            have b0 := RX9.out.cell 0
            have b1 := RX9.out.cell 1
            have b2 := RX9.out.cell 2
            have c0 := HC9.out.box.cell 0
            have c1 := HC9.out.box.cell 1
            have c2 := HC9.out.box.cell 2
            have f0 := HC9.out.box.free 0
            have f1 := HC9.out.box.free 1
            have f2 := HC9.out.box.free 2
            have HPQ := Lib.hid fun (Y : List Spot) => linesP_pop (xh := xh) (xo := xo) (f := fr) (List.Pairwise.map vI (fun _ _ h => h) H.out.ord) (HP9.out.trans HPP.out) Y
            have HSL1 := Lib.hid (HC9.out.ltS HJL.out)
            have hVe : V.heap.size ≤ we.heap.size := HK9.out.zero.size
            have HST : Hid (∀ k, T1 k → S' k ∨ V.heap.size ≤ k) := Lib.hid fun k g => (HT1.out k g).imp (fun g => (HSS.out k).2 (.inr g)) id
            have HSO : Hid (∀ k, So k → S' k) := Lib.hid fun k g => (HSS.out k).2 (.inl g)
            have HBX := Lib.hid HC9.out.box
            have HAP := Lib.hid HC9.out.apart.1
            rcases (show xh = 0 ∨ xh = 1 ∨ xh = 2 by omega) with hx | hx | hx
            · subst hx
              have HPY : Hid (∀ Y, preO.map lnS ++ linesP Y (plP (ps1.map ptP) xa xo) fr (_) = linesP ((pre ++ [⟨xa, 0, xo⟩]) ++ Y) [] f (I0.map vI)) := Lib.hid fun Y => by have := HEQ.out (⟨xa, 0, xo⟩ :: Y); rw [HPQ.out, if_pos rfl] at this; rw [this, List.append_assoc]; rfl
              clear HPQ HEQ
              gi_wp2_with fail
              refine ⟨trivial, fun h => (by cases h), ?_⟩
              refine (CallsIn.inRound l (callsIn_wide.2 (soPlain_any T1 v1 ps1 xa _ xo we HC9.out.pr (by omega) (fun s hs => by have := HRN1.out s hs; omega)))).mono ?_
              rintro e w5 ⟨v5, ps5, rfl, hk5, hp5, hm5, hl5, hn5⟩
              obtain ⟨hC5, hK5⟩ := HC9.out.parts HJ.out HJL.out hk5 hp5
              have hbx5 : RawAt 40 w5 (W.heap.size + 1) #[v1, .int .i64 (fr : Int), .int .i64 0] := (hk5.kept _ HBX.out.lt HAP.out).trans HBX.out
              have g0 := hbx5.cell 0
              have g1 := hbx5.free 0
              obtain ⟨A5, c5, rfl⟩ := hp5.len
              have HC5 := Lib.hid hC5
              have HK5 := Lib.hid hK5
              have HM5 := Lib.hid hm5
              have HN5 := Lib.hid (hn5 _ HRN1.out)
              clear hC5 hK5 hk5 hp5 hm5 hbx5 hn5 b0 b1 b2 c0 c1 c2 f0 f1 f2
              gi_wp2
              refine ⟨HK9.out.trans HK5.out HST.out, fun k => So k ∨ (T1 k ∨ (we.heap.size ≤ k ∧ k < w5.heap.size)), fun k g => ?_, So, _, preO, _, ps5, fr, _, _, _, HC5.out, fun k => Iff.rfl, ?_, fun s hs => ?_, ?_, fun Y => ?_⟩
              · rcases g with g | g | ⟨g, _⟩
                · exact .inl (HSO.out k g)
                · exact (HST.out k g).imp id .inr
                · exact .inr (.inr (by omega))
              · rw [List.length_append, List.length_singleton]; omega
              · have := HN5.out s hs; rw [List.length_append, List.length_singleton]; omega
              · rw [List.length_append, List.length_singleton]; omega
              · rw [HM5.out]; exact HPY.out Y
            · subst hx
              have HPY : Hid (∀ Y, preO.map lnS ++ linesP Y (ps1.map ptP ++ [⟨3, xa, []⟩]) fr (_) = linesP ((pre ++ [⟨xa, 1, xo⟩]) ++ Y) [] f (I0.map vI)) := Lib.hid fun Y => by have := HEQ.out (⟨xa, 1, xo⟩ :: Y); rw [HPQ.out, if_neg (by decide), if_pos rfl] at this; rw [this, List.append_assoc]; rfl
              have VV := Lib.hid (HC9.out.virt HJ.out HJL.out (w4 := we) (kd := 3) (pl := (xa : Int)) (A4 := none) (n4 := 0) (c4 := 0) (rs := []) (Below.refl _ _) (World.ownsRow_nil _ _ _ _))
              obtain ⟨A1, c1v, rfl⟩ := HC9.out.pr.len
              clear HPQ HEQ
              gi_wp2_with (gi_at_builtin; refine wpListIn_appK (enc := ptcs) part_slt ptcs_len (by omega) rfl (.tmp 62) (.tmp 66) rfl rfl VV.out.1 (some ⟨we.heap.size, 0, none⟩) 1 1 [⟨3, (xa : Int), none, 0, 0, []⟩] rfl VV.out.2.1 ⟨Nat.le_refl _, fun h => by cases h⟩ rfl (kfl_one' ptcs_one _) (by simp only [maxLen]; omega) (by omega) (Nat.zero_le _) ?_; intro v6 w6 hown6 hg6 hn6; obtain ⟨hk6, hC6, hK6⟩ := VV.out.2.2 v6 w6 hown6 hg6 hn6; have hbx6 := RawAt.cell (t := 40) ((hk6.kept _ HBX.out.lt HAP.out).trans HBX.out) 0; have hbf6 := RawAt.free (t := 40) ((hk6.kept _ HBX.out.lt HAP.out).trans HBX.out) 0; obtain ⟨A6, c6, rfl⟩ := own_form hown6; have HC6 := Lib.hid hC6; have HK6 := Lib.hid hK6; clear hown6 hg6 hn6 hk6 hC6 hK6)
              refine ⟨HK9.out.trans HK6.out HST.out, fun k => So k ∨ (T1 k ∨ (we.heap.size ≤ k ∧ k < w6.heap.size)), fun k g => ?_, So, _, preO, _, _, fr, _, _, _, HC6.out, fun k => Iff.rfl, ?_, fun s hs => ?_, ?_, fun Y => ?_⟩
              · rcases g with g | g | ⟨g, _⟩
                · exact .inl (HSO.out k g)
                · exact (HST.out k g).imp id .inr
                · exact .inr (.inr (by omega))
              · rw [List.length_append, List.length_append, List.length_singleton, List.length_singleton]; omega
              · rw [List.length_append, List.length_singleton]
                rcases List.mem_append.1 hs with hs | hs
                · have := HRN1.out s hs; omega
                · rw [List.mem_singleton.1 hs]; show 0 ≤ _; omega
              · rw [List.length_append, List.length_singleton]; omega
              · rw [List.map_append]; exact HPY.out Y
            · subst hx
              have HPY : Hid (∀ Y, preO.map lnS ++ ⟨ps1.map ptP, fr, xa⟩ :: linesP Y [] (xa + 1) (_) = linesP ((pre ++ [⟨xa, 2, xo⟩]) ++ Y) [] f (I0.map vI)) := Lib.hid fun Y => by have := HEQ.out (⟨xa, 2, xo⟩ :: Y); rw [HPQ.out, if_neg (by decide), if_neg (by decide)] at this; rw [this, List.append_assoc]; rfl
              obtain ⟨A1, c1v, rfl⟩ := HC9.out.pr.len
              obtain ⟨e1, e2, e3, e4, e5, e6, e7⟩ := HC9.out.emit HJ.out HJL.out xa
              have y0 := e5.cell 0
              have l0 := e4.cell 0
              have l1 := e4.cell 1
              have l2 := e4.cell 2
              have wr1 : IntKind.i64.wrap ((xa : Int) + 1) = ((xa + 1 : Nat) : Int) := by rw [IntWalk.i64_in _ (by omega)]; omega
              have E3 := Lib.hid e3
              have E6 := Lib.hid e6
              have E7 := Lib.hid e7
              have hbnd : preO.length < N := by have := HNN.out; omega
              obtain ⟨fn, tmps, assign, body, hy, hR⟩ := anyDepthY rfl (n - 1 - 1 - 1) (HY.out So preO ⟨A1, c1v, ps1, fr, xa⟩ (prB (.slice A1 ps1.length c1v) ps1) _ e1 hbnd e2 e3)
              have hR' : RoundIn (Fence.wide.inRound l) (n - 1 - 1 - 1) Tryz.prog lp fn tmps assign body _ _ := hR
              simp only [encLn] at hy
              clear HPQ HEQ e1 e2 e3 e4 e5 e6 e7 hR
              gi_wp2
              refine ⟨fun h => (by cases h), ?_⟩
              refine hR'.mono ?_
              rintro e W6 (⟨rfl, hk6, So', hs6, hJ6⟩ | ⟨rfl, hk6, So', hs6, hJx6⟩)
              · obtain ⟨bx6, e8⟩ := E7.out W6 So' _ hk6 hs6 hJ6
                have m0 := bx6.cell 0
                have m1 := bx6.cell 1
                have m2 := bx6.cell 2
                have n0 := bx6.free 0
                have n1' := bx6.free 1
                have n2 := bx6.free 2
                have rx6 : RawAt 113 W6 Bx #[.int .i64 (xa : Int), .int .i64 ((2 : Nat) : Int), .int .i32 xo] := (hk6.kept Bx (by rw [World.size_setCell]; exact RX9.out.lt) (fun g => by have := (HSB.out Bx (HSO.out Bx g)).1; omega)).trans ((Below.heap_setCell _ (⟨W.heap.size + 1, 2, none⟩ : Addr) _ _ (fun e => hnBx (by have h9 := HC9.out.tb.1; rw [← show Bx = W.heap.size + 1 from e] at h9; exact h9))).trans RX9.out)
                have p0 := rx6.cell 0
                have E8 := Lib.hid e8
                have BX6 := Lib.hid bx6
                have HS6 := Lib.hid hs6
                clear e8 bx6 hk6 hs6 hJ6 hR' hy y0 l0 l1 l2 rx6
                gi_wp2
                have hb7 : RawAt 40 (((W6.setCell ⟨W.heap.size + 1, 0, none⟩ (.slice none 0 0)).setCell ⟨W.heap.size + 1, 1, none⟩ (.int .i64 ((xa : Int) + 1))).setCell ⟨W.heap.size + 1, 2, none⟩ (.int .i64 0)) (W.heap.size + 1) #[.slice none 0 0, .int .i64 ((xa + 1 : Nat) : Int), .int .i64 0] := by
                  have := ((BX6.out.set_ 0 (.slice none 0 0)).set_ 1 (.int .i64 ((xa : Int) + 1))).set_ 2 (.int .i64 0)
                  simpa using this
                have hf7 : ∀ k, k ≠ W.heap.size + 1 → (((W6.setCell ⟨W.heap.size + 1, 0, none⟩ (.slice none 0 0)).setCell ⟨W.heap.size + 1, 1, none⟩ (.int .i64 ((xa : Int) + 1))).setCell ⟨W.heap.size + 1, 2, none⟩ (.int .i64 0)).heap[k]? = W6.heap[k]? := fun k hk => (Below.heap_setCell _ (⟨W.heap.size + 1, 2, none⟩ : Addr) _ _ hk).trans ((Below.heap_setCell _ (⟨W.heap.size + 1, 1, none⟩ : Addr) _ _ hk).trans (Below.heap_setCell _ (⟨W.heap.size + 1, 0, none⟩ : Addr) _ _ hk))
                have hz7 : Below 0 W6 (((W6.setCell ⟨W.heap.size + 1, 0, none⟩ (.slice none 0 0)).setCell ⟨W.heap.size + 1, 1, none⟩ (.int .i64 ((xa : Int) + 1))).setCell ⟨W.heap.size + 1, 2, none⟩ (.int .i64 0)) := (((Below.refl 0 W6).setCell (p := ⟨_, _, none⟩) (Nat.zero_le _) _).setCell (p := ⟨_, _, none⟩) (Nat.zero_le _) _).setCell (p := ⟨_, _, none⟩) (Nat.zero_le _) _
                obtain ⟨hC7, hK7⟩ := E8.out _ (xa + 1) hb7 hf7 hz7
                refine ⟨HK9.out.trans hK7 (fun k g => g.elim (fun g => .inl (HSO.out k g)) (HST.out k)), fun k => So' k ∨ (T1 k ∧ ¬ So' k), fun k g => ?_, So', _, _, _, [], xa + 1, _, _, _, hC7, fun k => Iff.rfl, ?_, fun s hs => (by cases hs), ?_, fun Y => ?_⟩
                · rcases g with g | g
                  · rcases HS6.out k g with g | g | g
                    · exact .inl (HSO.out k g)
                    · exact (HST.out k (HC9.out.pr.sub k g)).imp id .inr
                    · rw [World.size_setCell] at g; exact .inr (.inr (by omega))
                  · exact (HST.out k g.1).imp id .inr
                · rw [List.length_append, List.length_singleton]; simp only [List.length_nil]; omega
                · rw [List.length_append, List.length_append, List.length_singleton, List.length_singleton]; omega
                · rw [← HPY.out Y, List.map_append, List.append_assoc]; rfl
              · have HK6 := Lib.hid (hk6)
                have HS6 := Lib.hid hs6
                have HJX6 := Lib.hid hJx6
                clear hk6 hs6 hJx6 hR' hy y0 l0 l1 l2
                gi_wp2
                refine ⟨(HK9.out.trans E6.out HST.out).trans HK6.out (fun k g => .inl (HSO.out k g)), So', fun k g => ?_, rfl, So', preO ++ [⟨A1, c1v, ps1, fr, xa⟩], fun k g => g, fun k g => ?_, HJX6.out, fun Y => ⟨_, by rw [← HPY.out Y, List.map_append, List.append_assoc]; rfl⟩⟩
                · rcases HS6.out k g with g | g | g
                  · exact .inl (HSO.out k g)
                  · exact (HST.out k (HC9.out.pr.sub k g)).imp id .inr
                  · rw [World.size_setCell] at g; exact .inr (.inr (by omega))
                · rcases HS6.out k g with g | g | g
                  · exact HC9.out.geS k g
                  · exact (E3.out k g).2.2
                  · rw [World.size_setCell] at g; have := HC9.out.below.size; omega

end Go.Proofs.YtpnjokhhbjpciaaGreatDoor
