/- The document's own answers of trees: Replace. -/
import Derived.Test.YtbbplppcabeojaaItOwn
import Derived.Test.YtbbplppcabeojaaItCut
namespace Go.Proofs.Ytbbplppcabeojaa
open Go.RowKit
theorem wpList_append_ritems {w : World} {ops : Array Oper} {rest : List Oper} {o : Oper} {a : Act} {Q : Exit → Act → World → Prop} (hgd : o.guard = none) (s x : Operand)
    (ho : o.op = .call { callee := .builtin .append, args := #[s, x], argTypes := #[30, 30] })
    (base : Nat) (v : Value) (n : Nat) (xs : List Value) (hs : a.eval s = v) (hown : w.ownsRow base 75 7 v n xs)
    (A : Option Addr) (m c : Nat) (l : List I7) (hx : a.eval x = .slice A m c) (hA : ItsAt w A l) (hcap : Caps A m c) (hl : l.length = m) (hsz : n + m ≤ 1000000000) (hbase : base ≤ w.heap.size)
    (h : ∀ v' w', w'.ownsRow base 75 7 v' (n + m) (xs ++ iflat l) → w.grownBy w' v.ownBlock → wpList Try.prog ops Q rest (a.put o.dst v') w') : wpList Try.prog ops Q (o :: rest) a w := by
  obtain ⟨i0, hi0, hz0, hz1, hz2⟩ := info_parts ritem_info
  rcases A with _ | ad
  · obtain rfl := hcap.2 rfl
    have hm : m = 0 := by have := hcap.1; omega
    subst hm
    have hl0 : l = [] := List.eq_nil_of_length_eq_zero hl
    subst hl0
    exact wpList_append_own_none hgd s x _ ho base 75 i0 7 Try.underlying30 hi0 v n xs hs hown hx (h v w (by simpa [iflat] using hown) (World.grownBy.refl w _))
  · exact wpList_append_own w hgd s x _ ho base 75 i0 _ 7 64 Try.underlying30 hi0 hz0 hz1 hz2 rfl (by omega) v n xs hs hown ad m c (iflat l) hx (by rw [iflat_length]; omega) hA.news
      (iflat_one l) (by simp only [maxLen]; omega) (by omega) hbase (fun v' w' h1 h2 _ => h v' w' h1 h2)
theorem Caps.cut {A : Option Addr} {n c : Nat} (h : Caps A n c) (k m : Nat) (hk : k + m ≤ n) : Caps (cutI A c k) m (c - k) := by
  obtain ⟨h1, h2⟩ := h
  refine ⟨by omega, fun e => ?_⟩
  unfold cutI at e
  by_cases hc : c = k
  · omega
  · rw [if_neg hc] at e
    cases A with
    | none => have := h2 rfl; omega
    | some a => simp at e
set_option maxHeartbeats 4000000 in
set_option maxRecDepth 100000 in
theorem rrepl_any (A : Option Addr) (n c : Nat) (l : List I7) (x y : Nat) (B : Option Addr) (m d : Nat) (more : List I7) (w : World) (hA : ItsAt w A l) (hl : l.length = n) (hc : Caps A n c) (hn : n ≤ 100000)
    (hB : ItsAt w B more) (hm : more.length = m) (hd : Caps B m d) (hmn : m ≤ 100000) (hx : x ≤ y) (hy : y ≤ n) :
    Calls Try.prog 16 #[.slice A n c, .agg #[.int .i64 x, .int .i64 y], .slice B m d] w fun e w' => ∃ A' c', e = .returned (.slice A' (x + m + (n - y)) c') ∧ Below w.heap.size w w' ∧ ItsAt w' A' (l.take x ++ more ++ l.drop y) ∧ Caps A' (x + m + (n - y)) c' := by
  obtain ⟨i0, hi0, _, _, _⟩ := info_parts ritem_info
  have s1 := fun W : World => cut_front (P := Try.prog) Try.underlying30 hi0 A n c x (by have := hc.1; omega) W
  have s2 := fun W : World => cut_back7 (P := Try.prog) Try.underlying30 hi0 (by kernel_rfl) A n c y hy W
  have HC2 := Lib.hid (hc.cut y (n - y) (by omega))
  have HC1 := Lib.hid (show Caps A x c from ⟨by have := hc.1; omega, hc.2⟩)
  have HA1 := Lib.hid fun (W : World) (hW : Below w.heap.size w W) => (hA.front x).below hW
  have hcut := hA.cut hl hc.1 y (n - y) (by omega)
  rw [show (l.drop y).take (n - y) = l.drop y from List.take_of_length_le (by rw [List.length_drop]; omega)] at hcut
  have HA2 := Lib.hid fun (W : World) (hW : Below w.heap.size w W) => hcut.below hW
  have HB := Lib.hid fun (W : World) (hW : Below w.heap.size w W) => hB.below hW
  have HL1 := Lib.hid (show (l.take x).length = x from by rw [List.length_take]; omega)
  have HL2 := Lib.hid (show (l.drop y).length = n - y from by rw [List.length_drop]; omega)
  have HM := Lib.hid hm
  have HD := Lib.hid hd
  clear hcut hA hB hl hm hc hd
  generalize hAA : cutI A c y = AA at *
  have HAA := Lib.hid hAA; clear hAA
  generalize hcc : c - y = cc at *
  have HCC := Lib.hid hcc; clear hcc
  generalize hnn : n - y = nn at *
  have hnn2 : nn ≤ 100000 := by omega
  have HNN := Lib.hid hnn; clear hnn
  go_enter Try.func16, Try.ntmps16
  go_wp2_with (first
    | (at_builtin; refine wpList_append_ritems rfl (.tmp 8) (.tmp 12) rfl (w.heap.size + 1) (.slice none 0 0) 0 [] rfl (World.ownsRow_nil _ _ _ _) A x c (l.take x) rfl (HA1.out _ (((Below.refl _ _).alloc (Nat.le_refl _) _))) HC1.out HL1.out (by omega) (by simp) ?_; intro v3 w3 hown3 hg3; have a3 : Below w.heap.size w w3 := ((Below.refl _ _).alloc (Nat.le_refl _) _).grown hg3 (by simp) (fun k hk => by simp [Value.ownBlock] at hk); rw [Nat.zero_add, List.nil_append] at hown3; have r3 : RawAt 36 w3 w.heap.size #[.int .i64 x, .int .i64 y] := (hg3.block w.heap.size (by simp) (by simp [Value.ownBlock])).trans (heap_alloc_new w _); have hz3 := RawAt.lt r3; have q1 : w3.cell? ⟨w.heap.size, 1, none⟩ = some (.int .i64 y) := RawAt.cell r3 1)
    | (at_builtin; refine wpList_append_ritems rfl (.tmp 14) (.tmp 15) rfl (w.heap.size + 1) v3 x (iflat (l.take x)) rfl hown3 B m d more rfl (HB.out _ a3) HD.out HM.out (by omega) (by omega) ?_; intro v4 w4 hown4 hg4; have a4 : Below w.heap.size w w4 := a3.grown hg4 a3.size (fun k hk => by have := (hown3.lt k hk).1; omega); have r4 : RawAt 36 w4 w.heap.size #[.int .i64 x, .int .i64 y] := (hg4.block w.heap.size hz3 (fun e => by have := (hown3.lt _ e.symm).1; omega)).trans r3; have hz4 := RawAt.lt r4; have q2 : w4.cell? ⟨w.heap.size, 1, none⟩ = some (.int .i64 y) := RawAt.cell r4 1; rw [← iflat_append] at hown4)
    | (at_builtin; refine wpList_append_ritems rfl (.tmp 17) (.tmp 21) rfl (w.heap.size + 1) v4 (x + m) (iflat (l.take x ++ more)) rfl hown4 AA nn cc (l.drop y) rfl (HA2.out _ a4) HC2.out HL2.out (by omega) (by omega) ?_; intro v5 w5 hown5 hg5))
  have a5 : Below w.heap.size w w5 := a4.grown hg5 a4.size (fun k hk => by have := (hown4.lt k hk).1; omega)
  rw [← iflat_append] at hown5
  obtain ⟨A7, c7, rfl, hI7, _, hC7⟩ := its_of_own hown5
  go_wp2
  go_ret
  exact ⟨A7, c7, rfl, a5, hI7, hC7⟩
end Go.Proofs.Ytbbplppcabeojaa
