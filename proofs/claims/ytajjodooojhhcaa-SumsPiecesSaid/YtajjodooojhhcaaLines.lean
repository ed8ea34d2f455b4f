/- The lengths of a text's lines as the document's own answer has them: the contract of bodkinref03.Lines. -/
import Derived.Test.YtajjodooojhhcaaLinesPure
import Derived.Laws.AppendOwnNone
namespace Go.Proofs.Ytajjodooojhhcaa
open Go.RowKit
theorem i64_info : (Try.prog.info? 3).map (fun i => (i.zero, i.size, i.bytes)) = some (some (.int .i64 0), 1, 8) := by kernel_rfl
theorem one_new2 (w : World) (a : Value) (t : TypeId) : ∀ (j : Nat) (u : Value), [a][j]? = some u → (w.alloc (.cells #[a] t)).cell? ((⟨w.heap.size, 0, none⟩ : Addr).add j) = some u := by
  intro j u hu
  rw [Go.WideShapes.add_plain, cell_of_row _ _ _ _ t _ (heap_alloc_new w _), Nat.zero_add, ← Array.getElem?_toList]
  exact hu
theorem own_form {w : World} {base : Nat} {e : TypeId} {v : Value} {m : Nat} {xs : List Value} (h : w.ownsRow base e 1 v (m + 1) xs) : ∃ g cap, v = .slice (some ⟨g, 0, none⟩) (m + 1) cap := by
  rcases h.2 with ⟨_, h2⟩ | ⟨g, cap, cur, hv, _⟩
  · omega
  · exact ⟨g, cap, hv⟩
theorem own_ints {w : World} {base n : Nat} {e : TypeId} {kd : IntKind} {v : Value} {l : List Int} (h : w.ownsRow base e 1 v n (l.map (.int kd))) : ∃ A c, v = .slice A n c ∧ IntsAt kd w A l ∧ l.length = n ∧ Caps A n c := by
  have hl : l.length = n := by have := h.1; rw [List.length_map] at this; omega
  rcases h.2 with ⟨rfl, rfl⟩ | ⟨g, cap, cur, rfl, hbg, hh, hnc, _, hsz, htake⟩
  · exact ⟨none, 0, rfl, fun hp => by omega, hl, Nat.le_refl _, fun _ => rfl⟩
  · refine ⟨_, cap, rfl, fun _ => ⟨g, 0, rfl, block_lt hh, fun k hk => ?_⟩, hl, hnc, fun h => by cases h⟩
    rw [cell_of_row w g _ cur e (0, 0) hh, ← Array.getElem?_toList, Nat.zero_add]
    have h2 : (l.map (Value.int kd))[k]? = some (.int kd (nth l k)) := by simp [nth, List.getD, hk]
    rw [← htake, List.getElem?_take, if_pos (by omega)] at h2
    exact h2
theorem own_last {w : World} {base : Nat} {e : TypeId} {g m cap : Nat} {xs : List Value} {a : Value} (h : w.ownsRow base e 1 (.slice (some ⟨g, 0, none⟩) (m + 1) cap) (m + 1) (xs ++ [a])) :
    w.cell? ⟨g, m, none⟩ = some a ∧ w.frozen? ⟨g, m, none⟩ = false ∧ base ≤ g ∧ m < cap ∧ ∀ u : Value, (w.setCell ⟨g, m, none⟩ u).ownsRow base e 1 (.slice (some ⟨g, 0, none⟩) (m + 1) cap) (m + 1) (xs ++ [u]) := by
  obtain ⟨h1, h2⟩ := h
  simp only [List.length_append, List.length_cons, List.length_nil] at h1
  have hxl : xs.length = m := by omega
  rcases h2 with ⟨h2, _⟩ | ⟨g', cap', cur, hv, hbg, hh, hnc, hcm, hsz, htake⟩
  · cases h2
  · simp only [Value.slice.injEq, Option.some.injEq, Addr.mk.injEq, and_true, true_and] at hv
    obtain ⟨rfl, rfl⟩ := hv
    rw [Nat.mul_one] at htake hsz
    have hcm' : cur[m]? = some a := by
      have : (cur.toList.take (m + 1))[m]? = some a := by rw [htake, ← hxl]; simp
      rw [List.getElem?_take, if_pos (by omega)] at this
      simpa using this
    refine ⟨by simp [World.cell?, hh, hcm'], by simp [World.frozen?, hh], hbg, by omega, fun u => ⟨by simp [hxl], .inr ⟨g, cap, cur.setIfInBounds m u, rfl, hbg, by simp [World.setCell, Array.getElem?_modify, hh], hnc, hcm, by simpa using hsz, ?_⟩⟩⟩
    rw [Nat.mul_one, Array.toList_setIfInBounds, List.take_set, htake, ← hxl, List.set_append_right _ _ (Nat.le_refl _)]
    simp
set_option maxHeartbeats 4000000 in
set_option maxRecDepth 100000 in
theorem lines_any (A : Option Addr) (n c : Nat) (l : List Int) (w : World) (hA : IntsAt .i32 w A l) (hl : l.length = n) (hn : n ≤ 1000000) :
    Calls Try.prog 29 #[.slice A n c] w fun e w' => ∃ g cap, e = .returned (.slice (some ⟨g, 0, none⟩) ((lns l).1.length + 1) cap) ∧ Below w.heap.size w w' ∧ IntsAt .i64 w' (some ⟨g, 0, none⟩) (lall l) := by
  obtain ⟨i0, hi0, hz0, hz1, hz2⟩ := info_parts i64_info
  have HA := Lib.hid hA; clear hA
  have HL := Lib.hid hl; clear hl
  go_enter Try.func29, Try.ntmps29
  go_wp2
  go_loopg [3, 9] n (fun k v i wr => ∃ (j : Nat), i = .int .i64 j ∧ j ≤ n ∧ n - j ≤ k ∧ Below w.heap.size w wr ∧ Hid (wr.ownsRow w.heap.size 3 1 v ((lns (l.take j)).1.length + 1) (((lns (l.take j)).1 ++ [(lns (l.take j)).2]).map (.int .i64))))
  case atStart => exact ⟨0, rfl, by omega, by omega, (Below.refl _ _).alloc (Nat.le_refl _) _, rfl, .inr ⟨w.heap.size, 1, #[.int .i64 0], rfl, Nat.le_refl _, heap_alloc_new w _, Nat.le_refl _, by unfold maxLen; omega, rfl, rfl⟩⟩
  case round =>
    obtain ⟨j, rfl, h1, h2, hb, hown⟩ := hrel
    have hlen := lns_len (l.take j)
    have hlj := List.length_take_le j l
    have hbs := hb.size
    by_cases hlt : j < n
    · have hm : j < l.length := by rw [HL.out]; exact hlt
      obtain ⟨b, off, rfl, hbs, hc⟩ := HA.out (by omega)
      have q := hc j hm
      clear hc
      obtain ⟨H1, H2⟩ := old_cells hb
      have hst := lns_take l hm
      have HM := Lib.hid hm; clear hm
      generalize lns (l.take j) = s at *
      obtain ⟨L, x⟩ := s
      simp only at hlen hown
      obtain ⟨g, cap, rfl⟩ := own_form hown.out
      generalize nth l j = r at *
      have hL : L.length ≤ 1000000 := by omega
      have hx0 : 0 ≤ x := hlen.2.1
      have hx1 : x ≤ 1000000 := by omega
      clear hlen hlj
      by_cases hr : r = 10
      · subst hr
        have HS := Lib.hid hst; clear hst
        go_wp2_with (at_builtin; refine wpList_append_own _ rfl (.tmp 15) (.tmp 16) _ rfl w.heap.size 3 i0 (.int .i64 0) 1 8 Try.underlying37 hi0 hz0 hz1 hz2 rfl (by omega) _ (L.length + 1) ((L ++ [x]).map (.int .i64)) rfl (hown.out.alloc _) ⟨wr.heap.size, 0, none⟩ 1 1 [.int .i64 0] rfl rfl (one_new2 _ _ _) (fun u hu => by simp at hu; subst hu; rfl) (by simp only [maxLen]; omega) (by omega) (by simp; omega) ?_; intro v4 w4 hown4 hg4 hnil4; clear hnil4)
        have hb4 : Below w.heap.size w w4 := (hb.alloc hb.size _).grown hg4 (by simp; omega) (fun k hk => (hown.out.lt k hk).1)
        go_roundg (gk - 1)
        case measure => omega
        case rel => exact ⟨j + 1, by go_num, by omega, by omega, hb4, by rw [HS.out]; refine Lib.hid ?_; simpa [lstep] using hown4⟩
      · have hrb : (r == 10) = false := by simpa using hr
        rw [show lstep (L, x) r = (L, x + 1) from if_neg hr] at hst
        have HS := Lib.hid hst; clear hst
        have ho := hown.out
        rw [List.map_append] at ho
        obtain ⟨d1, d2, d3, d4, d5⟩ := own_last ho
        have D5 := Lib.hid d5; clear d5 ho
        clear hr
        go_wp2
        go_roundg (gk - 1)
        case measure => omega
        case rel => exact ⟨j + 1, by go_num, by omega, by omega, hb.setCell (p := ⟨g, _, none⟩) d3 _, by rw [HS.out]; refine Lib.hid ?_; have := D5.out (.int .i64 (x + 1)); simpa using this⟩
    · have hj : j = n := by omega
      rw [List.take_of_length_le (by rw [HL.out]; omega)] at hown
      obtain ⟨g, cap, rfl⟩ := own_form hown.out
      have HJ := Lib.hid hj; clear hj hlen hlj
      go_wp2
      go_ret
      obtain ⟨A', c', e, hI, hl', hcap⟩ := own_ints hown.out
      simp only [Value.slice.injEq, true_and] at e
      obtain ⟨rfl, rfl⟩ := e
      exact ⟨g, cap, rfl, hb, hI⟩
end Go.Proofs.Ytajjodooojhhcaa
