/- The contract of utf.Decode. -/
import Derived.Test.YtaemndioleofjaaGreatUtfBase
import Derived.Test.YtaemndioleofjaaGreatOwn
namespace Go.Proofs.YtaemndioleofjaaGreat
open Go.RowKit
theorem IntsAt.of_own {w : World} {base n : Nat} {e : TypeId} {kd : IntKind} {v : Value} {l : List Int} (h : w.ownsRow base e 1 v n (l.map (.int kd))) : ∃ A c, v = .slice A n c ∧ IntsAt kd w A l ∧ l.length = n ∧ Caps A n c := by
  have hl : l.length = n := by have := h.1; rw [List.length_map] at this; omega
  rcases h.2 with ⟨rfl, rfl⟩ | ⟨g, cap, cur, rfl, hbg, hh, hnc, _, hsz, htake⟩
  · exact ⟨none, 0, rfl, fun hp => by omega, hl, Nat.le_refl _, fun _ => rfl⟩
  · refine ⟨_, cap, rfl, fun _ => ⟨g, 0, rfl, block_lt hh, fun k hk => ?_⟩, hl, hnc, fun h => by cases h⟩
    rw [cell_of_row w g _ cur e (0, 0) hh, ← Array.getElem?_toList, Nat.zero_add]
    have h2 : (l.map (Value.int kd))[k]? = some (.int kd (nth l k)) := by simp [nth, List.getD, hk]
    rw [← htake, List.getElem?_take, if_pos (by omega)] at h2
    exact h2
theorem own_iter {w : World} {base : Nat} {e : TypeId} {size : Nat} {v : Value} {n : Nat} {xs : List Value} (h : w.ownsRow base e size v n xs) {k : Nat} {s : ByteArray} {p : Nat} (hit : w.heap[k]? = some (.stringIter s p)) (p' : Nat) :
    (w.iterAt k s p').ownsRow base e size v n xs := by
  obtain ⟨h1, h2⟩ := h
  refine ⟨h1, ?_⟩
  rcases h2 with h2 | ⟨g, cap, cur, a, b, c, d⟩
  · exact .inl h2
  · have hne : g ≠ k := by
      rintro rfl
      rw [hit] at c
      cases c
    exact .inr ⟨g, cap, cur, a, b, by rw [Lib.iterAt_other _ _ _ _ _ (by omega)]; exact c, d⟩
theorem own_not_iter {w : World} {base : Nat} {e : TypeId} {size : Nat} {v : Value} {n : Nat} {xs : List Value} (h : w.ownsRow base e size v n xs) {k : Nat} {s : ByteArray} {p : Nat} (hit : w.heap[k]? = some (.stringIter s p)) : some k ≠ v.ownBlock := by
  rcases h.2 with ⟨rfl, _⟩ | ⟨g, cap, cur, rfl, _, c, _⟩
  · simp [Value.ownBlock]
  · intro e
    simp [Value.ownBlock] at e
    subst e
    rw [hit] at c
    cases c
theorem one_new (w : World) (a : Value) (t : TypeId) : ∀ (j : Nat) (u : Value), [a][j]? = some u → (w.alloc (.cells #[a] t)).cell? ((⟨w.heap.size, 0, none⟩ : Addr).add j) = some u := by
  intro j u hu
  rw [Go.WideShapes.add_plain, cell_of_row _ _ _ _ t _ (heap_alloc_new w _), Nat.zero_add, ← Array.getElem?_toList]
  exact hu
set_option maxHeartbeats 1000000 in
theorem decode_any (s : ByteArray) (w : World) (hs : s.size ≤ 1000000000) :
    Calls Tryz.prog 45 #[.string s] w fun e w' => ∃ A c, e = .returned (.slice A (dec s).length c) ∧ Below w.heap.size w w' ∧ IntsAt .i32 w' A (dec s) ∧ Caps A (dec s).length c := by
  obtain ⟨i0, hi0, hz0, hz1, hz2⟩ := info_parts i32_info
  have hlen := dec_len s
  have hct := fun W => count_any s W hs
  obtain ⟨D, hD⟩ : ∃ D, D = dec s := ⟨_, rfl⟩
  rw [← hD] at hlen ⊢
  simp only [← hD] at hct
  have HC := Lib.hid hct; clear hct
  have HD := Lib.hid hD; clear hD
  obtain ⟨N, hN⟩ : ∃ N, N = D.length := ⟨_, rfl⟩
  rw [← hN] at hlen ⊢
  simp only [← hN] at HC
  have HN := Lib.hid hN; clear hN
  go_enter Tryz.func45, Tryz.ntmps45
  go_wp2_with fail
  refine (HC.out _).mono ?_
  rintro e w1 ⟨rfl, hb1⟩
  go_wp2_with (at_make; refine wpList_make_own _ rfl _ _ 28 rfl w.heap.size 21 i0 (.int .i32 0) 1 Tryz.underlying28 hi0 hz0 hz1 .i64 .i64 _ N rfl rfl (by omega) (by rw [hz2]; omega) (by unfold maxLen; omega) hb1.size ?_; intro w2 hown2 hgrow2)
  have hb2 : Below w.heap.size w w2 := hb1.grown hgrow2 hb1.size (fun k hk => by cases hk)
  clear hb1
  go_loopg [3] (s.size + 1) (fun k v wr => ∃ (pos f : Nat) (acc : List Int), wr.ownsRow w.heap.size 21 1 v acc.length (acc.map (.int .i32)) ∧ wr.heap[w2.heap.size]? = some (.stringIter s pos) ∧ Below w.heap.size w wr ∧ s.size ≤ pos + f ∧ f < k ∧ Hid (D = acc ++ decF s f pos) ∧ acc.length + (decF s f pos).length ≤ s.size)
  case atStart => exact ⟨0, s.size, [], hown2.alloc _, World.iter_heap w2 s 0, hb2.alloc hb2.size _, by omega, by omega, HD.out, by have := dec_len s; unfold dec at this; simpa using this⟩
  case round =>
    obtain ⟨pos, f, acc, hown, hit, hb, h1, h2, h3, h4⟩ := hrel
    have hw2 := hb2.size
    by_cases hp : pos < s.size
    · have hnx : ∀ ty, (Instr.next (.pointer (some ⟨w2.heap.size, 0, none⟩)) true ty).run Tryz.prog wr = _ := fun ty => Lib.run_next_any_at wr w2.heap.size s pos ty hit hp
      have hwd := width_ge s pos
      obtain ⟨f, rfl⟩ : ∃ f', f = f' + 1 := ⟨f - 1, by omega⟩
      rw [decF_step hp] at h3 h4
      simp only [List.length_cons] at h4
      have hit2 := Lib.iterAt_heap wr w2.heap.size s pos (pos + (Utf8.decode s pos).2) hit
      have hb3 := Lib.below_iterAt hb (k := w2.heap.size) hw2 s (pos + (Utf8.decode s pos).2)
      have hown3 := own_iter hown hit (pos + (Utf8.decode s pos).2)
      obtain ⟨W1, hW1⟩ : ∃ W1, W1 = wr.iterAt w2.heap.size s (pos + (Utf8.decode s pos).2) := ⟨_, rfl⟩
      rw [← hW1] at hnx hit2 hb3 hown3
      have hne := own_not_iter hown3 hit2
      have hltt := block_lt hit2
      clear hW1 hit hb hown
      go_wp2_with (at_builtin; refine wpList_append_own _ rfl (.tmp 14) (.tmp 16) _ rfl w.heap.size 21 i0 (.int .i32 0) 1 4 Tryz.underlying28 hi0 hz0 hz1 hz2 rfl (by omega) _ acc.length (acc.map (.int .i32)) rfl (hown3.alloc _) ⟨W1.heap.size, 0, none⟩ 1 1 [.int .i32 ((Utf8.decode s pos).1 : Int)] rfl rfl (one_new _ _ _) (fun u hu => by simp at hu; subst hu; rfl) (by simp only [maxLen]; omega) (by omega) (by have := hb3.size; simp; omega) ?_; intro v4 w4 hown4 hg4 hnil4; clear hnil4)
      have hit4 : w4.heap[w2.heap.size]? = some (.stringIter s (pos + (Utf8.decode s pos).2)) := by
        rw [hg4.block w2.heap.size (by simp; omega) hne, Below.heap_alloc _ _ _ hltt]
        exact hit2
      have hb4 : Below w.heap.size w w4 := (hb3.alloc hb3.size _).grown hg4 (by have := hb3.size; simp; omega) (fun k hk => (hown3.lt k hk).1)
      go_roundg (gk - 1)
      case measure => omega
      case rel => exact ⟨_, f, acc ++ [((Utf8.decode s pos).1 : Int)], by simpa using hown4, hit4, hb4, by omega, by omega, by show D = _; rw [List.append_assoc]; exact h3, by simp; omega⟩
    · have hnx : ∀ ty, (Instr.next (.pointer (some ⟨w2.heap.size, 0, none⟩)) true ty).run Tryz.prog wr = _ := fun ty => Lib.run_next_end_at wr w2.heap.size s pos ty hit hp
      rw [decF_end hp, List.append_nil] at h3
      go_wp2
      go_ret
      obtain ⟨A, c, e, hI, hl, hcap⟩ := IntsAt.of_own hown
      have hD' : D = acc := h3
      rw [HN.out, hD']
      exact ⟨A, c, by rw [← e]; rfl, hb, hI, hcap⟩
end Go.Proofs.YtaemndioleofjaaGreat
