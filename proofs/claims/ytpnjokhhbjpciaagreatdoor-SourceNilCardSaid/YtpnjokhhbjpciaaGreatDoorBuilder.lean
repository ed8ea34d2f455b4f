/- A Builder that a call has made, written rune by rune: the contracts of copyCheck (of one that was used) and WriteRune. A Builder that a call has made, written text by text: the contracts of copyCheck (also of a fresh one) and WriteString. The contract of utf.Encode: the encodings of all runes, one behind the other. The contract of utf.Clean. -/
import Derived.Test.YtpnjokhhbjpciaaGreatDoorBase
import Derived.Test.YtpnjokhhbjpciaaGreatDoorShelf
import Derived.Lib.Builder
import Derived.Lib.AppendStr
import Derived.OpenShut
namespace Go.Proofs.YtpnjokhhbjpciaaGreatDoor
open Go.RowKit
theorem builder_size : (Tryz.prog.info? 173).isSome = true := by kernel_rfl
set_option maxHeartbeats 1000000 in
set_option maxRecDepth 100000 in
theorem check_used (b : Nat) (w : World) (h0 : w.cell? ⟨b, 0, none⟩ = some (.pointer (some ⟨b, 0, none⟩))) :
    Calls Tryz.prog 134 #[.pointer (some ⟨b, 0, none⟩)] w fun e w' => e = .returned (.tuple #[]) ∧ w' = w := by
  obtain ⟨j, hj⟩ := Option.isSome_iff_exists.1 builder_size
  go_enter Tryz.func134, Tryz.ntmps134
  go_wp2
  rw [Lib.run_neq_ptr_same w _ Tryz.underlying171 hj]
  go_wp2
  go_end0
  exact ⟨rfl, rfl⟩
/-- The form of a row of bytes of the call's own. -/
theorem own_form1 {w : World} {B e n : Nat} {v : Value} {xs : List Value} (h : w.ownsRow B e 1 v n xs) : ∃ A c, v = .slice A n c := by
  rcases h.2 with ⟨rfl, rfl⟩ | ⟨g, cap, cur, rfl, _⟩
  · exact ⟨none, 0, rfl⟩
  · exact ⟨_, cap, rfl⟩
theorem own_ne {w : World} {B e n : Nat} {v : Value} {xs : List Value} (h : w.ownsRow B e 1 v n xs) {b : Nat} {cs : Array Value} {t : TypeId} {fz : Nat × Nat} (hb : w.heap[b]? = some (.cells cs t fz)) (hne : e ≠ t) : v.ownBlock ≠ some b := by
  rcases h.2 with ⟨rfl, _⟩ | ⟨g, cap, cur, rfl, _, c, _⟩
  · simp [Value.ownBlock]
  · intro e'
    simp [Value.ownBlock] at e'
    subst e'
    rw [hb] at c
    injection c with c
    injection c with _ ht
    exact hne ht.symm
theorem own_set1 {w : World} {B e n : Nat} {v : Value} {xs : List Value} (h : w.ownsRow B e 1 v n xs) {b : Nat} (hne : v.ownBlock ≠ some b) (i : Nat) (u : Value) : (w.setCell ⟨b, i, none⟩ u).ownsRow B e 1 v n xs := by
  refine ⟨h.1, ?_⟩
  rcases h.2 with h2 | ⟨g, cap, cur, rfl, hB, c, h3⟩
  · exact .inl h2
  · refine .inr ⟨g, cap, cur, rfl, hB, ?_, h3⟩
    rw [Below.heap_setCell w ⟨b, i, none⟩ u g (fun e' => hne (by simp only at e'; rw [← e']; rfl))]
    exact c
set_option maxHeartbeats 1000000 in
set_option maxRecDepth 100000 in
theorem writeRune_any (B b : Nat) (bs : List Value) (r : Int) (hr0 : -2147483648 ≤ r) (hr1 : r ≤ 2147483647) (w : World) (h : Lib.BuilderAt 173 5 B b (.pointer (some ⟨b, 0, none⟩)) bs w) (hlen : bs.length + 4 ≤ 1000000000) (hBw : B ≤ w.heap.size) :
    Calls Tryz.prog 116 #[.pointer (some ⟨b, 0, none⟩), .int .i32 r] w fun e w' => (∃ x, e = .returned x) ∧ Lib.BuilderAt 173 5 B b (.pointer (some ⟨b, 0, none⟩)) (bs ++ Lib.runeCells r) w' ∧ Below B w w' := by
  obtain ⟨hB, v, hb, hown, hne⟩ := h
  obtain ⟨A, c, rfl⟩ := own_form1 hown
  have c0 : w.cell? ⟨b, 0, none⟩ = some (.pointer (some ⟨b, 0, none⟩)) := by rw [cell_of_row w b 0 _ _ _ hb]; rfl
  have c1 : w.cell? ⟨b, 1, none⟩ = some (.slice A bs.length c) := by rw [cell_of_row w b 1 _ _ _ hb]; rfl
  have hbl : (bs.length : Int) ≤ 1000000000 := by omega
  have HB := Lib.hid hb; clear hb
  go_enter Tryz.func116, Tryz.ntmps116
  go_wp2_with fail
  refine (check_used b w c0).mono ?_
  rintro e w' ⟨rfl, rfl⟩
  go_wp2_with fail
  refine (Tryz.utf8_AppendRune_plain B _ bs.length bs r hr0 hr1 _ hown (by omega) hBw).mono ?_
  rintro e w1 ⟨v1, rfl, hown1, o, hg1⟩
  have hbl1 : b < w'.heap.size := block_lt HB.out
  have hb1 : w1.heap[b]? = some (.cells #[.pointer (some ⟨b, 0, none⟩), .slice A bs.length c] 173 (0, 0)) := by
    rw [hg1.block b (by simp; omega) (fun e => hne e.symm), Below.heap_alloc w' o b hbl1]
    exact HB.out
  have hlo := own_ne hown1 hb1 (by decide)
  obtain ⟨A1, d1, rfl⟩ := own_form1 hown1
  have k1 : w1.cell? ⟨b, 1, none⟩ = some (.slice A bs.length c) := by rw [cell_of_row w1 b 1 _ _ _ hb1]; rfl
  have f1 : w1.frozen? ⟨b, 1, none⟩ = false := by simp [World.frozen?, hb1]
  have hrl : (Lib.runeCells r).length ≤ 4 := by unfold Lib.runeCells; rw [List.length_map]; exact (Lib.encodeRuneZ_length r).2
  have hown2 := own_set1 hown1 hlo 1 (.slice A1 (bs.length + (Lib.runeCells r).length) d1)
  have hbw1 : Below B w' w1 := ((Below.refl B w').alloc hBw o).grown hg1 (by simp; omega) (fun k hk => (hown.lt k hk).1)
  have hb2 : (w1.setCell ⟨b, 1, none⟩ (.slice A1 (bs.length + (Lib.runeCells r).length) d1)).heap[b]? = some (.cells #[.pointer (some ⟨b, 0, none⟩), .slice A1 (bs.length + (Lib.runeCells r).length) d1] 173 (0, 0)) := by
    simp [World.setCell, Array.getElem?_modify, hb1]
  have HB2 := Lib.hid hb2; clear hb2 hb1
  have HO2 := Lib.hid hown2; clear hown2 hown1 hown
  clear c0 c1 hg1
  go_wp2_with fail
  go_ret2
  refine ⟨⟨_, rfl⟩, ⟨hB, _, HB2.out, by rw [List.length_append]; exact HO2.out, hlo⟩, hbw1.setCell (p := ⟨b, 1, none⟩) hB _⟩
theorem builder_cells : (Tryz.prog.info? 173).map (·.size) = some 2 := by kernel_rfl
theorem byte_info : (Tryz.prog.info? 5).map (fun i => (i.zero, i.size, i.bytes)) = some (some (.int .u8 0), 1, 1) := by kernel_rfl
set_option maxHeartbeats 1000000 in
set_option maxRecDepth 100000 in
theorem check_fresh (b : Nat) (w : World) (h0 : w.cell? ⟨b, 0, none⟩ = some (.pointer none)) (hsh : w.shape? b = some (173, 2)) (hfz : w.frozen? ⟨b, 0, none⟩ = false) :
    Calls Tryz.prog 134 #[.pointer (some ⟨b, 0, none⟩)] w fun e w' => e = .returned (.tuple #[]) ∧ w' = w.setCell ⟨b, 0, none⟩ (.pointer (some ⟨b, 0, none⟩)) := by
  obtain ⟨j, hj, hjs⟩ := Option.map_eq_some_iff.1 builder_cells
  go_enter Tryz.func134, Tryz.ntmps134
  go_wp2
  rw [Lib.run_to_unsafe w ⟨b, 0, none⟩ Tryz.underlying171 Tryz.underlying243 hj (by rw [hjs]; decide) hsh (Nat.zero_lt_succ 1)]
  simp only [Result.andThen]
  rw [Oper.upon_value]
  go_wp2
  rw [run_callFunc_extern Tryz.func160 (by kernel_rfl) (by kernel_rfl) (by kernel_rfl) (e := Extern.AbiNoEscape.same) (by kernel_rfl)]
  rw [Lib.run_noEscape]
  simp only [Result.andThen]
  rw [Oper.upon_value]
  go_wp2
  rw [Lib.run_from_unsafe w ⟨b, 0, none⟩ Tryz.underlying243 Tryz.underlying171 hj hsh (by kernel_rfl)]
  simp only [Result.andThen]
  rw [Oper.upon_value]
  go_wp2
  go_end0
  exact ⟨rfl, rfl⟩
/-- Blocks of other types stay, but one. -/
def Others (b : Nat) (w w' : World) : Prop := ∀ (t : TypeId) (k : Nat) (cs : Array Value), t ≠ 5 → k ≠ b → w.heap[k]? = some (.cells cs t (0, 0)) → w'.heap[k]? = some (.cells cs t (0, 0))
theorem bcheck_any (B b : Nat) (bs : List Value) (w : World) (h : Lib.IsBuilder 173 5 B b bs w) :
    Calls Tryz.prog 134 #[.pointer (some ⟨b, 0, none⟩)] w fun e w' => e = .returned (.tuple #[]) ∧ (Lib.BuilderAt 173 5 B b (.pointer (some ⟨b, 0, none⟩)) bs w' ∧ Below B w w' ∧ Others b w w') := by
  rcases h with h | h
  · refine (check_fresh b w h.cell0 h.shape h.frozen0).mono ?_
    rintro e w' ⟨rfl, rfl⟩
    exact ⟨rfl, h.used _, (Below.refl B w).setCell (p := ⟨b, 0, none⟩) h.1 _, fun t k cs _ hk hc => (Below.heap_setCell w ⟨b, 0, none⟩ _ k hk).trans hc⟩
  · refine (check_used b w h.cell0).mono ?_
    rintro e w' ⟨rfl, rfl⟩
    exact ⟨rfl, h, Below.refl B _, fun t k cs _ _ hc => hc⟩
set_option maxHeartbeats 2000000 in
set_option maxRecDepth 100000 in
theorem writeString_any (B b : Nat) (bs : List Value) (s : ByteArray) (w : World) (h : Lib.IsBuilder 173 5 B b bs w) (hlen : bs.length + s.size ≤ 1000000000) (hBw : B ≤ w.heap.size) :
    Calls Tryz.prog 104 #[.pointer (some ⟨b, 0, none⟩), .string s] w fun e w' => e = .returned (.tuple #[.int .i64 s.size, .nilIface]) ∧ (Lib.BuilderAt 173 5 B b (.pointer (some ⟨b, 0, none⟩)) (bs ++ Lib.strCells s) w' ∧ Below B w w' ∧ Others b w w') := by
  obtain ⟨i0, hi, hz0, hz1, hz2⟩ := info_parts byte_info
  go_enter Tryz.func104, Tryz.ntmps104
  go_wp2_with fail
  refine (bcheck_any B b bs _ h).mono ?_
  rintro e w1 ⟨rfl, h1, hb1, ho1⟩
  have HO1 := Lib.hid ho1
  clear ho1
  obtain ⟨hB, v, hbk, hown, hne⟩ := h1
  have c0 : w1.cell? ⟨b, 0, none⟩ = some (.pointer (some ⟨b, 0, none⟩)) := by rw [Lib.cell_of_heap hbk]; rfl
  have c1 : w1.cell? ⟨b, 1, none⟩ = some v := by rw [Lib.cell_of_heap hbk]; rfl
  have HT : Hid (∀ (t : TypeId) (k : Nat) (cs : Array Value), t ≠ 5 → w1.heap[k]? = some (.cells cs t (0, 0)) → v.ownBlock ≠ some k) := fun t k cs ht hk => Lib.ownBlock_ne hown hk ht
  go_wp2_with (at_builtin; refine Lib.wpList_append_own_string _ rfl _ _ 158 9 rfl B 5 i0 Tryz.underlying158 Tryz.underlying9 hi hz0 hz1 hz2 _ _ _ rfl hown s rfl ?c3 ?c4 ?c5 ?_)
  case c3 => unfold maxLen; omega
  case c4 => omega
  case c5 => have := hb1.size; omega
  intro v' w2 hown' hgrow _
  have hlt : b < w1.heap.size := block_lt hbk
  have hb2 : w2.heap[b]? = some (.cells #[.pointer (some ⟨b, 0, none⟩), v] 173 (0, 0)) := by
    rw [hgrow.block b hlt (fun e => hne e.symm)]
    exact hbk
  have d0 : w2.cell? ⟨b, 0, none⟩ = some (.pointer (some ⟨b, 0, none⟩)) := by rw [Lib.cell_of_heap hb2]; rfl
  have d1 : w2.cell? ⟨b, 1, none⟩ = some v := by rw [Lib.cell_of_heap hb2]; rfl
  have f1 : w2.frozen? ⟨b, 1, none⟩ = false := Lib.frozen_of_heap hb2 1
  have HO2 : Hid (Others b w w2) := fun t k cs ht hk hc => by
    have h1 := HO1.out t k cs ht hk hc
    exact (hgrow.block k (block_lt h1) (fun e => HT.out t k cs ht h1 e.symm)).trans h1
  obtain ⟨ao, n', cap, rfl⟩ : ∃ ao n' cap, v' = .slice ao n' cap := by
    rcases hown'.2 with ⟨hv, _⟩ | ⟨g, cap, cur, hv, _⟩
    · exact ⟨_, _, _, hv⟩
    · exact ⟨_, _, _, hv⟩
  go_wp2
  go_ret2
  refine ⟨rfl, ?_, ?_, ?_⟩
  · exact Lib.BuilderAt.put (T := 173) (e := 5) hB hb2 (bs' := bs ++ Lib.strCells s) (by simpa [Lib.strCells_length] using hown') (by decide)
  · exact (hb1.grown hgrow (by have := hb1.size; omega) (fun k hk => (hown.lt k hk).1)).setCell (p := ⟨b, 1, none⟩) hB _
  · exact fun t k cs ht hk hc => (Below.heap_setCell w2 ⟨b, 1, none⟩ _ k hk).trans (HO2.out t k cs ht hk hc)
theorem own_keep {w w' : World} {base n : Nat} {v : Value} {xs : List Value} (h : w.ownsRow base 5 1 v n xs) (hk : ∀ (k : Nat) (cs : Array Value), w.heap[k]? = some (.cells cs 5 (0, 0)) → w'.heap[k]? = w.heap[k]?) : w'.ownsRow base 5 1 v n xs := by
  refine ⟨h.1, ?_⟩
  rcases h.2 with h2 | ⟨g, cap, cur, rfl, hB, c, h3⟩
  · exact .inl h2
  · exact .inr ⟨g, cap, cur, rfl, hB, (hk g cur c).trans c, h3⟩
/-- A Builder stays where bytes and Builders stay. -/
theorem ib_keep {B b : Nat} {bs : List Value} {w w' : World} (h : Lib.IsBuilder 173 5 B b bs w) (hk : ∀ (t : TypeId) (k : Nat) (cs : Array Value), t = 5 ∨ t = 173 → w.heap[k]? = some (.cells cs t (0, 0)) → w'.heap[k]? = w.heap[k]?) : Lib.IsBuilder 173 5 B b bs w' := by
  have key : ∀ p, Lib.BuilderAt 173 5 B b p bs w → Lib.BuilderAt 173 5 B b p bs w' := fun p ⟨h1, v, h2, h3, h4⟩ =>
    ⟨h1, v, (hk _ _ _ (.inr rfl) h2).trans h2, own_keep h3 (fun k cs hc => hk _ _ _ (.inl rfl) hc), h4⟩
  exact h.elim (fun h => .inl (key _ h)) (fun h => .inr (key _ h))
theorem ib_below {B b : Nat} {bs : List Value} {w w' : World} (h : Lib.IsBuilder 173 5 B b bs w) (hb : Below w.heap.size w w') : Lib.IsBuilder 173 5 B b bs w' :=
  ib_keep h (fun _ k _ _ hc => hb.block k (block_lt hc))
set_option maxHeartbeats 1000000 in
set_option maxRecDepth 100000 in
theorem encode_any (A : Option Addr) (n c : Nat) (l : List Int) (w : World) (hA : IntsAt .i32 w A l) (hl : l.length = n) (hn : n ≤ 100000000) (hf : Fit l) :
    Calls Tryz.prog 80 #[.slice A n c] w fun e w' => e = .returned (.string ⟨(encAll l).toArray⟩) ∧ Below w.heap.size w w' := by
  have HL := Lib.hid hl; clear hl
  have HA := Lib.hid hA; clear hA
  have HF := Lib.hid hf; clear hf
  go_enter Tryz.func80, Tryz.ntmps80
  go_wp2_with fail
  refine (Tryz.Builder_Grow_fresh w.heap.size w.heap.size n _ (Nat.le_refl _) (heap_alloc_new w _) (by simp) (by omega)).mono ?_
  rintro e w1 ⟨rfl, hB1, hb1⟩
  have hbw1 : Below w.heap.size w w1 := ((Below.refl _ _).alloc (Nat.le_refl _) _).trans hb1
  clear hb1
  go_wp2_with fail
  go_loopg [5, 11] n (fun k x i wr => ∃ j : Nat, i = .int .i64 j ∧ j ≤ n ∧ n - j ≤ k ∧ Below w.heap.size w wr ∧ Lib.BuilderAt 173 5 w.heap.size w.heap.size (.pointer (some ⟨w.heap.size, 0, none⟩)) (Lib.byteCells (encAll (l.take j))) wr)
  case atStart => exact ⟨0, rfl, by omega, by omega, hbw1, hB1⟩
  case round =>
    obtain ⟨j, rfl, h1, h2, hb, hB⟩ := hrel
    by_cases hlt : j < n
    · have hm : j < l.length := by rw [HL.out]; exact hlt
      obtain ⟨b, off, rfl, hbs, hc⟩ := HA.out (by omega)
      have q := hc j hm
      clear hc
      obtain ⟨H1, H2⟩ := old_cells hb
      have HM := Lib.hid hm; clear hm
      have hr := HF.out.nth_ HM.out
      have hlen : (Lib.byteCells (encAll (l.take j))).length + 4 ≤ 1000000000 := by
        rw [Lib.byteCells_length]
        have := encAll_len (l.take j)
        have := List.length_take_le' j l
        have := HL.out
        omega
      go_wp2_with fail
      refine (writeRune_any _ _ _ _ hr.1 hr.2 _ hB hlen hb.size).mono ?_
      rintro e w2 ⟨⟨x, rfl⟩, hB2, hb2⟩
      rw [← Lib.byteCells_encodeRune, ← Lib.byteCells_append, ← encAll_snoc HM.out] at hB2
      go_wp2_with fail
      go_roundg (gk - 1)
      case measure => omega
      case rel => exact ⟨j + 1, by go_num, by omega, by omega, hb.trans hb2, hB2⟩
    · go_wp2_with fail
      rw [List.take_of_length_le (by rw [HL.out]; omega)] at hB
      refine (Tryz.Builder_String_any _ _ _ _ (.inr hB) hb.size).mono ?_
      rintro e w2 ⟨rfl, hb2⟩
      go_wp2_with fail
      go_ret
      exact ⟨rfl, hb.trans hb2⟩
theorem Fit.dec (s : ByteArray) : Fit (dec s) := by
  have h : ∀ f p, ∀ x ∈ decF s f p, (Lit.int .i32 x).wf = true := by
    intro f
    induction f with
    | zero => intro p x hx; cases hx
    | succ f ih =>
      intro p x hx
      unfold decF at hx
      split at hx
      · rcases List.mem_cons.1 hx with rfl | hx
        · have := decode_le s p
          simp [Lit.wf, IntKind.min, IntKind.max, IntKind.signed, IntKind.bits]
          omega
        · exact ih _ x hx
      · cases hx
  exact h _ _
set_option maxHeartbeats 400000 in
theorem clean_any (s : ByteArray) (w : World) (hs : s.size ≤ 100000000) :
    Calls Tryz.prog 43 #[.string s] w fun e w' => e = .returned (.string ⟨(encAll (dec s)).toArray⟩) ∧ Below w.heap.size w w' := by
  have hl := dec_len s
  have HF := Lib.hid (Fit.dec s)
  go_enter Tryz.func43, Tryz.ntmps43
  go_wp2_with fail
  refine (decode_any s _ (by omega)).mono ?_
  rintro e w1 ⟨A, c, rfl, hb1, hI, _⟩
  go_wp2_with fail
  refine (encode_any A _ c (dec s) _ hI rfl (by omega) HF.out).mono ?_
  rintro e w2 ⟨rfl, hb2⟩
  go_wp2_with fail
  go_ret
  exact ⟨rfl, hb1.trans (hb2.mono hb1.size)⟩
end Go.Proofs.YtpnjokhhbjpciaaGreatDoor
