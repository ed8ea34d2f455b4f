/- The walk of the law that behind a good text another one is decoded by itself. -/
import Derived.Test.YtapamkefcfnbpaaDoorAcute
import Derived.Test.YtapamkefcfnbpaaDoorAppendInts
namespace Go.Proofs.YtapamkefcfnbpaaDoor
open Go.RowKit
theorem dec_join (s t : ByteArray) (h : Lib.validD s.data.toList = true) : dec (s ++ t) = dec s ++ dec t := by
  rw [dec_list, dec_list, dec_list]
  have e : (s ++ t).data.toList = s.data.toList ++ t.data.toList := by simp
  rw [e]
  exact decD_append _ _ _ (Nat.le_refl _) h
theorem own_below {w w' : World} {base : Nat} {e : TypeId} {size : Nat} {v : Value} {n : Nat} {xs : List Value} (h : w.ownsRow base e size v n xs) (hb : Below w.heap.size w w') : w'.ownsRow base e size v n xs := by
  refine ⟨h.1, ?_⟩
  rcases h.2 with h2 | ⟨g, cap, cur, rfl, hB, c, h3⟩
  · exact .inl h2
  · exact .inr ⟨g, cap, cur, rfl, hB, (hb.block g (block_lt c)).trans c, h3⟩
set_option maxHeartbeats 1000000 in
set_option maxRecDepth 100000 in
theorem utfJoins_walk (s t : ByteArray) (w : World) (h : UTabs w) (hs : s.size ≤ maxLen) (ht : t.size ≤ maxLen) :
    Calls Tryd.prog 8 #[.string s, .string t] w fun e w' => e = .returned (.bool true) ∧ Below w.heap.size w w' := by
  unfold maxLen at hs ht
  obtain ⟨i0, hi0, hz0, hz1, hz2⟩ := info_parts i32_info
  have H := Lib.hid h; clear h
  have out : ∀ W : World, Below w.heap.size w W → Calls Tryd.prog 14 #[] W fun e w' => e = .returned (.bool true) ∧ Below w.heap.size w w' :=
    fun W hW => (acute_any W (H.out.below hW)).mono fun e w' ⟨he, hb⟩ => ⟨he, hW.trans (hb.mono hW.size)⟩
  have HO := Lib.hid out; clear out
  by_cases g1 : 2000 < s.size
  · go_enter Tryd.func8, Tryd.ntmps8
    go_wp2_with fail
    refine (HO.out _ (Below.refl _ _)).mono ?_
    rintro e w1 ⟨rfl, hb1⟩
    go_wp2_with fail
    go_ret
    exact ⟨rfl, hb1⟩
  · by_cases g2 : 2000 < t.size
    · go_enter Tryd.func8, Tryd.ntmps8
      go_wp2_with fail
      refine (HO.out _ (Below.refl _ _)).mono ?_
      rintro e w1 ⟨rfl, hb1⟩
      go_wp2_with fail
      go_ret
      exact ⟨rfl, hb1⟩
    · cases hv : Lib.validD s.data.toList
      · have HV := Lib.hid hv; clear hv
        go_enter Tryd.func8, Tryd.ntmps8
        go_wp2_with fail
        refine (good_any s _ (by omega) H.out).mono ?_
        rw [HV.out]
        rintro e w1 ⟨rfl, hb1⟩
        go_wp2_with fail
        refine (HO.out _ hb1).mono ?_
        rintro e w2 ⟨rfl, hb2⟩
        go_wp2_with fail
        go_ret
        exact ⟨rfl, hb2⟩
      · have HJ := Lib.hid (dec_join s t hv)
        have HV := Lib.hid hv; clear hv
        have l1 := dec_len s
        have l2 := dec_len t
        go_enter Tryd.func8, Tryd.ntmps8
        go_wp2_with fail
        refine (good_any s _ (by omega) H.out).mono ?_
        rw [HV.out]
        rintro e w1 ⟨rfl, hb1⟩
        go_wp2_with fail
        refine (decode_any s _ (by omega)).mono ?_
        rintro e w2 ⟨A2, c2, rfl, hb2, hI2, hC2⟩
        go_wp2_with (at_builtin; refine wpList_append_ints rfl (.tmp 20) (.tmp 22) rfl w.heap.size (.slice none 0 0) 0 [] rfl (World.ownsRow_nil _ _ _ _) A2 _ c2 (dec s) rfl hI2 hC2 rfl (by omega) (by have := hb1.size; have := hb2.size; omega) ?_; intro v3 w3 hown3 hg3)
        have a2 := hb1.trans (hb2.mono hb1.size)
        have a3 : Below w.heap.size w w3 := a2.grown hg3 a2.size (fun k hk => by simp [Value.ownBlock] at hk)
        rw [Nat.zero_add, List.nil_append] at hown3
        refine (decode_any t _ (by omega)).mono ?_
        rintro e w4 ⟨A4, c4, rfl, hb4, hI4, hC4⟩
        have a4 := a3.trans (hb4.mono a3.size)
        have hown4 := own_below hown3 hb4
        go_wp2_with (at_builtin; refine wpList_append_ints rfl (.tmp 24) (.tmp 26) rfl w.heap.size v3 _ _ rfl hown4 A4 _ c4 (dec t) rfl hI4 hC4 rfl (by omega) a4.size ?_; intro v5 w5 hown5 hg5)
        have a5 : Below w.heap.size w w5 := a4.grown hg5 a4.size (fun k hk => (hown4.lt k hk).1)
        rw [← List.map_append] at hown5
        refine (decode_any (s ++ t) _ ?_).mono ?_
        · rw [ByteArray.size_append]; omega
        rw [HJ.out, List.length_append]
        rintro e w6 ⟨A6, c6, rfl, hb6, hI6, hC6⟩
        obtain ⟨A7, c7, rfl, hI7, hl7, _⟩ := IntsAt.of_own hown5
        have HL7 := Lib.hid hl7; clear hl7
        have a6 := a5.trans (hb6.mono a5.size)
        go_wp2_with fail
        refine (runes_same A6 A7 _ c6 c7 (dec s ++ dec t) _ hI6 (hI7.below hb6) HL7.out (by omega)).mono ?_
        rintro e w8 ⟨rfl, hb8⟩
        have a8 := a6.trans (hb8.mono a6.size)
        go_wp2_with fail
        refine (HO.out _ a8).mono ?_
        rintro e w9 ⟨rfl, hb9⟩
        go_wp2_with fail
        go_ret
        exact ⟨rfl, hb9⟩
end Go.Proofs.YtapamkefcfnbpaaDoor
