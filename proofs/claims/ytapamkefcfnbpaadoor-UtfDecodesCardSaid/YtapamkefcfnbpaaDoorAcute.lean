/- The small case that each law of texts asks, and the contracts of utf.Good, utf.Size and utf.Clean. -/
import Derived.Test.YtapamkefcfnbpaaDoorUtfEnc
import Derived.Test.YtapamkefcfnbpaaDoorUtfDec
import Derived.Test.YtapamkefcfnbpaaDoorRunes
namespace Go.Proofs.YtapamkefcfnbpaaDoor
open Go.RowKit
/-- The library's two tables, as its text lays them. -/
def UTabs (w : World) : Prop := Lib.Utf8Tabs 2 3 w
theorem UTabs.below {w w' : World} (h : UTabs w) (hb : Below w.heap.size w w') : UTabs w' := Utf8Tabs_below h hb
theorem good_any (s : ByteArray) (w : World) (hs : s.size ≤ 9223372036854775807) (h : UTabs w) :
    Calls Tryd.prog 19 #[.string s] w fun e w' => e = .returned (.bool (Lib.validD s.data.toList)) ∧ Below w.heap.size w w' := by
  have H := Lib.hid h; clear h
  go_enter Tryd.func19, Tryd.ntmps19
  go_wp2_with fail
  refine (Tryd.utf8_ValidString s _ hs H.out).mono ?_
  rintro e w1 ⟨rfl, hb⟩
  go_wp2_with fail
  go_ret
  exact ⟨rfl, hb⟩
/-- How many bytes a rune has. -/
def uSize (r : Int) : Int := ((Lib.encodeRuneZ r).length : Int)
theorem uSize_len (r : Int) : 0 < Lib.runeLen r → uSize r = Lib.runeLen r := by
  unfold uSize Lib.runeLen Lib.encodeRuneZ
  repeat' split
  all_goals first
    | (intro h; omega)
    | (intro h; simp; done)
    | (intro h; exfalso; omega)
theorem uSize_bad (r : Int) : ¬ 0 < Lib.runeLen r → uSize r = 3 := by
  unfold uSize Lib.runeLen Lib.encodeRuneZ
  repeat' split
  all_goals first
    | (intro h; simp; done)
    | (intro h; exfalso; omega)
set_option maxHeartbeats 400000 in
theorem size_any (r : Int) (w : World) : Calls Tryd.prog 23 #[.int .i32 r] w fun e w' => e = .returned (.int .i64 (uSize r)) ∧ Below w.heap.size w w' := by
  have h1 := uSize_len r
  have h2 := uSize_bad r
  generalize hx : Lib.runeLen r = x at *
  have HX := Lib.hid hx; clear hx
  have H1 := Lib.hid h1; clear h1
  have H2 := Lib.hid h2; clear h2
  by_cases hp : 0 < x
  · go_enter Tryd.func23, Tryd.ntmps23
    go_wp2_with fail
    refine (Tryd.utf8_RuneLen r _).mono ?_
    rintro e w1 ⟨rfl, rfl⟩
    rw [HX.out]
    go_wp2_with fail
    go_ret
    exact ⟨ret_int (H1.out hp).symm, Below.refl _ _⟩
  · go_enter Tryd.func23, Tryd.ntmps23
    go_wp2_with fail
    refine (Tryd.utf8_RuneLen r _).mono ?_
    rintro e w1 ⟨rfl, rfl⟩
    rw [HX.out]
    go_wp2_with fail
    refine (Tryd.utf8_RuneLen 65533 _).mono ?_
    rintro e w1 ⟨rfl, rfl⟩
    rw [show Lib.runeLen 65533 = 3 from by decide]
    go_wp2_with fail
    go_ret
    exact ⟨ret_int (H2.out hp).symm, Below.refl _ _⟩
theorem Fit.dec (s : ByteArray) : Fit (dec s) := by
  have h : ∀ f p, ∀ x ∈ decF s f p, (Lit.int .i32 x).wf = true := by
    intro f
    induction f with
    | zero => intro p x hx; cases hx
    | succ f ih =>
      intro p x hx
      unfold decF at hx
      split at hx
      · rcases List.mem_cons.1 hx with rfl | hx
        · have := decode_le s p
          simp [Lit.wf, IntKind.min, IntKind.max, IntKind.signed, IntKind.bits]
          omega
        · exact ih _ x hx
      · cases hx
  exact h _ _
set_option maxHeartbeats 400000 in
theorem clean_any (s : ByteArray) (w : World) (hs : s.size ≤ 100000000) :
    Calls Tryd.prog 27 #[.string s] w fun e w' => e = .returned (.string ⟨(encAll (dec s)).toArray⟩) ∧ Below w.heap.size w w' := by
  have hl := dec_len s
  have HF := Lib.hid (Fit.dec s)
  go_enter Tryd.func27, Tryd.ntmps27
  go_wp2_with fail
  refine (decode_any s _ (by omega)).mono ?_
  rintro e w1 ⟨A, c, rfl, hb1, hI, _⟩
  go_wp2_with fail
  refine (encode_any A _ c (dec s) _ hI rfl (by omega) HF.out).mono ?_
  rintro e w2 ⟨rfl, hb2⟩
  go_wp2_with fail
  go_ret
  exact ⟨rfl, hb1.trans (hb2.mono hb1.size)⟩
theorem ints_block {kd : IntKind} {w : World} {g : Nat} {l : List Int} {cs : Array Value} {t : TypeId} {fz : Nat × Nat} (h : w.heap[g]? = some (.cells cs t fz)) (hc : cs.toList = l.map (.int kd)) : IntsAt kd w (some ⟨g, 0, none⟩) l := by
  intro _
  refine ⟨g, 0, rfl, block_lt h, fun k hk => ?_⟩
  rw [cell_of_row w g _ cs t fz h, ← Array.getElem?_toList, hc, Nat.zero_add]
  simp [nth, List.getD, hk]
set_option maxHeartbeats 1000000 in
theorem acute_any (w : World) (h : UTabs w) : Calls Tryd.prog 14 #[] w fun e w' => e = .returned (.bool true) ∧ Below w.heap.size w w' := by
  have H := Lib.hid h; clear h
  go_enter Tryd.func14, Tryd.ntmps14
  go_wp2_with fail
  refine (decode_any ⟨#[97, 255, 195, 169]⟩ _ (by decide)).mono ?_
  rw [show dec ⟨#[97, 255, 195, 169]⟩ = [97, 65533, 233] from by decide]
  rintro e w1 ⟨A, c, rfl, hb1, hI, _⟩
  go_wp2_with fail
  refine (runes_same A (some ⟨w1.heap.size, 0, none⟩) 3 c 3 [97, 65533, 233] _ (hI.below ((Below.refl _ _).alloc (Nat.le_refl _) _)) (ints_block (heap_alloc_new w1 _) rfl) rfl (by omega)).mono ?_
  rintro e w2 ⟨rfl, hb2⟩
  have a1 := hb1.alloc hb1.size (.cells #[.int .i32 97, .int .i32 65533, .int .i32 233] 21)
  have a2 := a1.trans (hb2.mono a1.size)
  go_wp2_with fail
  refine (size_any 233 _).mono ?_
  rintro e w3 ⟨rfl, hb3⟩
  rw [show uSize 233 = 2 from by decide]
  have a3 := a2.trans (hb3.mono a2.size)
  go_wp2_with fail
  refine (good_any ⟨#[255]⟩ _ (by decide) (H.out.below a3)).mono ?_
  rintro e w4 ⟨rfl, hb4⟩
  rw [show Lib.validD (ByteArray.mk #[255]).data.toList = false from by decide]
  go_wp2_with fail
  go_ret
  exact ⟨rfl, a3.trans (hb4.mono a3.size)⟩
end Go.Proofs.YtapamkefcfnbpaaDoor
