/- The document's decoding of a whole text, and whether a text is good: the contracts of bodkinref01.Decode and Good. -/
import Derived.Test.YtaemndioleofjaaGreatRefStep
import Derived.Test.YtaemndioleofjaaGreatUtfDec
import Derived.Test.YtaemndioleofjaaGreatBase
import Derived.Lib.QuoteLoop
namespace Go.Proofs.YtaemndioleofjaaGreat
open Go.RowKit
theorem width_in (s : ByteArray) (p : Nat) (h : p < s.size) : p + (Utf8.decode s p).2 ≤ s.size := by
  have := Lib.decodeN_width_le (s.size - p) (s.get! p).toNat (s.get! (p + 1)).toNat (s.get! (p + 2)).toNat (s.get! (p + 3)).toNat (by omega)
  rw [← Lib.decode_at] at this
  omega
theorem z_after {w1 w4 : World} (c0 c1 : Value) (t : TypeId) (o : Obj) (row : Option Nat) (hlt : ∀ k, row = some k → k < w1.heap.size) (hg : ((w1.alloc (.cells #[c0, c1] t)).alloc o).grownBy w4 row) : w4.cell? ⟨w1.heap.size, 1, none⟩ = some c1 := by
  rw [cell_of_row _ _ _ _ _ _ ((hg.block w1.heap.size (by simp; omega) (fun e => by have := hlt _ e.symm; omega)).trans ((Below.heap_alloc _ _ _ (by simp)).trans (heap_alloc_new w1 _)))]
  rfl
set_option maxHeartbeats 1000000 in
theorem rdecode_any (s : ByteArray) (w : World) (hs : s.size ≤ 1000000000) :
    Calls Tryz.prog 11 #[.string s] w fun e w' => ∃ A c, e = .returned (.slice A (dec s).length c) ∧ Below w.heap.size w w' ∧ IntsAt .i32 w' A (dec s) ∧ Caps A (dec s).length c := by
  obtain ⟨i0, hi0, hz0, hz1, hz2⟩ := info_parts i32_info
  have hlen := dec_len s
  obtain ⟨D, hD⟩ : ∃ D, D = dec s := ⟨_, rfl⟩
  rw [← hD] at hlen ⊢
  have HD := Lib.hid hD; clear hD
  go_enter Tryz.func11, Tryz.ntmps11
  go_wp2
  go_loopg [3, 4] (s.size + 1) (fun k v p wr => ∃ (pos f : Nat) (acc : List Int), p = .int .i64 pos ∧ wr.ownsRow w.heap.size 21 1 v acc.length (acc.map (.int .i32)) ∧ Below w.heap.size w wr ∧ s.size ≤ pos + f ∧ pos ≤ s.size ∧ f < k ∧ Hid (D = acc ++ decF s f pos) ∧ acc.length + (decF s f pos).length ≤ s.size)
  case atStart => exact ⟨0, s.size, [], rfl, World.ownsRow_nil _ _ _ _, Below.refl _ _, by omega, by omega, by omega, HD.out, by have := dec_len s; unfold dec at this; simpa using this⟩
  case round =>
    obtain ⟨pos, f, acc, rfl, hown, hb, h1, h1', h2, h3, h4⟩ := hrel
    by_cases hp : pos < s.size
    · have hwd := width_ge s pos
      have hwl := width_in s pos hp
      obtain ⟨f, rfl⟩ : ∃ f', f = f' + 1 := ⟨f - 1, by omega⟩
      rw [decF_step hp] at h3 h4
      simp only [List.length_cons] at h4
      have C := Lib.hid fun W => step_in s pos W hs hp
      generalize (Utf8.decode s pos).1 = r at *
      generalize (Utf8.decode s pos).2 = z at *
      go_wp2_with fail
      refine (C.out _).mono ?_
      rintro e w1 ⟨rfl, hb1⟩
      have a1 := hb.trans (hb1.mono hb.size)
      have hown1 := own_below hown hb1
      have hz1' := a1.size
      have a2 := a1.alloc a1.size (.cells #[.int .i32 (r : Int), .int .i64 (z : Int)] 71)
      have hown2 := hown1.alloc (.cells #[.int .i32 (r : Int), .int .i64 (z : Int)] 71)
      have hlt := hown1.lt
      clear hb hb1 hown
      go_wp2_with (at_builtin; refine wpList_append_own _ rfl (.tmp 13) (.tmp 16) _ rfl w.heap.size 21 i0 (.int .i32 0) 1 4 Tryz.underlying28 hi0 hz0 hz1 hz2 rfl (by omega) _ acc.length (acc.map (.int .i32)) rfl (hown2.alloc _) ⟨w1.heap.size + 1, 0, none⟩ 1 1 [.int .i32 (r : Int)] rfl rfl (fun j u hu => by have := one_new (w1.alloc (.cells #[.int .i32 (r : Int), .int .i64 (z : Int)] 71)) (.int .i32 (r : Int)) 21 j u hu; simpa using this) (fun u hu => by simp at hu; subst hu; rfl) (by simp only [maxLen]; omega) (by omega) (by simp; omega) ?_; intro v4 w4 hown4 hg4 hnil4; clear hnil4; have hcz := z_after _ _ _ _ _ (fun k hk => (hlt k hk).2) hg4)
      have hb4 : Below w.heap.size w w4 := (a2.alloc a2.size _).grown hg4 (by simp; omega) (fun k hk => (hlt k hk).1)
      go_roundg (gk - 1)
      case measure => omega
      case rel => exact ⟨pos + z, f, acc ++ [(r : Int)], by go_num, by simpa using hown4, hb4, by omega, by omega, by omega, by show D = _; rw [List.append_assoc]; exact h3, by simp; omega⟩
    · rw [decF_end hp, List.append_nil] at h3
      go_wp2
      go_ret
      obtain ⟨A, c, e, hI, hl, hcap⟩ := IntsAt.of_own hown
      have hD' : D = acc := h3
      rw [hD']
      exact ⟨A, c, by rw [← e]; rfl, hb, hI, hcap⟩
end Go.Proofs.YtaemndioleofjaaGreat
