/- The encodings of runes as the document's own answer has them: the contract of bodkinref01.Encode. -/
import Derived.Test.YtaemndioleofjaaGreatRefNum
namespace Go.Proofs.YtaemndioleofjaaGreat
open Go.RowKit
theorem bytes_add (x y : List UInt8) : (ByteArray.mk x.toArray) ++ (ByteArray.mk y.toArray) = ⟨(x ++ y).toArray⟩ :=
  Go.WideShapes.bytes_inj (by simp)
theorem enc_none {r : Int} (h : rsz r = 0) : Lib.encodeRune r = Lib.encodeRune 65533 := by
  have hr : ¬ (0 ≤ r ∧ r ≤ 1114111 ∧ (r < 55296 ∨ 57343 < r)) := by
    intro hr
    have := rsz_yes hr
    rw [h] at this
    repeat' split at this
    all_goals omega
  unfold Lib.encodeRune
  rw [Lib.encodeRuneZ_bad (by omega), Lib.encodeRuneZ_three (r := 65533) (by omega)]
  decide
theorem encodeRune_le (r : Int) : (Lib.encodeRune r).length ≤ 4 := by
  have := (Lib.encodeRuneZ_length r).2
  have e : (Lib.encodeRune r).length = (Lib.encodeRuneZ r).length := by simp [Lib.encodeRune]
  omega
theorem ret_str {a b : ByteArray} (h : a = b) : Ending.returned (.string a) = .returned (.string b) := by rw [h]
set_option maxHeartbeats 1000000 in
theorem rencode_any (A : Option Addr) (n c : Nat) (l : List Int) (w : World) (hA : IntsAt .i32 w A l) (hl : l.length = n) (hn : n ≤ 100000000) :
    Calls Tryz.prog 19 #[.slice A n c] w fun e w' => e = .returned (.string ⟨(encAll l).toArray⟩) ∧ Below w.heap.size w w' := by
  have HL := Lib.hid hl; clear hl
  have HA := Lib.hid hA; clear hA
  go_enter Tryz.func19, Tryz.ntmps19
  go_wp2
  go_loopg [3, 5, 6, 9] n (fun k v x y i wr => ∃ (j : Nat) (t : ByteArray), i = .int .i64 j ∧ v = .string t ∧ j ≤ n ∧ n - j ≤ k ∧ Below w.heap.size w wr ∧ Hid (t = ⟨(encAll (l.take j)).toArray⟩))
  case atStart => exact ⟨0, _, rfl, rfl, by omega, by omega, Below.refl _ _, rfl⟩
  case round =>
    obtain ⟨j, t, rfl, rfl, h1, h2, hb, ht⟩ := hrel
    by_cases hlt : j < n
    · have hm : j < l.length := by rw [HL.out]; exact hlt
      obtain ⟨b, off, rfl, hbs, hc⟩ := HA.out (by omega)
      have q := hc j hm
      clear hc
      obtain ⟨H1, H2⟩ := old_cells hb
      have HM := Lib.hid hm; clear hm
      have hsn := encAll_snoc HM.out
      have zt : t.size ≤ 400000000 := by
        have h1 := encAll_len (l.take j)
        have h2 := List.length_take_le' j l
        have h3 : t.size = (encAll (l.take j)).length := by rw [ht.out]; simp [ByteArray.size]
        have := HL.out
        omega
      have zl := encodeRune_le (nth l j)
      have zl3 := encodeRune_le 65533
      generalize nth l j = r at *
      have HS := Lib.hid hsn; clear hsn
      have C := Lib.hid fun W => rsize_any r W
      have D := Lib.hid fun (n : Int) (W : World) (h : rsz r = n) (h' : n ≠ 0) => one_any r n W h h'
      have E0 := Lib.hid fun h => enc_none (r := r) h
      generalize rsz r = x at *
      by_cases hx : x = 0
      · have hE := E0.out hx
        have HE := Lib.hid hE; clear hE D E0
        subst hx
        go_wp2_with fail
        refine (C.out _).mono ?_
        rintro e w1 ⟨rfl, rfl⟩
        go_wp2_with fail
        refine (one_any 65533 3 _ (by decide) (by decide)).mono ?_
        rintro e w2 ⟨rfl, hb2⟩
        go_wp2_with fail
        go_roundg (gk - 1)
        case measure => omega
        case rel => exact ⟨j + 1, _, by go_num, rfl, by omega, by omega, hb.trans (hb2.mono hb.size), by show _ = _; rw [ht.out, bytes_add, HS.out, HE.out]⟩
      · have hxb : (x == 0) = false := by simpa using hx
        clear E0
        go_wp2_with fail
        refine (C.out _).mono ?_
        rintro e w1 ⟨rfl, rfl⟩
        go_wp2_with fail
        refine (D.out x _ rfl hx).mono ?_
        rintro e w2 ⟨rfl, hb2⟩
        go_wp2_with fail
        go_roundg (gk - 1)
        case measure => omega
        case rel => exact ⟨j + 1, _, by go_num, rfl, by omega, by omega, hb.trans (hb2.mono hb.size), by show _ = _; rw [ht.out, bytes_add, HS.out]⟩
    · go_wp2_with fail
      go_ret
      exact ⟨ret_str (by rw [ht.out, List.take_of_length_le (by rw [HL.out]; omega)]), hb⟩
end Go.Proofs.YtaemndioleofjaaGreat
