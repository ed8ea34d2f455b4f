/- Ropes: texts that are too long; New. The small case of the laws on ropes. -/
import Derived.Test.YtglalmhpgdgeeaaGreatDoorRepl
import Derived.Test.YtglalmhpgdgeeaaGreatDoorRPieces
namespace Go.Proofs.YtglalmhpgdgeeaaGreatDoor
open Go.RowKit
section
variable {p : Option Addr} {ps : List (List Int)} {h : Nat} {w : World}
set_option maxHeartbeats 4000000 in
set_option maxRecDepth 100000 in
theorem rrepl_full (hr : RP w p ps h) (x y : Nat) (hxy : x ≤ y) (hy : y ≤ ps.flatten.length) (s : ByteArray) (hsz : s.size ≤ 100000000) (hfit : ¬ ps.flatten.length - (y - x) + (dec s).length ≤ 20000) :
    Calls Tryz.prog 12 #[.pointer p, .int .i64 x, .int .i64 y, .string s] w fun e w' => e = .returned (.tuple #[.pointer none, .int .i64 5]) ∧ Below w.heap.size w w' := by
  have C1 := Lib.hid (rspans_any hr x y true ⟨fun _ => ⟨by omega, by omega, by omega⟩, fun _ => rfl⟩)
  have CC := Lib.hid fun W => count_any s W (by omega)
  have CR := Lib.hid fun (W : World) (hW : Below w.heap.size w W) => rrunes_any (hr.below hW)
  have hLm := hr.1.most
  have hDl : (dec s).length ≤ 100000000 := by have := dec_len s; omega
  clear hr
  generalize (dec s).length = D at *
  generalize ps.flatten.length = L at *
  have hw1 : IntKind.i64.wrap ((y : Int) - (x : Int)) = (y : Int) - (x : Int) := IntWalk.i64_in _ (by omega)
  have hw2 : IntKind.i64.wrap ((D : Int) - ((y : Int) - (x : Int))) = (D : Int) - ((y : Int) - (x : Int)) := IntWalk.i64_in _ (by omega)
  have hw3 : IntKind.i64.wrap ((L : Int) + ((D : Int) - ((y : Int) - (x : Int)))) = (L : Int) + ((D : Int) - ((y : Int) - (x : Int))) := IntWalk.i64_in _ (by omega)
  have hnf : ((20000 : Int) < (L : Int) + ((D : Int) - ((y : Int) - (x : Int)))) := by omega
  go_enter Tryz.func12, Tryz.ntmps12
  go_wp2_with fail
  refine C1.out.mono ?_
  rintro e w1 ⟨rfl, hb1⟩
  go_wp2_with fail
  refine (CC.out _).mono ?_
  rintro e w2 ⟨rfl, hb2⟩
  have a2 := hb1.trans (hb2.mono hb1.size)
  go_wp2_with fail
  refine (CR.out _ a2).mono ?_
  rintro e w3 ⟨rfl, hb3⟩
  have a3 := a2.trans (hb3.mono a2.size)
  go_wp2
  refine bodyPost_ret (v := .tuple #[.pointer none, .int .i64 5]) (by simp [results, Tryz.results12, go_sem]) rfl ⟨rfl, a3⟩
set_option maxHeartbeats 4000000 in
set_option maxRecDepth 100000 in
theorem rrepl_arg (hr : RP w p ps h) (x y : Int) (hn : ¬ (0 ≤ x ∧ x ≤ y ∧ y ≤ ps.flatten.length)) (s : ByteArray) :
    Calls Tryz.prog 12 #[.pointer p, .int .i64 x, .int .i64 y, .string s] w fun e w' => e = .returned (.tuple #[.pointer none, .int .i64 1]) ∧ Below w.heap.size w w' := by
  have C1 := Lib.hid (rspans_any hr x y false ⟨fun e => absurd e (by simp), fun e => absurd e hn⟩)
  clear hr hn
  go_enter Tryz.func12, Tryz.ntmps12
  go_wp2_with fail
  refine C1.out.mono ?_
  rintro e w1 ⟨rfl, hb1⟩
  go_wp2
  refine bodyPost_ret (v := .tuple #[.pointer none, .int .i64 1]) (by simp [results, Tryz.results12, go_sem]) rfl ⟨rfl, hb1⟩
end
theorem rnew_any (s : ByteArray) (w : World) (hsz : s.size ≤ 100000000) (hfit : (dec s).length ≤ 20000) :
    Calls Tryz.prog 5 #[.string s] w fun e w' => ∃ (b : Nat) (ps : List (List Int)) (h : Nat), e = .returned (.tuple #[.pointer (some ⟨b, 0, none⟩), .int .i64 0]) ∧ RP w' (some ⟨b, 0, none⟩) ps h ∧ ps.flatten = dec s ∧ Below w.heap.size w w' := by
  have C1 := Lib.hid (rrepl_any (RP.none_ w) 0 0 (Nat.le_refl _) (Nat.zero_le _) s hsz (by simpa using hfit))
  clear hsz hfit
  go_enter Tryz.func5, Tryz.ntmps5
  go_wp2_with fail
  refine C1.out.mono ?_
  rintro e w1 ⟨b, ps, h, rfl, hR, hf, hb1⟩
  have HR := Lib.hid hR
  have HF := Lib.hid hf
  clear hR hf
  go_wp2
  refine bodyPost_ret (v := .tuple #[.pointer (some ⟨b, 0, none⟩), .int .i64 0]) (by simp [results, Tryz.results5, go_sem]) rfl ⟨b, ps, h, rfl, HR.out, by rw [HF.out]; simp, hb1⟩
theorem rnew_full (s : ByteArray) (w : World) (hsz : s.size ≤ 100000000) (hfit : ¬ (dec s).length ≤ 20000) :
    Calls Tryz.prog 5 #[.string s] w fun e w' => e = .returned (.tuple #[.pointer none, .int .i64 5]) ∧ Below w.heap.size w w' := by
  have C1 := Lib.hid (rrepl_full (RP.none_ w) 0 0 (Nat.le_refl _) (Nat.zero_le _) s hsz (by simpa using hfit))
  clear hsz hfit
  go_enter Tryz.func5, Tryz.ntmps5
  go_wp2_with fail
  refine C1.out.mono ?_
  rintro e w1 ⟨rfl, hb1⟩
  go_wp2
  refine bodyPost_ret (v := .tuple #[.pointer none, .int .i64 5]) (by simp [results, Tryz.results5, go_sem]) rfl ⟨rfl, hb1⟩
theorem wide_dec : dec ⟨#[97, 228, 184, 128, 98]⟩ = [97, 19968, 98] := by decide
theorem xy_dec : dec ⟨#[120, 121]⟩ = [120, 121] := by decide
theorem wide_is4 : RuneIs [97, 19968, 98] 4 2 0 := .inr (.inl ⟨2, by decide, by decide, rfl, rfl⟩)
theorem wide_is2 : RuneIs [97, 19968, 98] 2 0 70 := .inr (.inr ⟨by decide, by decide, fun j hj => by
  have : j = 0 ∨ j = 1 ∨ j = 2 ∨ j = 3 := by simp at hj; omega
  rcases this with rfl | rfl | rfl | rfl <;> decide, rfl, rfl⟩)
theorem wide_txt : txt [97, 120, 121, 98] = ⟨#[97, 120, 121, 98]⟩ := by decide
theorem wide_bytes : szl [97, 19968, 98] 0 = 5 := by decide
set_option maxHeartbeats 4000000 in
set_option maxRecDepth 100000 in
theorem wide_any (w : World) : Calls Tryz.prog 4 #[] w fun e w' => e = .returned (.bool true) ∧ Below w.heap.size w w' := by
  have CN := Lib.hid (rnew_any ⟨#[97, 228, 184, 128, 98]⟩ w (by decide) (by rw [wide_dec]; decide))
  go_enter Tryz.func4, Tryz.ntmps4
  go_wp2_with fail
  refine CN.out.mono ?_
  rintro e w1 ⟨b, ps, h, rfl, hR, hf, hb1⟩
  rw [wide_dec] at hf
  have hA : ∀ (t a c a' c' : Int), RuneIs [97, 19968, 98] t a c → RuneIs ps.flatten t a' c' → a' = a ∧ c' = c := fun t a c a' c' h1 h2 => by rw [hf] at h2; exact h2.unique h1
  have C4 := Lib.hid fun (W : World) (hW : Below w1.heap.size w1 W) => (runeAt_any (hR.below hW) 4).mono fun e w' ⟨a, c, hi, he, hb⟩ => (by obtain ⟨rfl, rfl⟩ := hA 4 2 0 a c wide_is4 hi; exact ⟨he, hb⟩ : e = Ending.returned (.tuple #[.int .i64 2, .int .i64 0]) ∧ Below W.heap.size W w')
  have C2 := Lib.hid fun (W : World) (hW : Below w1.heap.size w1 W) => (runeAt_any (hR.below hW) 2).mono fun e w' ⟨a, c, hi, he, hb⟩ => (by obtain ⟨rfl, rfl⟩ := hA 2 0 70 a c wide_is2 hi; exact ⟨he, hb⟩ : e = Ending.returned (.tuple #[.int .i64 0, .int .i64 70]) ∧ Below W.heap.size W w')
  have C3 := Lib.hid fun (W : World) (hW : Below w1.heap.size w1 W) => (rrepl_any (hR.below hW) 1 2 (by omega) (by rw [hf]; decide) ⟨#[120, 121]⟩ (by decide) (by rw [hf, xy_dec]; decide))
  have CU := Lib.hid fun (W : World) (hW : Below w1.heap.size w1 W) => (by have := rrunes_any (hR.below hW); rwa [hf] at this : Calls Tryz.prog 14 #[.pointer (some ⟨b, 0, none⟩)] W fun e w' => e = .returned (.int .i64 3) ∧ Below W.heap.size W w')
  have CY := Lib.hid fun (W : World) (hW : Below w1.heap.size w1 W) => (by have := rbytes_any (hR.below hW); rwa [hf, wide_bytes] at this : Calls Tryz.prog 15 #[.pointer (some ⟨b, 0, none⟩)] W fun e w' => e = .returned (.int .i64 5) ∧ Below W.heap.size W w')
  have HFl := Lib.hid hf
  clear hR hA hf
  go_wp2_with fail
  refine (C4.out _ (Below.refl _ _)).mono ?_
  rintro e w2 ⟨rfl, hb2⟩
  go_wp2_with fail
  refine (C2.out _ hb2).mono ?_
  rintro e w3 ⟨rfl, hb3⟩
  have a3 := hb2.trans (hb3.mono hb2.size)
  go_wp2_with fail
  refine (C3.out _ a3).mono ?_
  rintro e w4 ⟨b4, ps4, h4, rfl, hR4, hf4, hb4⟩
  have a4 := a3.trans (hb4.mono a3.size)
  rw [HFl.out, xy_dec] at hf4
  have hf4' : ps4.flatten = [97, 120, 121, 98] := hf4
  have CT := Lib.hid (by have := rtext_any hR4; rwa [hf4', wide_txt] at this : Calls Tryz.prog 13 #[.pointer (some ⟨b4, 0, none⟩)] w4 fun e w' => e = .returned (.string ⟨#[97, 120, 121, 98]⟩) ∧ Below w4.heap.size w4 w')
  clear hR4 hf4 hf4'
  go_wp2_with fail
  refine CT.out.mono ?_
  rintro e w5 ⟨rfl, hb5⟩
  have a5 := a4.trans (hb5.mono a4.size)
  go_wp2_with fail
  refine (CU.out _ a5).mono ?_
  rintro e w6 ⟨rfl, hb6⟩
  have a6 := a5.trans (hb6.mono a5.size)
  go_wp2_with fail
  refine (CY.out _ a6).mono ?_
  rintro e w7 ⟨rfl, hb7⟩
  have a7 := a6.trans (hb7.mono a6.size)
  go_wp2
  go_ret
  exact ⟨rfl, hb1.trans (a7.mono hb1.size)⟩
end Go.Proofs.YtglalmhpgdgeeaaGreatDoor
