/- Ropes: texts that are too long; New. The small case of the laws on ropes. -/
import Derived.Test.YtpnjokhhbjpciaaGreatDoorRepl
import Derived.Test.YtpnjokhhbjpciaaGreatDoorRPieces
namespace Go.Proofs.YtpnjokhhbjpciaaGreatDoor
open Go.RowKit
section
variable {p : Option Addr} {ps : List (List Int)} {h : Nat} {w : World}
set_option maxHeartbeats 4000000 in
set_option maxRecDepth 100000 in
theorem rrepl_full (hr : RP w p ps h) (x y : Nat) (hxy : x ≤ y) (hy : y ≤ ps.flatten.length) (s : ByteArray) (hsz : s.size ≤ 100000000) (hfit : ¬ ps.flatten.length - (y - x) + (dec s).length ≤ 20000) :
    Calls Tryz.prog 40 #[.pointer p, .int .i64 x, .int .i64 y, .string s] w fun e w' => e = .returned (.tuple #[.pointer none, .int .i64 5]) ∧ Below w.heap.size w w' := by
  have C1 := Lib.hid (rspans_any hr x y true ⟨fun _ => ⟨by omega, by omega, by omega⟩, fun _ => rfl⟩)
  have CC := Lib.hid fun W => count_any s W (by omega)
  have CR := Lib.hid fun (W : World) (hW : Below w.heap.size w W) => rrunes_any (hr.below hW)
  have hLm := hr.1.most
  have hDl : (dec s).length ≤ 100000000 := by have := dec_len s; omega
  clear hr
  generalize (dec s).length = D at *
  generalize ps.flatten.length = L at *
  have hw1 : IntKind.i64.wrap ((y : Int) - (x : Int)) = (y : Int) - (x : Int) := IntWalk.i64_in _ (by omega)
  have hw2 : IntKind.i64.wrap ((D : Int) - ((y : Int) - (x : Int))) = (D : Int) - ((y : Int) - (x : Int)) := IntWalk.i64_in _ (by omega)
  have hw3 : IntKind.i64.wrap ((L : Int) + ((D : Int) - ((y : Int) - (x : Int)))) = (L : Int) + ((D : Int) - ((y : Int) - (x : Int))) := IntWalk.i64_in _ (by omega)
  have hnf : ((20000 : Int) < (L : Int) + ((D : Int) - ((y : Int) - (x : Int)))) := by omega
  go_enter Tryz.func40, Tryz.ntmps40
  go_wp2_with fail
  refine C1.out.mono ?_
  rintro e w1 ⟨rfl, hb1⟩
  go_wp2_with fail
  refine (CC.out _).mono ?_
  rintro e w2 ⟨rfl, hb2⟩
  have a2 := hb1.trans (hb2.mono hb1.size)
  go_wp2_with fail
  refine (CR.out _ a2).mono ?_
  rintro e w3 ⟨rfl, hb3⟩
  have a3 := a2.trans (hb3.mono a2.size)
  go_wp2
  refine bodyPost_ret (v := .tuple #[.pointer none, .int .i64 5]) (by simp [results, Tryz.results40, go_sem]) rfl ⟨rfl, a3⟩
set_option maxHeartbeats 4000000 in
set_option maxRecDepth 100000 in
theorem rrepl_arg (hr : RP w p ps h) (x y : Int) (hn : ¬ (0 ≤ x ∧ x ≤ y ∧ y ≤ ps.flatten.length)) (s : ByteArray) :
    Calls Tryz.prog 40 #[.pointer p, .int .i64 x, .int .i64 y, .string s] w fun e w' => e = .returned (.tuple #[.pointer none, .int .i64 1]) ∧ Below w.heap.size w w' := by
  have C1 := Lib.hid (rspans_any hr x y false ⟨fun e => absurd e (by simp), fun e => absurd e hn⟩)
  clear hr hn
  go_enter Tryz.func40, Tryz.ntmps40
  go_wp2_with fail
  refine C1.out.mono ?_
  rintro e w1 ⟨rfl, hb1⟩
  go_wp2
  refine bodyPost_ret (v := .tuple #[.pointer none, .int .i64 1]) (by simp [results, Tryz.results40, go_sem]) rfl ⟨rfl, hb1⟩
end
theorem rnew_any (s : ByteArray) (w : World) (hsz : s.size ≤ 100000000) (hfit : (dec s).length ≤ 20000) :
    Calls Tryz.prog 23 #[.string s] w fun e w' => ∃ (b : Nat) (ps : List (List Int)) (h : Nat), e = .returned (.tuple #[.pointer (some ⟨b, 0, none⟩), .int .i64 0]) ∧ RP w' (some ⟨b, 0, none⟩) ps h ∧ ps.flatten = dec s ∧ Below w.heap.size w w' := by
  have C1 := Lib.hid (rrepl_any (RP.none_ w) 0 0 (Nat.le_refl _) (Nat.zero_le _) s hsz (by simpa using hfit))
  clear hsz hfit
  go_enter Tryz.func23, Tryz.ntmps23
  go_wp2_with fail
  refine C1.out.mono ?_
  rintro e w1 ⟨b, ps, h, rfl, hR, hf, hb1⟩
  have HR := Lib.hid hR
  have HF := Lib.hid hf
  clear hR hf
  go_wp2
  refine bodyPost_ret (v := .tuple #[.pointer (some ⟨b, 0, none⟩), .int .i64 0]) (by simp [results, Tryz.results23, go_sem]) rfl ⟨b, ps, h, rfl, HR.out, by rw [HF.out]; simp, hb1⟩
theorem rnew_full (s : ByteArray) (w : World) (hsz : s.size ≤ 100000000) (hfit : ¬ (dec s).length ≤ 20000) :
    Calls Tryz.prog 23 #[.string s] w fun e w' => e = .returned (.tuple #[.pointer none, .int .i64 5]) ∧ Below w.heap.size w w' := by
  have C1 := Lib.hid (rrepl_full (RP.none_ w) 0 0 (Nat.le_refl _) (Nat.zero_le _) s hsz (by simpa using hfit))
  clear hsz hfit
  go_enter Tryz.func23, Tryz.ntmps23
  go_wp2_with fail
  refine C1.out.mono ?_
  rintro e w1 ⟨rfl, hb1⟩
  go_wp2
  refine bodyPost_ret (v := .tuple #[.pointer none, .int .i64 5]) (by simp [results, Tryz.results23, go_sem]) rfl ⟨rfl, hb1⟩
theorem wide_dec : dec ⟨#[97, 228, 184, 128, 98]⟩ = [97, 19968, 98] := by decide
theorem xy_dec : dec ⟨#[120, 121]⟩ = [120, 121] := by decide
theorem wide_is4 : RuneIs [97, 19968, 98] 4 2 0 := .inr (.inl ⟨2, by decide, by decide, rfl, rfl⟩)
theorem wide_is2 : RuneIs [97, 19968, 98] 2 0 70 := .inr (.inr ⟨by decide, by decide, fun j hj => by
  have : j = 0 ∨ j = 1 ∨ j = 2 ∨ j = 3 := by simp at hj; omega
  rcases this with rfl | rfl | rfl | rfl <;> decide, rfl, rfl⟩)
theorem wide_txt : txt [97, 120, 121, 98] = ⟨#[97, 120, 121, 98]⟩ := by decide
theorem wide_bytes : szl [97, 19968, 98] 0 = 5 := by decide
end Go.Proofs.YtpnjokhhbjpciaaGreatDoor
