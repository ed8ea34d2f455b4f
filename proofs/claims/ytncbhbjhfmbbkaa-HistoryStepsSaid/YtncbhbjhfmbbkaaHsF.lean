/- Histories: Push of one edit each; the law's small case. -/
import Derived.Test.YtncbhbjhfmbbkaaHsE
namespace Go.Proofs.Ytncbhbjhfmbbkaa
open Go.RowKit
set_option linter.unusedVariables false
theorem eds_one {W : World} {b : Nat} {x y : Int} {t : TypeId} (h : RawAt t W b #[.int .i64 x, .int .i64 y, .string ⟨#[]⟩]) : EdsAt W (some ⟨b, 0, none⟩) [⟨x, y, ⟨#[]⟩⟩] := by
  intro _
  refine ⟨b, 0, rfl, h.lt, fun k hk => ?_⟩
  obtain rfl : k = 0 := by simpa using hk
  exact ⟨RawAt.cell h 0, RawAt.cell h 1, RawAt.cell h 2⟩
/-- One edit each. -/
theorem hPush_one {B hb : Nat} {W W0 : World} {d u : List S2} (h : HAt B W hb d u) (hB : Below B W0 W) (hBw : B ≤ W.heap.size) (hd : d.length ≤ 100) (x y x' y' : Int) :
    Calls Try.prog 32 #[.pointer (some ⟨hb, 0, none⟩), .agg #[.slice (some ⟨W.heap.size, 0, none⟩) 1 1, .slice (some ⟨W.heap.size + 1, 0, none⟩) 1 1]] ((W.alloc (.cells #[.int .i64 x, .int .i64 y, .string ⟨#[]⟩] 81)).alloc (.cells #[.int .i64 x', .int .i64 y', .string ⟨#[]⟩] 81)) fun e w' => e = .returned (.int .i64 0) ∧ HAt B w' hb (hpush d ⟨[⟨x, y, ⟨#[]⟩⟩], [⟨x', y', ⟨#[]⟩⟩]⟩) [] ∧ Below B W0 w' := by
  obtain ⟨r1, r2, hbl, hz⟩ := new2 W 81 81 #[.int .i64 x, .int .i64 y, .string ⟨#[]⟩] #[.int .i64 x', .int .i64 y', .string ⟨#[]⟩]
  refine (hPush_any (HAt.below h hbl) (by omega) hd _ _ 1 1 1 1 ⟨[⟨x, y, ⟨#[]⟩⟩], [⟨x', y', ⟨#[]⟩⟩]⟩ (eds_one r1) rfl (by omega) (eds_one r2) rfl (by omega)).mono ?_
  rintro e w' ⟨rfl, h1, _, h3⟩
  exact ⟨rfl, h1, (hB.trans (hbl.mono hBw)).trans h3⟩
theorem own_c0 {W : World} {g cap : Nat} {e : E3} (h : OwnE W (.slice (some ⟨g, 0, none⟩) 1 cap) [e]) : W.cell? ⟨g, 0, none⟩ = some (.int .i64 e.f) := by
  obtain ⟨A, c, hv, hE, hl, hc⟩ := eds_of_own h
  injection hv with hA _ _
  subst hA
  obtain ⟨b, off, hA, hb, hcc⟩ := hE (by simp)
  injection hA with hA
  injection hA with h1 h2
  subst h1
  subst h2
  exact (hcc 0 (by simp)).1
set_option maxHeartbeats 4000000 in
set_option maxRecDepth 100000 in
theorem hAgain_any (w : World) : Calls Try.prog 31 #[] w fun e w' => e = .returned (.bool true) ∧ Below w.heap.size w w' := by
  have CN := Lib.hid (hNew_any w)
  go_enter Try.func31, Try.ntmps31
  go_wp2_with fail
  with_reducible refine (CN.out).mono ?_
  rintro e1 w1 ⟨rfl, h1, b1⟩
  have B1 := b1.size
  have P1 := Lib.hid (hPush_one h1 b1 B1 (by simp) 1 0 2 0)
  clear h1 b1
  go_wp2_with fail
  with_reducible refine (P1.out).mono ?_
  rintro e2 w2 ⟨rfl, h2, b2⟩
  have P2 := Lib.hid (hPush_one h2 b2 b2.size (by unfold hpush; simp) 3 0 4 0)
  clear h2 b2
  go_wp2_with fail
  with_reducible refine (P2.out).mono ?_
  rintro e3 w3 ⟨rfl, h3, b3⟩
  have h3' : HAt w.heap.size w3 w.heap.size ([⟨[⟨1, 0, ⟨#[]⟩⟩], [⟨2, 0, ⟨#[]⟩⟩]⟩] ++ [⟨[⟨3, 0, ⟨#[]⟩⟩], [⟨4, 0, ⟨#[]⟩⟩]⟩]) [] := h3
  have P3 := Lib.hid (hUndo_any h3' b3.size (by simp) (by simp) (by simp))
  have Q3 := Lib.hid b3
  clear h3 h3' b3
  go_wp2_with fail
  with_reducible refine (P3.out).mono ?_
  rintro e4 w4 ⟨v4, rfl, o4, h4, t4, b4⟩
  obtain ⟨g4, c4, rfl⟩ := own_slice o4 (by simp)
  have b4 := Q3.out.trans b4
  have h4' : HAt w.heap.size w4 w.heap.size ([] ++ [⟨[⟨1, 0, ⟨#[]⟩⟩], [⟨2, 0, ⟨#[]⟩⟩]⟩]) [⟨[⟨3, 0, ⟨#[]⟩⟩], [⟨4, 0, ⟨#[]⟩⟩]⟩] := h4
  have P4 := Lib.hid (hUndo_any h4' b4.size (by simp) (by simp) (by simp))
  have O4 := Lib.hid o4
  have Q4 := Lib.hid b4
  clear h4 h4' b4 o4 t4
  go_wp2_with fail
  with_reducible refine (P4.out).mono ?_
  rintro e5 w5 ⟨v5, rfl, o5, h5, t5, b5⟩
  obtain ⟨g5, c5, rfl⟩ := own_slice o5 (by simp)
  have b5 := Q4.out.trans b5
  have h5' : HAt w.heap.size w5 w.heap.size [] ([⟨[⟨3, 0, ⟨#[]⟩⟩], [⟨4, 0, ⟨#[]⟩⟩]⟩] ++ [⟨[⟨1, 0, ⟨#[]⟩⟩], [⟨2, 0, ⟨#[]⟩⟩]⟩]) := h5
  have P5 := Lib.hid (hRedo_any h5' b5.size (by simp) (by simp) (by simp))
  have o4 := own_onT O4.out t5 (by decide)
  have O4 := Lib.hid o4
  have O5 := Lib.hid o5
  have Q5 := Lib.hid b5
  clear h5 h5' b5 o4 o5 t5
  go_wp2_with fail
  with_reducible refine (P5.out).mono ?_
  rintro e6 w6 ⟨v6, rfl, o6, h6, t6, b6⟩
  obtain ⟨g6, c6, rfl⟩ := own_slice o6 (by simp)
  have b6 := Q5.out.trans b6
  have P6 := Lib.hid (hSizes_any h6)
  have O4 := Lib.hid (own_onT O4.out t6 (by decide))
  have O5 := Lib.hid (own_onT O5.out t6 (by decide))
  have O6 := Lib.hid o6
  have Q6 := Lib.hid b6
  clear h6 b6 o6 t6
  go_wp2_with fail
  with_reducible refine (P6.out).mono ?_
  rintro e7 w7 ⟨rfl, b7⟩
  have k4 := own_c0 (e := ⟨3, 0, ⟨#[]⟩⟩) (own_below O4.out b7)
  have k5 := own_c0 (e := ⟨1, 0, ⟨#[]⟩⟩) (own_below O5.out b7)
  have k6 := own_c0 (e := ⟨2, 0, ⟨#[]⟩⟩) (own_below O6.out b7)
  have Q7 := Lib.hid (Q6.out.trans (b7.mono Q6.out.size))
  clear b7
  go_wp2
  go_ret
  exact ⟨rfl, Q7.out⟩
end Go.Proofs.Ytncbhbjhfmbbkaa
