/- Stops: a cell's place: the contracts of Place and its closure. -/
import Derived.Test.YtbalafgoengppaaDoorStD
namespace Go.Proofs.YtbalafgoengppaaDoor
open Go.RowKit
set_option linter.unusedVariables false
/-- What the closure of Place has, in four blocks from N on: what is asked, the place, its cell, the end. -/
structure PlAt (N : Nat) (tab q : Int) (d : List Int) (W : World) : Prop where
  ask : RawAt 37 W N #[.int .i64 tab, .int .i64 q]
  ex : ∃ (p : Nat) (cell : Int), PlSt d q p cell ∧ RawAt 3 W (N + 1) #[.int .i64 (p : Int)] ∧ RawAt 3 W (N + 2) #[.int .i64 cell]
  end_ : RawAt 3 W (N + 3) #[.int .i64 d.sum]
theorem PlAt.keep {N : Nat} {tab q : Int} {d : List Int} {W W' : World} (h : PlAt N tab q d W) (hb : Below W.heap.size W W') : PlAt N tab q d W' := by
  obtain ⟨h1, ⟨p, cell, h2, h3, h4⟩, h5⟩ := h
  exact ⟨h1.below hb h1.lt, ⟨p, cell, h2, h3.below hb h3.lt, h4.below hb h4.lt⟩, h5.below hb h5.lt⟩
set_option maxHeartbeats 4000000 in
set_option maxRecDepth 100000 in
theorem plC_any (N : Nat) (tab q : Int) (d : List Int) (x : Int) (W : World) (h : PlAt N tab q d W) (hd : ∀ y ∈ d, 0 ≤ y ∧ y ≤ 16) (hl : d.length ≤ 1000000) (h3 : 0 ≤ x) (h4 : x ≤ 16) :
    Calls Tryd.prog 39 #[.int .i64 x, .pointer (some ⟨N + 3, 0, none⟩), .pointer (some ⟨N, 0, none⟩), .pointer (some ⟨N + 1, 0, none⟩), .pointer (some ⟨N + 2, 0, none⟩)] W fun e w' => e = .returned (.tuple #[]) ∧ PlAt N tab q (d ++ [x]) w' ∧ Below N W w' := by
  obtain ⟨h1, ⟨p, cell, hp, h6, h7⟩, h5⟩ := h
  have s1 := sum_nn d (fun y hy => (hd y hy).1)
  have s2 := sum_le16 d hd
  have pl : p ≤ d.length := hp.1
  have HY := Lib.hid fun hle => hp.yes (fun y hy => (hd y hy).1) h3 hle
  have HZ := Lib.hid fun hle => hp.no h3 hle
  have HS := Lib.hid (show (d ++ [x]).sum = d.sum + x by rw [List.sum_append]; simp)
  have r0 := RawAt.cell h5 0
  have f0 := RawAt.free h5 0
  have r6 := RawAt.cell h6 0
  have r7 := RawAt.cell h7 0
  have f6 := RawAt.free h6 0
  have f7 := RawAt.free h7 0
  have E1 : RawAt 3 (W.setCell ⟨N + 3, 0, none⟩ (.int .i64 (d.sum + x))) (N + 3) #[.int .i64 (d.sum + x)] := (h5.set_ 0 _).of_eq (by simp)
  have A1 : RawAt 37 (W.setCell ⟨N + 3, 0, none⟩ (.int .i64 (d.sum + x))) N #[.int .i64 tab, .int .i64 q] := h1.set_other (by omega) 0 _
  have P1 : RawAt 3 (W.setCell ⟨N + 3, 0, none⟩ (.int .i64 (d.sum + x))) (N + 1) #[.int .i64 (p : Int)] := h6.set_other (by omega) 0 _
  have C1 : RawAt 3 (W.setCell ⟨N + 3, 0, none⟩ (.int .i64 (d.sum + x))) (N + 2) #[.int .i64 cell] := h7.set_other (by omega) 0 _
  have e1 := RawAt.cell E1 0
  have a1 := RawAt.cell A1 1
  have p1 := RawAt.cell P1 0
  have fp := RawAt.free P1 0
  have E2 : RawAt 3 ((W.setCell ⟨N + 3, 0, none⟩ (.int .i64 (d.sum + x))).setCell ⟨N + 1, 0, none⟩ (.int .i64 ((p : Int) + 1))) (N + 3) #[.int .i64 (d.sum + x)] := E1.set_other (by omega) 0 _
  have A2 : RawAt 37 ((W.setCell ⟨N + 3, 0, none⟩ (.int .i64 (d.sum + x))).setCell ⟨N + 1, 0, none⟩ (.int .i64 ((p : Int) + 1))) N #[.int .i64 tab, .int .i64 q] := A1.set_other (by omega) 0 _
  have P2 : RawAt 3 ((W.setCell ⟨N + 3, 0, none⟩ (.int .i64 (d.sum + x))).setCell ⟨N + 1, 0, none⟩ (.int .i64 ((p : Int) + 1))) (N + 1) #[.int .i64 ((p : Int) + 1)] := (P1.set_ 0 _).of_eq (by simp)
  have C2 : RawAt 3 ((W.setCell ⟨N + 3, 0, none⟩ (.int .i64 (d.sum + x))).setCell ⟨N + 1, 0, none⟩ (.int .i64 ((p : Int) + 1))) (N + 2) #[.int .i64 cell] := C1.set_other (by omega) 0 _
  have e2 := RawAt.cell E2 0
  have fc := RawAt.free C2 0
  have B1 : Below N W (W.setCell ⟨N + 3, 0, none⟩ (.int .i64 (d.sum + x))) := (Below.refl _ _).setCell (p := ⟨N + 3, 0, none⟩) (by simp) _
  have B2 : Below N W ((W.setCell ⟨N + 3, 0, none⟩ (.int .i64 (d.sum + x))).setCell ⟨N + 1, 0, none⟩ (.int .i64 ((p : Int) + 1))) := B1.setCell (p := ⟨N + 1, 0, none⟩) (by simp) _
  have HE1 := Lib.hid E1
  have HA1 := Lib.hid A1
  have HP1 := Lib.hid P1
  have HC1 := Lib.hid C1
  have HE2 := Lib.hid E2
  have HA2 := Lib.hid A2
  have HP2 := Lib.hid P2
  have HC2 := Lib.hid C2
  have HB1 := Lib.hid B1
  have HB2 := Lib.hid B2
  clear hp hd h1 h6 h7 h5 E1 A1 P1 C1 E2 A2 P2 C2 B1 B2
  simp at r0 e1 a1 p1 e2 r6 r7
  generalize d.sum = s at *
  by_cases hle : s + x ≤ q
  · have HY1 := Lib.hid (HY.out hle)
    clear HY HZ
    go_enter Tryd.func39, Tryd.ntmps39
    go_wp2
    refine bodyPost_end (v := .tuple #[]) (by simp [results, Tryd.results39, go_sem]) rfl ⟨rfl, ⟨HA2.out.set_other (by omega) 0 _, ⟨p + 1, s + x, HY1.out, HP2.out.set_other (by omega) 0 _, (HC2.out.set_ 0 _).of_eq (by simp)⟩, ?_⟩, HB2.out.setCell (p := ⟨N + 2, 0, none⟩) (by simp) _⟩
    rw [HS.out]
    exact HE2.out.set_other (by omega) 0 _
  · have HZ1 := Lib.hid (HZ.out hle)
    clear HY HZ
    go_enter Tryd.func39, Tryd.ntmps39
    go_wp2
    refine bodyPost_end (v := .tuple #[]) (by simp [results, Tryd.results39, go_sem]) rfl ⟨rfl, ⟨HA1.out, ⟨p, cell, HZ1.out, HP1.out, HC1.out⟩, ?_⟩, HB1.out⟩
    rw [HS.out]
    exact HE1.out
end Go.Proofs.YtbalafgoengppaaDoor
