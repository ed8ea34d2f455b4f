/- One rune more of a sum: the contract of the closure in sums.Of. -/
import Derived.Test.YtajjodooojhhcaaSize
import Derived.Test.YtajjodooojhhcaaSumsPure
import Derived.Deep.RegionWith
namespace Go.Proofs.Ytajjodooojhhcaa
open Go.RowKit
/-- A block's cells, of some type. -/
def RawAt (t : TypeId) (w : World) (b : Nat) (cs : Array Value) : Prop := w.heap[b]? = some (.cells cs t (0, 0))
theorem RawAt.set_ {t : TypeId} {w : World} {b : Nat} {cs : Array Value} (h : RawAt t w b cs) (k : Nat) (v : Value) : RawAt t (w.setCell ⟨b, k, none⟩ v) b (cs.setIfInBounds k v) := by
  unfold RawAt at h ⊢
  simp [World.setCell, Array.getElem?_modify, h]
theorem RawAt.drew_ {t : TypeId} {w : World} {b : Nat} {cs : Array Value} (h : RawAt t w b cs) : RawAt t w.drew b cs := h
theorem RawAt.lt {t : TypeId} {w : World} {b : Nat} {cs : Array Value} (h : RawAt t w b cs) : b < w.heap.size := block_lt h
theorem RawAt.below {t : TypeId} {w w' : World} {b B : Nat} {cs : Array Value} (h : RawAt t w b cs) (hb : Below B w w') (hB : b < B) : RawAt t w' b cs := (hb.block b hB).trans h
theorem RawAt.free {t : TypeId} {w : World} {b : Nat} {cs : Array Value} (h : RawAt t w b cs) (k : Nat) : w.frozen? ⟨b, k, none⟩ = false := by
  unfold RawAt at h
  simp [World.frozen?, h]
theorem RawAt.cell {t : TypeId} {w : World} {b : Nat} {cs : Array Value} (h : RawAt t w b cs) (k : Nat) : w.cell? ⟨b, k, none⟩ = cs[k]? := by
  unfold RawAt at h
  simp [World.cell?, h]
theorem RawAt.of_eq {t : TypeId} {w : World} {b : Nat} {cs cs' : Array Value} (h : RawAt t w b cs) (e : cs = cs') : RawAt t w b cs' := e ▸ h
/-- The cells of a sum. -/
def qcs (q : Q) : Array Value := #[.int .i64 q.by_, .int .i64 q.ru, .int .i64 q.br, .int .i64 q.fi, .int .i64 q.la, .int .i64 q.lo, .int .i64 q.rw]
/-- A sum lies in a block. -/
def QAt (w : World) (b : Nat) (q : Q) : Prop := RawAt 25 w b (qcs q)
theorem QAt.cells {w : World} {b : Nat} {q : Q} (h : QAt w b q) : w.cell? ⟨b, 0, none⟩ = some (.int .i64 q.by_) ∧ w.cell? ⟨b, 1, none⟩ = some (.int .i64 q.ru) ∧ w.cell? ⟨b, 2, none⟩ = some (.int .i64 q.br) ∧ w.cell? ⟨b, 3, none⟩ = some (.int .i64 q.fi) ∧ w.cell? ⟨b, 4, none⟩ = some (.int .i64 q.la) ∧ w.cell? ⟨b, 5, none⟩ = some (.int .i64 q.lo) ∧ w.cell? ⟨b, 6, none⟩ = some (.int .i64 q.rw) :=
  ⟨RawAt.cell h 0, RawAt.cell h 1, RawAt.cell h 2, RawAt.cell h 3, RawAt.cell h 4, RawAt.cell h 5, RawAt.cell h 6⟩
set_option maxHeartbeats 4000000 in
set_option maxRecDepth 100000 in
theorem take_any (r : Int) (b : Nat) (q : Q) (n : Int) (hn : n ≤ 1000000000) (hq : QOk q n) (w : World) (h : QAt w b q) :
    Calls Try.prog 27 #[.int .i32 r, .pointer (some ⟨b, 0, none⟩)] w fun e w' => e = .returned (.tuple #[]) ∧ QAt w' b (qstep q r) ∧ Below b w w' := by
  have hlt := RawAt.lt h
  obtain ⟨c0, c1, c2, c3, c4, c5, c6⟩ := h.cells
  have f0 := RawAt.free h 0
  have f1 := RawAt.free h 1
  have f2 := RawAt.free h 2
  have f3 := RawAt.free h 3
  have f4 := RawAt.free h 4
  have f5 := RawAt.free h 5
  have f6 := RawAt.free h 6
  have HB := Lib.hid (show Below b w w from ⟨rfl, rfl, rfl, Nat.le_refl _, fun _ _ => rfl⟩)
  have H := Lib.hid h; clear h
  have C := Lib.hid fun W => size_same r W
  have hu := uSize_bd r
  obtain ⟨by_, ru, br, fi, la, lo, rw⟩ := q
  obtain ⟨a1, a2, a3, a4, a5, a6, a7, a8, a9, a10, a11, a12, a13⟩ := hq
  simp only at a1 a2 a3 a4 a5 a6 a7 a8 a9 a10 a11 a12 c0 c1 c2 c3 c4 c5 c6
  clear a13
  have a3' : ru ≤ 1000000000 := by omega
  have a3'' : 0 ≤ ru := by omega
  clear a3
  by_cases hr : r = 10
  · subst hr
    have HS := Lib.hid (qstep_nl ⟨by_, ru, br, fi, la, lo, rw⟩)
    generalize uSize 10 = u at *
    go_enter Try.func27, Try.ntmps27
    go_wp2_with fail
    go_region_with (go_at_call 28; refine (C.out _).mono ?_; rintro e w' ⟨rfl, rfl⟩)
    all_goals
      go_wp2
      refine bodyPost_ret (v := .tuple #[]) (by simp [results, Try.results27, go_sem]) rfl ⟨rfl, ?_, ?_⟩
      · rw [HS.out]
        exact ((((RawAt.set_ H.out _ _).set_ _ _).set_ _ _).set_ _ _).drew_.of_eq (by simp [qcs])
      · exact ((((HB.out.setCell (p := ⟨b, _, none⟩) (Nat.le_refl _) _).setCell (p := ⟨b, _, none⟩) (Nat.le_refl _) _).setCell (p := ⟨b, _, none⟩) (Nat.le_refl _) _).setCell (p := ⟨b, _, none⟩) (Nat.le_refl _) _).drew
  · have HS := Lib.hid (qstep_ne ⟨by_, ru, br, fi, la, lo, rw⟩ hr)
    have hrb : (r == 10) = false := by simpa using hr
    have HR := Lib.hid hr; clear hr
    generalize uSize r = u at *
    by_cases hbr : br = 0
    · subst hbr
      by_cases hlo : lo < la + 1
      · have HL := Lib.hid hlo
        go_enter Try.func27, Try.ntmps27
        go_wp2_with fail
        go_region_with (go_at_call 28; refine (C.out _).mono ?_; rintro e w' ⟨rfl, rfl⟩)
        all_goals
          go_wp2
          go_end0
          refine ⟨rfl, ?_, ?_⟩
          · rw [HS.out]
            exact ((((((RawAt.set_ H.out _ _).set_ _ _).set_ _ _).set_ _ _).set_ _ _).set_ _ _).drew_.of_eq (by simp [qcs, HL.out])
          · exact ((((((HB.out.setCell (p := ⟨b, _, none⟩) (Nat.le_refl _) _).setCell (p := ⟨b, _, none⟩) (Nat.le_refl _) _).setCell (p := ⟨b, _, none⟩) (Nat.le_refl _) _).setCell (p := ⟨b, _, none⟩) (Nat.le_refl _) _).setCell (p := ⟨b, _, none⟩) (Nat.le_refl _) _).setCell (p := ⟨b, _, none⟩) (Nat.le_refl _) _).drew
      · have HL := Lib.hid hlo
        go_enter Try.func27, Try.ntmps27
        go_wp2_with fail
        go_region_with (go_at_call 28; refine (C.out _).mono ?_; rintro e w' ⟨rfl, rfl⟩)
        all_goals
          go_wp2
          go_end0
          refine ⟨rfl, ?_, ?_⟩
          · rw [HS.out]
            exact ((((RawAt.set_ H.out _ _).set_ _ _).set_ _ _).set_ _ _).drew_.of_eq (by have hk : ¬ lo < la + 1 := (by have := HL.out; omega); simp [qcs, hk])
          · exact ((((HB.out.setCell (p := ⟨b, _, none⟩) (Nat.le_refl _) _).setCell (p := ⟨b, _, none⟩) (Nat.le_refl _) _).setCell (p := ⟨b, _, none⟩) (Nat.le_refl _) _).setCell (p := ⟨b, _, none⟩) (Nat.le_refl _) _).drew
    · have hbb : (br == 0) = false := by simpa using hbr
      have HBR := Lib.hid hbr; clear hbr
      by_cases hlo : lo < la + 1
      · have HL := Lib.hid hlo
        go_enter Try.func27, Try.ntmps27
        go_wp2_with fail
        go_region_with (go_at_call 28; refine (C.out _).mono ?_; rintro e w' ⟨rfl, rfl⟩)
        all_goals
          go_wp2
          go_end0
          refine ⟨rfl, ?_, ?_⟩
          · rw [HS.out]
            exact (((((RawAt.set_ H.out _ _).set_ _ _).set_ _ _).set_ _ _).set_ _ _).drew_.of_eq (by simp [qcs, HL.out, HBR.out])
          · exact (((((HB.out.setCell (p := ⟨b, _, none⟩) (Nat.le_refl _) _).setCell (p := ⟨b, _, none⟩) (Nat.le_refl _) _).setCell (p := ⟨b, _, none⟩) (Nat.le_refl _) _).setCell (p := ⟨b, _, none⟩) (Nat.le_refl _) _).setCell (p := ⟨b, _, none⟩) (Nat.le_refl _) _).drew
      · have HL := Lib.hid hlo
        go_enter Try.func27, Try.ntmps27
        go_wp2_with fail
        go_region_with (go_at_call 28; refine (C.out _).mono ?_; rintro e w' ⟨rfl, rfl⟩)
        all_goals
          go_wp2
          go_end0
          refine ⟨rfl, ?_, ?_⟩
          · rw [HS.out]
            exact (((RawAt.set_ H.out _ _).set_ _ _).set_ _ _).drew_.of_eq (by have hk : ¬ lo < la + 1 := (by have := HL.out; omega); simp [qcs, hk, HBR.out])
          · exact (((HB.out.setCell (p := ⟨b, _, none⟩) (Nat.le_refl _) _).setCell (p := ⟨b, _, none⟩) (Nat.le_refl _) _).setCell (p := ⟨b, _, none⟩) (Nat.le_refl _) _).drew
end Go.Proofs.Ytajjodooojhhcaa
