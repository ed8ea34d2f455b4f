/- Patches of batches: the contracts of Of and its closure. -/
import Derived.Test.YthbhjecfiiknaaaPtT
namespace Go.Proofs.Ythbhjecfiiknaaa
open Go.RowKit
set_option linter.unusedVariables false
set_option maxHeartbeats 4000000 in
set_option maxRecDepth 100000 in
theorem of1_any (A : Option Addr) (m cp n0 : Nat) (l : List E3) (ab : Nat) (w W : World) (hl : l.length = m) (hm : m ≤ 64) (hn : ERis n0 0 l) (hn0 : n0 ≤ 1000000000) (hs : ∀ e ∈ l, e.x.size ≤ 1000000000)
    (hA : EdsAt w A l) (ha : RawAt 33 w ab #[.slice A m cp]) (hJ : JAt w (pcs LL 0 0 (rawc 0 0 (tri l))) [] W) :
    Calls Try.prog 33 #[.func (.func 44) #[] #[.pointer (some ⟨w.heap.size + 1, 0, none⟩), .pointer (some ⟨w.heap.size, 0, none⟩)], .pointer (some ⟨ab, 0, none⟩)] W fun e w' => e = .returned (.tuple #[]) ∧ JAt w (pcs LL 0 0 (rawc 0 0 (tri l))) (pcs LL 0 0 (rawc 0 0 (tri l))) w' := by
  have hws := hJ.below.size
  have CK := Lib.hid (keptE_any 44 #[.pointer (some ⟨w.heap.size + 1, 0, none⟩), .pointer (some ⟨w.heap.size, 0, none⟩)] A m cp n0 l (fun em W' => JAt w (pcs LL 0 0 (rawc 0 0 (tri l))) em W' ∧ W.heap.size ≤ W'.heap.size) W (by intro args w; rfl) hl hm hn hn0 hs
    (fun d W1 h => hA.below h.1.below)
    (fun d W1 W2 h1 h2 => ⟨h1.1.keep (OnT.of h2) (h2.mono (by have := h1.2; omega)), Nat.le_trans h1.2 h2.size⟩)
    (fun d x r W1 h1 h2 => (each_any w _ d r x W1 h1 (bd_raw hn hn0 (by omega) hs).1 h2.1).mono fun _ _ ⟨e1, e2, e3, e4⟩ => ⟨e1, ⟨e2, Nat.le_trans h2.2 e4⟩, fun b cs hr => e3 _ _ _ (by decide) hr⟩)
    ⟨hJ, Nat.le_refl _⟩)
  have r0 := RawAt.cell (ha.below hJ.below ha.lt) 0
  simp at r0
  clear hJ hA ha hl hn hs
  go_enter Try.func33, Try.ntmps33
  go_wp2_with fail
  with_reducible refine CK.out.mono ?_
  rintro e w3 ⟨rfl, hJ⟩
  have HJ := Lib.hid hJ.1
  clear hJ CK
  go_wp2
  exact bodyPost_end (v := .tuple #[]) (by simp [results, Try.results33, go_sem]) rfl ⟨rfl, HJ.out⟩
/-- The patch of a batch. -/
def pof (l : List E3) : List Ch := chg 0 0 (pcs LL 0 0 (rawc 0 0 (tri l)))
set_option maxHeartbeats 4000000 in
set_option maxRecDepth 100000 in
theorem pOf_any (A : Option Addr) (m cp n0 : Nat) (l : List E3) (w : World) (hA : EdsAt w A l) (hl : l.length = m) (hm : m ≤ 64) (hn : ERis n0 0 l) (hn0 : n0 ≤ 1000000000) (hs : ∀ e ∈ l, e.x.size ≤ 1000000000) :
    Calls Try.prog 17 #[.slice A m cp] w fun e w' => ∃ A' c', e = .returned (.slice A' (pof l).length c') ∧ ChsAt w' A' (pof l) ∧ Caps A' (pof l).length c' ∧ Below w.heap.size w w' := by
  have hmf : ∀ (fn : Fn) (first cap : Array Value) (w : World), (Instr.makeFunc fn first cap).run Try.prog w = .ok (.func fn first cap) w := fun _ _ _ _ => rfl
  have x1 : Below w.heap.size w (w.alloc (.cells #[.slice A m cp] 33)) := (Below.refl _ _).alloc (Nat.le_refl _) _
  have hr0 : RawAt 33 (w.alloc (.cells #[.slice A m cp] 33)) w.heap.size #[.slice A m cp] := heap_alloc_new w _
  have HA1 := hA.below x1
  obtain ⟨hbd, hnr⟩ := bd_raw hn hn0 (by omega) hs
  have C1 := Lib.hid (prises_any n0 A m cp l _ HA1 hl hm hn)
  have C3 := Lib.hid fun (W : World) (hW : Below _ _ W) => between_any 33 #[.pointer (some ⟨w.heap.size, 0, none⟩)] (pcs LL 0 0 (rawc 0 0 (tri l))) W hbd (by intro args w; rfl) (fun W' hJ => of1_any A m cp n0 l w.heap.size W W' hl hm hn hn0 hs (HA1.below hW) (hr0.below hW hr0.lt) hJ)
  have hlen : (pof l).length ≤ 1000000 := Nat.le_trans (chg_len 0 0 _) hbd.len
  have hfar : ¬ isFar (pof l) := fun ⟨h1, h2⟩ => by
    have := nrm_bd (show nrm M40 0 0 true (pof l) from hnr) _ (cth_mem (show (pof l).length - 1 < (pof l).length by omega))
    omega
  have R0 := Lib.hid hr0
  have r0 := RawAt.cell R0.out 0
  simp at r0
  have hc0 : chg 0 0 (pcs LL 0 0 (rawc 0 0 (tri l))) = pof l := rfl
  rw [hc0] at C3
  have HF := Lib.hid hfar
  clear hA hl hn hs HA1 hbd hnr hr0 hc0 hfar
  generalize pof l = p at *
  have HLN := Lib.hid hlen
  clear hlen
  go_enter Try.func17, Try.ntmps17
  go_wp2_with fail
  with_reducible refine C1.out.mono ?_
  rintro e w1 ⟨rfl, hb1⟩
  have q1 := x1.trans (hb1.mono x1.size)
  go_wp2_with fail
  with_reducible refine (C3.out _ hb1).mono ?_
  rintro e w3 ⟨A', c', rfl, hI, hC, hb3⟩
  have q3 := q1.trans (hb3.mono q1.size)
  have HI := Lib.hid hI
  have HC := Lib.hid hC
  have CF := Lib.hid (far_any A' p.length c' p w3 false hI rfl HLN.out ⟨fun h => absurd h (by decide), fun h => absurd h HF.out⟩)
  clear hI hC
  go_wp2_with fail
  with_reducible refine CF.out.mono ?_
  rintro e w4 ⟨rfl, hb4⟩
  have q4 := q3.trans (hb4.mono q3.size)
  go_wp2
  go_ret
  exact ⟨A', c', rfl, HI.out.below hb4, HC.out, q4⟩
end Go.Proofs.Ythbhjecfiiknaaa
