/- Methods of cursors: New, Item. -/
import Derived.Test.YtbbplppcabeojaaSeekP
import Derived.Test.YtbbplppcabeojaaItAdd
import Derived.Deep.RegionHeld3
namespace Go.Proofs.Ytbbplppcabeojaa
open Go.RowKit
/-- The world behind many stores: what is known of it. -/
theorem gen_world2 {K : World → Prop} {W w : World} {B b b' : Nat} {t t' : TypeId} {cs cs' : Array Value} (h1 : Below B w W) (h2 : RawAt t W b cs) (h3 : RawAt t' W b' cs') (h : ∀ W1, Below B w W1 → RawAt t W1 b cs → RawAt t' W1 b' cs' → K W1) : K W := h W h1 h2 h3
section
variable {T : World → Addr → List I7 → Nat → Prop} {w : World} {b c : Nat} {a : Addr} {l : List I7} {h k : Nat}
theorem seeknew_any (a : Addr) (w : World) : Calls Try.prog 20 #[.pointer (some a)] w fun e w' => e = .returned (.pointer (some ⟨w.heap.size, 0, none⟩)) ∧ RawAt 97 w' w.heap.size (ccs a s0) ∧ Below w.heap.size w w' := by
  go_enter Try.func20, Try.ntmps20
  go_wp2
  refine bodyPost_ret (v := .pointer (some ⟨w.heap.size, 0, none⟩)) (by simp [results, Try.results20, go_sem]) rfl ⟨rfl, heap_alloc_new w _, (Below.refl _ _).alloc (Nat.le_refl _) _⟩
set_option maxHeartbeats 4000000 in
set_option maxRecDepth 100000 in
theorem citem_yes (K : TreeQ T) (C : CAt T w b c a l h k) (hk : k < l.length) : Calls Try.prog 24 #[.pointer (some ⟨b, 0, none⟩)] w fun e w' => e = .returned (.tuple #[.agg (ics (ith l k)), .bool true]) ∧ Below w.heap.size w w' := by
  obtain ⟨r0, r1, r2, r3, r4, r5, r6⟩ := raw_ccs C.raw
  rw [C.n] at r1
  have hbs := C.lt
  have CT := Lib.hid fun (W : World) (hW : Below w.heap.size w W) => (K.at_ W a l h k (C.tree W (Off.of hW)) hk).mono fun _ _ ⟨he, hb⟩ => (⟨he, hb, hW.trans (hb.mono hW.size)⟩ : _ ∧ _ ∧ Below w.heap.size w _)
  clear hk C K r2 r3 r4 r5 r6
  generalize ith l k = x at *
  unfold ics at CT
  go_enter Try.func24, Try.ntmps24
  go_wp2_with fail
  have h0 : Below w.heap.size w (w.alloc (.cells (ics ⟨0, 0, 0, 0, 0, 0, ⟨#[]⟩⟩) 54)) := (Below.refl _ _).alloc (Nat.le_refl _) _
  have R0 := Lib.hid (show RawAt 54 (w.alloc (.cells (ics ⟨0, 0, 0, 0, 0, 0, ⟨#[]⟩⟩) 54)) w.heap.size (ics ⟨0, 0, 0, 0, 0, 0, ⟨#[]⟩⟩) from heap_alloc_new w _)
  go_region_with (first
    | (go_at_call 67; ((with_reducible refine (CT.out _ (by (repeat' (first | (with_reducible exact h0) | (with_reducible exact Below.refl _ _) | (with_reducible refine Below.drew ?_) | (with_reducible refine Below.alloc ?_ ?_ _))) <;> first | exact Nat.le_refl _ | (simp; done) | (simp; omega))).mono ?_); rintro e w1 ⟨rfl, hb1, a1⟩); (first
      | (have RI : RawAt 54 w1 (w.heap.size + 1) (ics ⟨0, 0, 0, 0, 0, 0, ⟨#[]⟩⟩) := RawAt.below (RawAt.drew_ (new2 w _ _ _ _).2.1) hb1 (by simp <;> omega); have RZ : RawAt 54 w1 w.heap.size (ics ⟨0, 0, 0, 0, 0, 0, ⟨#[]⟩⟩) := RawAt.below (RawAt.drew_ (new2 w _ _ _ _).1) hb1 (by simp <;> omega); have y0 := RawAt.free RI 0; have y1 := RawAt.free RI 1; have y2 := RawAt.free RI 2; have y3 := RawAt.free RI 3; have y4 := RawAt.free RI 4; have y5 := RawAt.free RI 5; have y6 := RawAt.free RI 6; obtain ⟨q0, q1, q2, q3, q4, q5, q6⟩ := raw_ics RI)
      | (have RZ : RawAt 54 w1 w.heap.size (ics ⟨0, 0, 0, 0, 0, 0, ⟨#[]⟩⟩) := RawAt.below (RawAt.drew_ (heap_alloc_new w _)) hb1 (by simp <;> omega)))))
  all_goals clear CT r0 r1 hbs
  all_goals first
    | (refine gen_world2 (B := w.heap.size) (w := w) (b := w.heap.size + 1) (b' := w.heap.size) (cs := ics x) ?_ ((((((((RI.set_ 0 (.int .i64 x.tag)).set_ 1 (.int .i64 x.id)).set_ 2 (.int .i64 x.d0)).set_ 3 (.int .i64 x.d1)).set_ 4 (.int .i64 x.d2)).set_ 5 (.int .i64 x.mx)).set_ 6 (.string x.tx)).of_eq (by simp [ics])) (((((((RZ.set_other (by omega) 0 (.int .i64 x.tag)).set_other (by omega) 1 (.int .i64 x.id)).set_other (by omega) 2 (.int .i64 x.d0)).set_other (by omega) 3 (.int .i64 x.d1)).set_other (by omega) 4 (.int .i64 x.d2)).set_other (by omega) 5 (.int .i64 x.mx)).set_other (by omega) 6 (.string x.tx)) ?_
       · ((repeat' (first | (with_reducible exact a1) | (with_reducible refine Below.setCell ?_ ?_ _))) <;> (simp; done)))
    | (refine gen_world2 (B := w.heap.size) (w := w) (b := w1.heap.size) (b' := w.heap.size) (cs := ics x) ?_ (heap_alloc_new w1 _) (RawAt.below RZ ((Below.refl _ _).alloc (Nat.le_refl _) _) (RawAt.lt RZ)) ?_
       · exact a1.alloc a1.size _)
  all_goals
    intro W1 hB RI' RZ'
    obtain ⟨q0, q1, q2, q3, q4, q5, q6⟩ := raw_ics RI'
    have y0 := RawAt.free RZ' 0
    have y1 := RawAt.free RZ' 1
    have y2 := RawAt.free RZ' 2
    have y3 := RawAt.free RZ' 3
    have y4 := RawAt.free RZ' 4
    have y5 := RawAt.free RZ' 5
    have y6 := RawAt.free RZ' 6
    obtain ⟨z0, z1, z2, z3, z4, z5, z6⟩ := raw_ics RZ'
    clear RI' RZ'
    go_wp2
  all_goals
    refine bodyPost_ret (v := .tuple #[.agg #[.int .i64 x.tag, .int .i64 x.id, .int .i64 x.d0, .int .i64 x.d1, .int .i64 x.d2, .int .i64 x.mx, .string x.tx], .bool true]) (by simp [results, Try.results24, go_sem, z0, z1, z2, z3, z4, z5, z6]) rfl ⟨rfl, ?_⟩
    (repeat' (first | (with_reducible exact hB) | (with_reducible refine Below.setCell ?_ ?_ _) | (with_reducible refine Below.drew ?_))) <;> first | exact Nat.le_refl _ | (simp; done)
set_option maxHeartbeats 4000000 in
set_option maxRecDepth 100000 in
theorem citem_no (K : TreeQ T) (C : CAt T w b c a l h k) (hk : ¬ k < l.length) : Calls Try.prog 24 #[.pointer (some ⟨b, 0, none⟩)] w fun e w' => e = .returned (.tuple #[.agg (ics ⟨0, 0, 0, 0, 0, 0, ⟨#[]⟩⟩), .bool false]) ∧ Below w.heap.size w w' := by
  obtain ⟨r0, r1, r2, r3, r4, r5, r6⟩ := raw_ccs C.raw
  rw [C.n] at r1
  have hbs := C.lt
  have CT := Lib.hid fun (W : World) (hW : Below w.heap.size w W) => (K.atBad W a l h k (C.tree W (Off.of hW)) (fun hh => hk (by omega))).mono fun _ _ ⟨he, hb⟩ => (⟨he, hb, hW.trans (hb.mono hW.size)⟩ : _ ∧ _ ∧ Below w.heap.size w _)
  clear hk C K r2 r3 r4 r5 r6
  generalize hx : (⟨0, 0, 0, 0, 0, 0, ⟨#[]⟩⟩ : I7) = x at CT
  have HX := Lib.hid hx; clear hx
  unfold ics at CT
  go_enter Try.func24, Try.ntmps24
  go_wp2_with fail
  have h0 : Below w.heap.size w (w.alloc (.cells (ics ⟨0, 0, 0, 0, 0, 0, ⟨#[]⟩⟩) 54)) := (Below.refl _ _).alloc (Nat.le_refl _) _
  have R0 := Lib.hid (show RawAt 54 (w.alloc (.cells (ics ⟨0, 0, 0, 0, 0, 0, ⟨#[]⟩⟩) 54)) w.heap.size (ics ⟨0, 0, 0, 0, 0, 0, ⟨#[]⟩⟩) from heap_alloc_new w _)
  go_region_with (first
    | (go_at_call 67; ((with_reducible refine (CT.out _ (by (repeat' (first | (with_reducible exact h0) | (with_reducible exact Below.refl _ _) | (with_reducible refine Below.drew ?_) | (with_reducible refine Below.alloc ?_ ?_ _))) <;> first | exact Nat.le_refl _ | (simp; done) | (simp; omega))).mono ?_); rintro e w1 ⟨rfl, hb1, a1⟩); (first
      | (have RI : RawAt 54 w1 (w.heap.size + 1) (ics ⟨0, 0, 0, 0, 0, 0, ⟨#[]⟩⟩) := RawAt.below (RawAt.drew_ (new2 w _ _ _ _).2.1) hb1 (by simp <;> omega); have RZ : RawAt 54 w1 w.heap.size (ics ⟨0, 0, 0, 0, 0, 0, ⟨#[]⟩⟩) := RawAt.below (RawAt.drew_ (new2 w _ _ _ _).1) hb1 (by simp <;> omega); have y0 := RawAt.free RI 0; have y1 := RawAt.free RI 1; have y2 := RawAt.free RI 2; have y3 := RawAt.free RI 3; have y4 := RawAt.free RI 4; have y5 := RawAt.free RI 5; have y6 := RawAt.free RI 6; obtain ⟨q0, q1, q2, q3, q4, q5, q6⟩ := raw_ics RI)
      | (have RZ : RawAt 54 w1 w.heap.size (ics ⟨0, 0, 0, 0, 0, 0, ⟨#[]⟩⟩) := RawAt.below (RawAt.drew_ (heap_alloc_new w _)) hb1 (by simp <;> omega)))))
  all_goals clear CT r0 r1 hbs
  all_goals first
    | (refine gen_world2 (B := w.heap.size) (w := w) (b := w.heap.size + 1) (b' := w.heap.size) (cs := ics x) ?_ ((((((((RI.set_ 0 (.int .i64 x.tag)).set_ 1 (.int .i64 x.id)).set_ 2 (.int .i64 x.d0)).set_ 3 (.int .i64 x.d1)).set_ 4 (.int .i64 x.d2)).set_ 5 (.int .i64 x.mx)).set_ 6 (.string x.tx)).of_eq (by simp [ics])) (((((((RZ.set_other (by omega) 0 (.int .i64 x.tag)).set_other (by omega) 1 (.int .i64 x.id)).set_other (by omega) 2 (.int .i64 x.d0)).set_other (by omega) 3 (.int .i64 x.d1)).set_other (by omega) 4 (.int .i64 x.d2)).set_other (by omega) 5 (.int .i64 x.mx)).set_other (by omega) 6 (.string x.tx)) ?_
       · ((repeat' (first | (with_reducible exact a1) | (with_reducible refine Below.setCell ?_ ?_ _))) <;> (simp; done)))
    | (refine gen_world2 (B := w.heap.size) (w := w) (b := w1.heap.size) (b' := w.heap.size) (cs := ics x) ?_ (heap_alloc_new w1 _) (RawAt.below RZ ((Below.refl _ _).alloc (Nat.le_refl _) _) (RawAt.lt RZ)) ?_
       · exact a1.alloc a1.size _)
  all_goals
    intro W1 hB RI' RZ'
    obtain ⟨q0, q1, q2, q3, q4, q5, q6⟩ := raw_ics RI'
    have y0 := RawAt.free RZ' 0
    have y1 := RawAt.free RZ' 1
    have y2 := RawAt.free RZ' 2
    have y3 := RawAt.free RZ' 3
    have y4 := RawAt.free RZ' 4
    have y5 := RawAt.free RZ' 5
    have y6 := RawAt.free RZ' 6
    obtain ⟨z0, z1, z2, z3, z4, z5, z6⟩ := raw_ics RZ'
    clear RI' RZ'
    go_wp2
  all_goals
    refine bodyPost_ret (v := .tuple #[.agg #[.int .i64 x.tag, .int .i64 x.id, .int .i64 x.d0, .int .i64 x.d1, .int .i64 x.d2, .int .i64 x.mx, .string x.tx], .bool false]) (by simp [results, Try.results24, go_sem, z0, z1, z2, z3, z4, z5, z6]) rfl ⟨by rw [← HX.out]; rfl, ?_⟩
    (repeat' (first | (with_reducible exact hB) | (with_reducible refine Below.setCell ?_ ?_ _) | (with_reducible refine Below.drew ?_))) <;> first | exact Nat.le_refl _ | (simp; done)
end
end Go.Proofs.Ytbbplppcabeojaa
