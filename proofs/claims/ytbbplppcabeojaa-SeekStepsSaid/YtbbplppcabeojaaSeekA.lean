/- Methods of cursors: Item behind all, Start, pass, To. -/
import Derived.Test.YtbbplppcabeojaaSeekI
namespace Go.Proofs.Ytbbplppcabeojaa
open Go.RowKit
section
variable {T : World → Addr → List I7 → Nat → Prop} {w : World} {b c : Nat} {a : Addr} {l : List I7} {h k : Nat}
theorem cstart_any (C : CAt T w b c a l h k) : Calls Try.prog 25 #[.pointer (some ⟨b, 0, none⟩)] w fun e w' => e = .returned (.agg (scs (sall (l.take k)))) ∧ Below w.heap.size w w' := by
  obtain ⟨r0, r1, r2, r3, r4, r5, r6⟩ := raw_ccs C.raw
  have hbs := C.lt
  clear C
  generalize sall (l.take k) = s at *
  go_enter Try.func25, Try.ntmps25
  go_wp2
  refine bodyPost_ret (v := .agg #[.int .i64 s.n, .int .i64 s.d0, .int .i64 s.d1, .int .i64 s.d2, .int .i64 s.mx, .int .i64 s.pl]) (by simp [results, Try.results25, go_sem]) rfl ⟨rfl, (Below.refl _ _).alloc (Nat.le_refl _) _⟩
set_option maxHeartbeats 4000000 in
set_option maxRecDepth 100000 in
theorem cto_yes (K : TreeQ T) (C : CAt T w b c a l h k) (dim v bias : Int) (hq : AskOk l dim v bias) : Calls Try.prog 29 #[.pointer (some ⟨b, 0, none⟩), .int .i64 dim, .int .i64 v, .int .i64 bias] w fun e w' => ∃ m, FindIs l dim.toNat v bias m ∧ e = .returned (.int .i64 0) ∧ CAt T w' b c a l h m ∧ Off b b w w' := by
  have r0 := (raw_ccs C.raw).1
  have hbs := C.lt
  have CT := Lib.hid (K.find w a l h dim v bias (C.tree w (Off.refl _ _ _)) hq)
  have HC := Lib.hid C; clear C
  clear hq
  go_enter Try.func29, Try.ntmps29
  go_wp2_with fail
  refine CT.out.mono ?_
  rintro e w1 ⟨m, z, hf, _, _, rfl, hb1⟩
  have HF := Lib.hid hf; clear hf
  have hr := RawAt.below HC.out.raw hb1 HC.out.lt
  generalize hu : sall (l.take m) = u at *
  have HU := Lib.hid hu; clear hu
  have o2 : Off b b w w1 := Off.of hb1
  have hbs1 : b < w1.heap.size := RawAt.lt hr
  have y1 := RawAt.free hr 1
  have y2 := RawAt.free hr 2
  have y3 := RawAt.free hr 3
  have y4 := RawAt.free hr 4
  have y5 := RawAt.free hr 5
  have y6 := RawAt.free hr 6
  generalize sall (l.take k) = s at *
  obtain ⟨z0, z1, z2, z3, z4, z5, z6⟩ := raw_ccs hr
  have HR2 := Lib.hid hr
  have HO2 := Lib.hid o2
  clear hr o2 hb1 r0 CT
  unfold vcs at *
  go_wp2
  refine bodyPost_ret (v := .int .i64 0) (by simp [results, Try.results29, go_sem]) rfl ⟨m, HF.out, rfl, ?_⟩
  have key : ∀ W, RawAt 97 W b (ccs a u) → Off b b w W → CAt T W b c a l h m ∧ Off b b w W := fun W h1 h2 => ⟨HC.out.move h2.left (h1.of_eq (by rw [HU.out])) HF.out.le, h2⟩
  have k1 := ((((((HR2.out.set_ 1 (.int .i64 u.n)).set_ 2 (.int .i64 u.d0)).set_ 3 (.int .i64 u.d1)).set_ 4 (.int .i64 u.d2)).set_ 5 (.int .i64 u.mx)).set_ 6 (.int .i64 u.pl))
  have k2 := ((((((HO2.out.set 1 (.int .i64 u.n)).set 2 (.int .i64 u.d0)).set 3 (.int .i64 u.d1)).set 4 (.int .i64 u.d2)).set 5 (.int .i64 u.mx)).set 6 (.int .i64 u.pl))
  have hal := (Below.refl _ ((((((w1.setCell ⟨b, 1, none⟩ (.int .i64 u.n)).setCell ⟨b, 2, none⟩ (.int .i64 u.d0)).setCell ⟨b, 3, none⟩ (.int .i64 u.d1)).setCell ⟨b, 4, none⟩ (.int .i64 u.d2)).setCell ⟨b, 5, none⟩ (.int .i64 u.mx)).setCell ⟨b, 6, none⟩ (.int .i64 u.pl))).alloc (Nat.le_refl _) (.cells (vcs m u z) 78)
  unfold vcs at hal
  exact key _ (RawAt.below (k1.of_eq (show _ = ccs a u from by simp [ccs])) hal (RawAt.lt k1)) (k2.trans (Off.of hal))
theorem cto_no (K : TreeQ T) (C : CAt T w b c a l h k) (dim v bias : Int) (hq : ¬ AskOk l dim v bias) : Calls Try.prog 29 #[.pointer (some ⟨b, 0, none⟩), .int .i64 dim, .int .i64 v, .int .i64 bias] w fun e w' => e = .returned (.int .i64 1) ∧ Below w.heap.size w w' := by
  have r0 := (raw_ccs C.raw).1
  have hbs := C.lt
  have CT := Lib.hid (K.findBad w a l h dim v bias (C.tree w (Off.refl _ _ _)) hq)
  clear C hq
  go_enter Try.func29, Try.ntmps29
  go_wp2_with fail
  refine CT.out.mono ?_
  rintro e w1 ⟨rfl, hb1⟩
  have a1 := hb1.alloc hb1.size (.cells (vcs 0 s0 0) 78)
  unfold vcs s0
  go_wp2
  go_ret
  exact ⟨rfl, a1⟩
set_option maxHeartbeats 4000000 in
set_option maxRecDepth 100000 in
theorem cpass_any (C : CAt T w b c a l h k) (hk : k < l.length) : Calls Try.prog 70 #[.pointer (some ⟨b, 0, none⟩), .agg (ics (ith l k))] w fun e w' => e = .returned (.tuple #[]) ∧ CAt T w' b c a l h (k + 1) ∧ Off b b w w' := by
  have hr := C.raw
  have hbs := C.lt
  obtain ⟨r0, r1, r2, r3, r4, r5, r6⟩ := raw_ccs hr
  have HC := Lib.hid C
  have hsum := sall_take l hk
  have hso := sof_ok (C.ok _ (ith_mem l hk))
  have CA := Lib.hid fun (W : World) => iadd_any (sall (l.take k)) (sof (ith l k)) (sall (l.take (k + 1))) k 1 C.sok hso (by have := C.len; omega) (by omega) hsum.symm W
  have CO := Lib.hid fun (W : World) => iof_any (ith l k) W
  have HR := Lib.hid hr
  clear C hsum hso hr
  generalize hu : sall (l.take (k + 1)) = u at *
  have HU := Lib.hid hu; clear hu
  generalize sall (l.take k) = s at *
  generalize hx : ith l k = x at *
  have HX := Lib.hid hx; clear hx
  generalize sof x = f at *
  unfold ics at CO
  unfold scs at CA CO
  unfold ics
  go_enter Try.func70, Try.ntmps70
  go_wp2_with fail
  have h0 : Below w.heap.size w (w.alloc (.cells (ics x) 54)) := (Below.refl _ _).alloc (Nat.le_refl _) _
  have HR1 := Lib.hid (RawAt.below HR.out h0 hbs)
  have HX1 := Lib.hid (show RawAt 54 (w.alloc (.cells (ics x) 54)) w.heap.size (ics x) from heap_alloc_new w _)
  have MK : Hid (∀ W, Below (w.heap.size + 1) (w.alloc (.cells (ics x) 54)) W → W.cell? ⟨b, 1, none⟩ = some (.int .i64 s.n) ∧ W.cell? ⟨b, 2, none⟩ = some (.int .i64 s.d0) ∧ W.cell? ⟨b, 3, none⟩ = some (.int .i64 s.d1) ∧ W.cell? ⟨b, 4, none⟩ = some (.int .i64 s.d2) ∧ W.cell? ⟨b, 5, none⟩ = some (.int .i64 s.mx) ∧ W.cell? ⟨b, 6, none⟩ = some (.int .i64 s.pl) ∧ Below (w.heap.size + 1) (w.alloc (.cells (ics x) 54)) W) := fun W hW => by
    obtain ⟨z0, z1, z2, z3, z4, z5, z6⟩ := raw_ccs (RawAt.below HR1.out hW (by omega))
    exact ⟨z1, z2, z3, z4, z5, z6, hW⟩
  have CO2 := Lib.hid fun (W : World) (hW : Below (w.heap.size + 1) (w.alloc (.cells (ics x) 54)) W) => (CO.out W).mono fun _ _ ⟨he, hb⟩ => (⟨he, hW.trans (hb.mono (by have := hW.size; simp at this; omega))⟩ : _ ∧ Below (w.heap.size + 1) (w.alloc (.cells (ics x) 54)) _)
  have CA2 := Lib.hid fun (W : World) (hW : Below (w.heap.size + 1) (w.alloc (.cells (ics x) 54)) W) => (CA.out W).mono fun _ _ ⟨he, hb⟩ => (⟨he, hW.trans (hb.mono (by have := hW.size; simp at this; omega))⟩ : _ ∧ Below (w.heap.size + 1) (w.alloc (.cells (ics x) 54)) _)
  clear CO CA
  unfold ics at CO2 CA2
  have hW2 : Below (w.heap.size + 1) (w.alloc (.cells (ics x) 54)) (w.alloc (.cells (ics x) 54)).drew := (Below.refl _ _).drew
  unfold ics at hW2
  go_region_with (first
    | (go_at_call 69; ((with_reducible refine (CO2.out _ hW2).mono ?_); rintro e w1 ⟨rfl, hW3⟩); have hr1 := RawAt.below HR1.out hW3 (Nat.lt_succ_of_lt hbs); obtain ⟨x0_, x1_, x2_, x3_, x4_, x5_, x6_⟩ := raw_ccs hr1)
    | (go_at_call 68; ((with_reducible refine (CA2.out _ hW3).mono ?_); rintro e w2 ⟨rfl, hW4⟩); have hrr := RawAt.below HR1.out hW4 (Nat.lt_succ_of_lt hbs); have y1 := RawAt.free hrr 1; have y2 := RawAt.free hrr 2; have y3 := RawAt.free hrr 3; have y4 := RawAt.free hrr 4; have y5 := RawAt.free hrr 5; have y6 := RawAt.free hrr 6; obtain ⟨z0, z1, z2, z3, z4, z5, z6⟩ := raw_ccs hrr))
  all_goals
    have hO : Off b b w w2 := Off.of (h0.trans (hW4.mono (Nat.le_succ _)))
    have k1 := ((((((hrr.set_ 1 (.int .i64 u.n)).set_ 2 (.int .i64 u.d0)).set_ 3 (.int .i64 u.d1)).set_ 4 (.int .i64 u.d2)).set_ 5 (.int .i64 u.mx)).set_ 6 (.int .i64 u.pl))
    have k2 := ((((((hO.set 1 (.int .i64 u.n)).set 2 (.int .i64 u.d0)).set 3 (.int .i64 u.d1)).set 4 (.int .i64 u.d2)).set 5 (.int .i64 u.mx)).set 6 (.int .i64 u.pl))
    refine bodyPost_end (v := .tuple #[]) (by simp [results, Try.results70, go_sem]) rfl ⟨rfl, HC.out.move k2.left (k1.of_eq (show _ = ccs a (sall (l.take (k + 1))) from by rw [HU.out]; simp [ccs])) hk, k2⟩
end
end Go.Proofs.Ytbbplppcabeojaa
