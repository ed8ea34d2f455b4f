/- For trees that may be nil: what is said of a cursor: its cells; worlds that agree but on two blocks. Methods of cursors: New, Item. Methods of cursors: Item behind all, Start, pass, To. Methods of cursors: End, Next, Back, Take; the small case of the laws on cursors. -/
import Derived.Test.YtpnjokhhbjpciaaGreatDoorTreeQ
import Derived.Test.YtpnjokhhbjpciaaGreatDoorItAdd
import Derived.Deep.RegionHeld3
import Derived.Test.YtpnjokhhbjpciaaGreatDoorItBase
import Derived.WalkMore
import Derived.Test.YtpnjokhhbjpciaaGreatDoorBase
namespace Go.Proofs.YtpnjokhhbjpciaaGreatDoor
open Go.RowKit
/-- T w a l h: in the world w a tree lies at a; it has the items l, and is h high. -/
structure TreeQo (T : World → Option Addr → List I7 → Nat → Prop) : Prop where
  below : ∀ {w w' : World} {a : Option Addr} {l : List I7} {h : Nat}, T w a l h → Below w.heap.size w w' → T w' a l h
  ok : ∀ {w : World} {a : Option Addr} {l : List I7} {h : Nat}, T w a l h → Okl l ∧ l.length ≤ 30000
  sum : ∀ (w : World) (a : Option Addr) (l : List I7) (h : Nat), T w a l h → Calls Tryz.prog 109 #[.pointer a] w fun e w' => e = .returned (.agg (scs (sall l))) ∧ Below w.heap.size w w'
  find : ∀ (w : World) (a : Option Addr) (l : List I7) (h : Nat) (dim v b : Int), T w a l h → AskOk l dim v b → Calls Tryz.prog 130 #[.pointer a, .int .i64 dim, .int .i64 v, .int .i64 b] w fun e w' => ∃ (k : Nat) (z : Int), FindIs l dim.toNat v b k ∧ 0 ≤ z ∧ z ≤ h ∧ e = .returned (.tuple #[.agg (vcs k (sall (l.take k)) z), .int .i64 0]) ∧ Below w.heap.size w w'
  findBad : ∀ (w : World) (a : Option Addr) (l : List I7) (h : Nat) (dim v b : Int), T w a l h → ¬ AskOk l dim v b → Calls Tryz.prog 130 #[.pointer a, .int .i64 dim, .int .i64 v, .int .i64 b] w fun e w' => e = .returned (.tuple #[.agg (vcs 0 s0 0), .int .i64 1]) ∧ Below w.heap.size w w'
  at_ : ∀ (w : World) (a : Option Addr) (l : List I7) (h k : Nat), T w a l h → k < l.length → Calls Tryz.prog 131 #[.pointer a, .int .i64 k] w fun e w' => e = .returned (.tuple #[.agg (ics (ith l k)), .int .i64 0]) ∧ Below w.heap.size w w'
  atBad : ∀ (w : World) (a : Option Addr) (l : List I7) (h : Nat) (k : Int), T w a l h → ¬ (0 ≤ k ∧ k < l.length) → Calls Tryz.prog 131 #[.pointer a, .int .i64 k] w fun e w' => e = .returned (.tuple #[.agg (ics ⟨0, 0, 0, 0, 0, 0, ⟨#[]⟩⟩), .int .i64 1]) ∧ Below w.heap.size w w'
/-- Worlds that agree on all that was there, but on two blocks. -/
structure Off (b c : Nat) (w w' : World) : Prop where
  os : w'.os = w.os
  tape : w'.tape = w.tape
  output : w'.output = w.output
  size : w.heap.size ≤ w'.heap.size
  rest : ∀ k, k < w.heap.size → k ≠ b → k ≠ c → w'.heap[k]? = w.heap[k]?
theorem Off.refl (b c : Nat) (w : World) : Off b c w w := ⟨rfl, rfl, rfl, Nat.le_refl _, fun _ _ _ _ => rfl⟩
theorem Off.trans {b c : Nat} {u v w : World} (h : Off b c u v) (g : Off b c v w) : Off b c u w :=
  ⟨g.os.trans h.os, g.tape.trans h.tape, g.output.trans h.output, Nat.le_trans h.size g.size, fun k hk h1 h2 => (g.rest k (Nat.lt_of_lt_of_le hk h.size) h1 h2).trans (h.rest k hk h1 h2)⟩
theorem Off.of {b c : Nat} {w w' : World} (h : Below w.heap.size w w') : Off b c w w' := ⟨h.os, h.tape, h.output, h.size, fun k hk _ _ => h.block k hk⟩
theorem Off.left {b c : Nat} {w w' : World} (h : Off b b w w') : Off b c w w' := ⟨h.os, h.tape, h.output, h.size, fun k hk h1 _ => h.rest k hk h1 h1⟩
theorem Off.right {b c : Nat} {w w' : World} (h : Off c c w w') : Off b c w w' := ⟨h.os, h.tape, h.output, h.size, fun k hk _ h1 => h.rest k hk h1 h1⟩
theorem Off.below {b c B : Nat} {w w' : World} (h : Off b c w w') (h1 : B ≤ b) (h2 : B ≤ c) (h3 : B ≤ w.heap.size) : Below B w w' := ⟨h.os, h.tape, h.output, h.size, fun k hk => h.rest k (by omega) (by omega) (by omega)⟩
theorem Off.raw {b c b' : Nat} {t : TypeId} {cs : Array Value} {w w' : World} (h : Off b c w w') (hr : RawAt t w b' cs) (h1 : b' ≠ b) (h2 : b' ≠ c) : RawAt t w' b' cs := (h.rest b' (RawAt.lt hr) h1 h2).trans hr
theorem Off.set {b : Nat} {w w' : World} (h : Off b b w w') (k : Nat) (v : Value) : Off b b w (w'.setCell ⟨b, k, none⟩ v) :=
  h.trans ⟨rfl, rfl, rfl, by simp [World.setCell], fun k' _ h1 _ => Below.heap_setCell _ _ _ _ h1⟩
theorem fld_n6 (a b c d e g : Int) (w : World) : (Instr.field 129 (.agg #[.int .i64 a, .int .i64 b, .int .i64 c, .int .i64 d, .int .i64 e, .int .i64 g]) 0).run Tryz.prog w = .ok (.int .i64 a) w := by kernel_rfl
/-- A cursor's cells. -/
def ccs (a : Option Addr) (s : S6) : Array Value := #[.pointer a, .int .i64 s.n, .int .i64 s.d0, .int .i64 s.d1, .int .i64 s.d2, .int .i64 s.mx, .int .i64 s.pl]
theorem raw_ccs {t : TypeId} {w : World} {b : Nat} {a : Option Addr} {s : S6} (h : RawAt t w b (ccs a s)) : w.cell? ⟨b, 0, none⟩ = some (.pointer a) ∧ w.cell? ⟨b, 1, none⟩ = some (.int .i64 s.n) ∧ w.cell? ⟨b, 2, none⟩ = some (.int .i64 s.d0) ∧ w.cell? ⟨b, 3, none⟩ = some (.int .i64 s.d1) ∧ w.cell? ⟨b, 4, none⟩ = some (.int .i64 s.d2) ∧ w.cell? ⟨b, 5, none⟩ = some (.int .i64 s.mx) ∧ w.cell? ⟨b, 6, none⟩ = some (.int .i64 s.pl) :=
  ⟨RawAt.cell h 0, RawAt.cell h 1, RawAt.cell h 2, RawAt.cell h 3, RawAt.cell h 4, RawAt.cell h 5, RawAt.cell h 6⟩
/-- A cursor lies in block b, at the item k of a tree that lies at a; the tree stays there whatever becomes of b and of another block c. -/
structure CAt (T : World → Option Addr → List I7 → Nat → Prop) (w : World) (b c : Nat) (a : Option Addr) (l : List I7) (h k : Nat) : Prop where
  raw : RawAt 167 w b (ccs a (sall (l.take k)))
  tree : ∀ W, Off b c w W → T W a l h
  le : k ≤ l.length
  ok : Okl l
  len : l.length ≤ 30000
section
variable {T : World → Option Addr → List I7 → Nat → Prop} {w w' : World} {b c : Nat} {a : Option Addr} {l : List I7} {h k : Nat}
theorem CAt.lt (C : CAt T w b c a l h k) : b < w.heap.size := RawAt.lt C.raw
theorem CAt.move {m : Nat} (C : CAt T w b c a l h k) (ho : Off b c w w') (hr : RawAt 167 w' b (ccs a (sall (l.take m)))) (hm : m ≤ l.length) : CAt T w' b c a l h m :=
  ⟨hr, fun W hW => C.tree W (ho.trans hW), hm, C.ok, C.len⟩
theorem CAt.keep (C : CAt T w b c a l h k) (hb : Below w.heap.size w w') : CAt T w' b c a l h k := C.move (Off.of hb) (RawAt.below C.raw hb C.lt) C.le
theorem CAt.other (C : CAt T w b c a l h k) (hne : b ≠ c) (hb : Off c c w w') : CAt T w' b c a l h k := C.move hb.right (hb.raw C.raw hne hne) C.le
theorem CAt.n (C : CAt T w b c a l h k) : (sall (l.take k)).n = (k : Int) := by
  rw [(sall_ok _ (l.take k) rfl (C.ok.take_ k)).1, List.length_take, Nat.min_eq_left C.le]
theorem CAt.sok (C : CAt T w b c a l h k) : SOk (sall (l.take k)) k := by
  have := sall_ok _ (l.take k) rfl (C.ok.take_ k)
  rwa [List.length_take, Nat.min_eq_left C.le] at this
end
/-- The world behind many stores: what is known of it. -/
theorem gen_world2 {K : World → Prop} {W w : World} {B b b' : Nat} {t t' : TypeId} {cs cs' : Array Value} (h1 : Below B w W) (h2 : RawAt t W b cs) (h3 : RawAt t' W b' cs') (h : ∀ W1, Below B w W1 → RawAt t W1 b cs → RawAt t' W1 b' cs' → K W1) : K W := h W h1 h2 h3
section
variable {T : World → Option Addr → List I7 → Nat → Prop} {w : World} {b c : Nat} {a : Option Addr} {l : List I7} {h k : Nat}
theorem seeknew_any (a : Option Addr) (w : World) : Calls Tryz.prog 97 #[.pointer a] w fun e w' => e = .returned (.pointer (some ⟨w.heap.size, 0, none⟩)) ∧ RawAt 167 w' w.heap.size (ccs a s0) ∧ Below w.heap.size w w' := by
  go_enter Tryz.func97, Tryz.ntmps97
  go_wp2
  refine bodyPost_ret (v := .pointer (some ⟨w.heap.size, 0, none⟩)) (by simp [results, Tryz.results97, go_sem]) rfl ⟨rfl, heap_alloc_new w _, (Below.refl _ _).alloc (Nat.le_refl _) _⟩
set_option maxHeartbeats 4000000 in
set_option maxRecDepth 100000 in
theorem citem_yes (K : TreeQo T) (C : CAt T w b c a l h k) (hk : k < l.length) : Calls Tryz.prog 99 #[.pointer (some ⟨b, 0, none⟩)] w fun e w' => e = .returned (.tuple #[.agg (ics (ith l k)), .bool true]) ∧ Below w.heap.size w w' := by
  obtain ⟨r0, r1, r2, r3, r4, r5, r6⟩ := raw_ccs C.raw
  rw [C.n] at r1
  have hbs := C.lt
  have CT := Lib.hid fun (W : World) (hW : Below w.heap.size w W) => (K.at_ W a l h k (C.tree W (Off.of hW)) hk).mono fun _ _ ⟨he, hb⟩ => (⟨he, hb, hW.trans (hb.mono hW.size)⟩ : _ ∧ _ ∧ Below w.heap.size w _)
  clear hk C K r2 r3 r4 r5 r6
  generalize ith l k = x at *
  unfold ics at CT
  go_enter Tryz.func99, Tryz.ntmps99
  go_wp2_with fail
  have h0 : Below w.heap.size w (w.alloc (.cells (ics ⟨0, 0, 0, 0, 0, 0, ⟨#[]⟩⟩) 162)) := (Below.refl _ _).alloc (Nat.le_refl _) _
  have R0 := Lib.hid (show RawAt 162 (w.alloc (.cells (ics ⟨0, 0, 0, 0, 0, 0, ⟨#[]⟩⟩) 162)) w.heap.size (ics ⟨0, 0, 0, 0, 0, 0, ⟨#[]⟩⟩) from heap_alloc_new w _)
  go_region_with (first
    | (go_at_call 131; ((with_reducible refine (CT.out _ (by (repeat' (first | (with_reducible exact h0) | (with_reducible exact Below.refl _ _) | (with_reducible refine Below.drew ?_) | (with_reducible refine Below.alloc ?_ ?_ _))) <;> first | exact Nat.le_refl _ | (simp; done) | (simp; omega))).mono ?_); rintro e w1 ⟨rfl, hb1, a1⟩); (first
      | (have RI : RawAt 162 w1 (w.heap.size + 1) (ics ⟨0, 0, 0, 0, 0, 0, ⟨#[]⟩⟩) := RawAt.below (RawAt.drew_ (new2 w _ _ _ _).2.1) hb1 (by simp <;> omega); have RZ : RawAt 162 w1 w.heap.size (ics ⟨0, 0, 0, 0, 0, 0, ⟨#[]⟩⟩) := RawAt.below (RawAt.drew_ (new2 w _ _ _ _).1) hb1 (by simp <;> omega); have y0 := RawAt.free RI 0; have y1 := RawAt.free RI 1; have y2 := RawAt.free RI 2; have y3 := RawAt.free RI 3; have y4 := RawAt.free RI 4; have y5 := RawAt.free RI 5; have y6 := RawAt.free RI 6; obtain ⟨q0, q1, q2, q3, q4, q5, q6⟩ := raw_ics RI)
      | (have RZ : RawAt 162 w1 w.heap.size (ics ⟨0, 0, 0, 0, 0, 0, ⟨#[]⟩⟩) := RawAt.below (RawAt.drew_ (heap_alloc_new w _)) hb1 (by simp <;> omega)))))
  all_goals clear CT r0 r1 hbs
  all_goals first
    | (refine gen_world2 (B := w.heap.size) (w := w) (b := w.heap.size + 1) (b' := w.heap.size) (cs := ics x) ?_ ((((((((RI.set_ 0 (.int .i64 x.tag)).set_ 1 (.int .i64 x.id)).set_ 2 (.int .i64 x.d0)).set_ 3 (.int .i64 x.d1)).set_ 4 (.int .i64 x.d2)).set_ 5 (.int .i64 x.mx)).set_ 6 (.string x.tx)).of_eq (by simp [ics])) (((((((RZ.set_other (by omega) 0 (.int .i64 x.tag)).set_other (by omega) 1 (.int .i64 x.id)).set_other (by omega) 2 (.int .i64 x.d0)).set_other (by omega) 3 (.int .i64 x.d1)).set_other (by omega) 4 (.int .i64 x.d2)).set_other (by omega) 5 (.int .i64 x.mx)).set_other (by omega) 6 (.string x.tx)) ?_
       · ((repeat' (first | (with_reducible exact a1) | (with_reducible refine Below.setCell ?_ ?_ _))) <;> (simp; done)))
    | (refine gen_world2 (B := w.heap.size) (w := w) (b := w1.heap.size) (b' := w.heap.size) (cs := ics x) ?_ (heap_alloc_new w1 _) (RawAt.below RZ ((Below.refl _ _).alloc (Nat.le_refl _) _) (RawAt.lt RZ)) ?_
       · exact a1.alloc a1.size _)
  all_goals
    intro W1 hB RI' RZ'
    obtain ⟨q0, q1, q2, q3, q4, q5, q6⟩ := raw_ics RI'
    have y0 := RawAt.free RZ' 0
    have y1 := RawAt.free RZ' 1
    have y2 := RawAt.free RZ' 2
    have y3 := RawAt.free RZ' 3
    have y4 := RawAt.free RZ' 4
    have y5 := RawAt.free RZ' 5
    have y6 := RawAt.free RZ' 6
    obtain ⟨z0, z1, z2, z3, z4, z5, z6⟩ := raw_ics RZ'
    clear RI' RZ'
    go_wp2
  all_goals
    refine bodyPost_ret (v := .tuple #[.agg #[.int .i64 x.tag, .int .i64 x.id, .int .i64 x.d0, .int .i64 x.d1, .int .i64 x.d2, .int .i64 x.mx, .string x.tx], .bool true]) (by simp [results, Tryz.results99, go_sem, z0, z1, z2, z3, z4, z5, z6]) rfl ⟨rfl, ?_⟩
    (repeat' (first | (with_reducible exact hB) | (with_reducible refine Below.setCell ?_ ?_ _) | (with_reducible refine Below.drew ?_))) <;> first | exact Nat.le_refl _ | (simp; done)
set_option maxHeartbeats 4000000 in
set_option maxRecDepth 100000 in
theorem citem_no (K : TreeQo T) (C : CAt T w b c a l h k) (hk : ¬ k < l.length) : Calls Tryz.prog 99 #[.pointer (some ⟨b, 0, none⟩)] w fun e w' => e = .returned (.tuple #[.agg (ics ⟨0, 0, 0, 0, 0, 0, ⟨#[]⟩⟩), .bool false]) ∧ Below w.heap.size w w' := by
  obtain ⟨r0, r1, r2, r3, r4, r5, r6⟩ := raw_ccs C.raw
  rw [C.n] at r1
  have hbs := C.lt
  have CT := Lib.hid fun (W : World) (hW : Below w.heap.size w W) => (K.atBad W a l h k (C.tree W (Off.of hW)) (fun hh => hk (by omega))).mono fun _ _ ⟨he, hb⟩ => (⟨he, hb, hW.trans (hb.mono hW.size)⟩ : _ ∧ _ ∧ Below w.heap.size w _)
  clear hk C K r2 r3 r4 r5 r6
  generalize hx : (⟨0, 0, 0, 0, 0, 0, ⟨#[]⟩⟩ : I7) = x at CT
  have HX := Lib.hid hx; clear hx
  unfold ics at CT
  go_enter Tryz.func99, Tryz.ntmps99
  go_wp2_with fail
  have h0 : Below w.heap.size w (w.alloc (.cells (ics ⟨0, 0, 0, 0, 0, 0, ⟨#[]⟩⟩) 162)) := (Below.refl _ _).alloc (Nat.le_refl _) _
  have R0 := Lib.hid (show RawAt 162 (w.alloc (.cells (ics ⟨0, 0, 0, 0, 0, 0, ⟨#[]⟩⟩) 162)) w.heap.size (ics ⟨0, 0, 0, 0, 0, 0, ⟨#[]⟩⟩) from heap_alloc_new w _)
  go_region_with (first
    | (go_at_call 131; ((with_reducible refine (CT.out _ (by (repeat' (first | (with_reducible exact h0) | (with_reducible exact Below.refl _ _) | (with_reducible refine Below.drew ?_) | (with_reducible refine Below.alloc ?_ ?_ _))) <;> first | exact Nat.le_refl _ | (simp; done) | (simp; omega))).mono ?_); rintro e w1 ⟨rfl, hb1, a1⟩); (first
      | (have RI : RawAt 162 w1 (w.heap.size + 1) (ics ⟨0, 0, 0, 0, 0, 0, ⟨#[]⟩⟩) := RawAt.below (RawAt.drew_ (new2 w _ _ _ _).2.1) hb1 (by simp <;> omega); have RZ : RawAt 162 w1 w.heap.size (ics ⟨0, 0, 0, 0, 0, 0, ⟨#[]⟩⟩) := RawAt.below (RawAt.drew_ (new2 w _ _ _ _).1) hb1 (by simp <;> omega); have y0 := RawAt.free RI 0; have y1 := RawAt.free RI 1; have y2 := RawAt.free RI 2; have y3 := RawAt.free RI 3; have y4 := RawAt.free RI 4; have y5 := RawAt.free RI 5; have y6 := RawAt.free RI 6; obtain ⟨q0, q1, q2, q3, q4, q5, q6⟩ := raw_ics RI)
      | (have RZ : RawAt 162 w1 w.heap.size (ics ⟨0, 0, 0, 0, 0, 0, ⟨#[]⟩⟩) := RawAt.below (RawAt.drew_ (heap_alloc_new w _)) hb1 (by simp <;> omega)))))
  all_goals clear CT r0 r1 hbs
  all_goals first
    | (refine gen_world2 (B := w.heap.size) (w := w) (b := w.heap.size + 1) (b' := w.heap.size) (cs := ics x) ?_ ((((((((RI.set_ 0 (.int .i64 x.tag)).set_ 1 (.int .i64 x.id)).set_ 2 (.int .i64 x.d0)).set_ 3 (.int .i64 x.d1)).set_ 4 (.int .i64 x.d2)).set_ 5 (.int .i64 x.mx)).set_ 6 (.string x.tx)).of_eq (by simp [ics])) (((((((RZ.set_other (by omega) 0 (.int .i64 x.tag)).set_other (by omega) 1 (.int .i64 x.id)).set_other (by omega) 2 (.int .i64 x.d0)).set_other (by omega) 3 (.int .i64 x.d1)).set_other (by omega) 4 (.int .i64 x.d2)).set_other (by omega) 5 (.int .i64 x.mx)).set_other (by omega) 6 (.string x.tx)) ?_
       · ((repeat' (first | (with_reducible exact a1) | (with_reducible refine Below.setCell ?_ ?_ _))) <;> (simp; done)))
    | (refine gen_world2 (B := w.heap.size) (w := w) (b := w1.heap.size) (b' := w.heap.size) (cs := ics x) ?_ (heap_alloc_new w1 _) (RawAt.below RZ ((Below.refl _ _).alloc (Nat.le_refl _) _) (RawAt.lt RZ)) ?_
       · exact a1.alloc a1.size _)
  all_goals
    intro W1 hB RI' RZ'
    obtain ⟨q0, q1, q2, q3, q4, q5, q6⟩ := raw_ics RI'
    have y0 := RawAt.free RZ' 0
    have y1 := RawAt.free RZ' 1
    have y2 := RawAt.free RZ' 2
    have y3 := RawAt.free RZ' 3
    have y4 := RawAt.free RZ' 4
    have y5 := RawAt.free RZ' 5
    have y6 := RawAt.free RZ' 6
    obtain ⟨z0, z1, z2, z3, z4, z5, z6⟩ := raw_ics RZ'
    clear RI' RZ'
    go_wp2
  all_goals
    refine bodyPost_ret (v := .tuple #[.agg #[.int .i64 x.tag, .int .i64 x.id, .int .i64 x.d0, .int .i64 x.d1, .int .i64 x.d2, .int .i64 x.mx, .string x.tx], .bool false]) (by simp [results, Tryz.results99, go_sem, z0, z1, z2, z3, z4, z5, z6]) rfl ⟨by rw [← HX.out]; rfl, ?_⟩
    (repeat' (first | (with_reducible exact hB) | (with_reducible refine Below.setCell ?_ ?_ _) | (with_reducible refine Below.drew ?_))) <;> first | exact Nat.le_refl _ | (simp; done)
end
section
variable {T : World → Option Addr → List I7 → Nat → Prop} {w : World} {b c : Nat} {a : Option Addr} {l : List I7} {h k : Nat}
theorem cstart_any (C : CAt T w b c a l h k) : Calls Tryz.prog 70 #[.pointer (some ⟨b, 0, none⟩)] w fun e w' => e = .returned (.agg (scs (sall (l.take k)))) ∧ Below w.heap.size w w' := by
  obtain ⟨r0, r1, r2, r3, r4, r5, r6⟩ := raw_ccs C.raw
  have hbs := C.lt
  clear C
  generalize sall (l.take k) = s at *
  go_enter Tryz.func70, Tryz.ntmps70
  go_wp2
  refine bodyPost_ret (v := .agg #[.int .i64 s.n, .int .i64 s.d0, .int .i64 s.d1, .int .i64 s.d2, .int .i64 s.mx, .int .i64 s.pl]) (by simp [results, Tryz.results70, go_sem]) rfl ⟨rfl, (Below.refl _ _).alloc (Nat.le_refl _) _⟩
set_option maxHeartbeats 4000000 in
set_option maxRecDepth 100000 in
theorem cto_yes (K : TreeQo T) (C : CAt T w b c a l h k) (dim v bias : Int) (hq : AskOk l dim v bias) : Calls Tryz.prog 98 #[.pointer (some ⟨b, 0, none⟩), .int .i64 dim, .int .i64 v, .int .i64 bias] w fun e w' => ∃ m, FindIs l dim.toNat v bias m ∧ e = .returned (.int .i64 0) ∧ CAt T w' b c a l h m ∧ Off b b w w' := by
  have r0 := (raw_ccs C.raw).1
  have hbs := C.lt
  have CT := Lib.hid (K.find w a l h dim v bias (C.tree w (Off.refl _ _ _)) hq)
  have HC := Lib.hid C; clear C
  clear hq
  go_enter Tryz.func98, Tryz.ntmps98
  go_wp2_with fail
  refine CT.out.mono ?_
  rintro e w1 ⟨m, z, hf, _, _, rfl, hb1⟩
  have HF := Lib.hid hf; clear hf
  have hr := RawAt.below HC.out.raw hb1 HC.out.lt
  generalize hu : sall (l.take m) = u at *
  have HU := Lib.hid hu; clear hu
  have o2 : Off b b w w1 := Off.of hb1
  have hbs1 : b < w1.heap.size := RawAt.lt hr
  have y1 := RawAt.free hr 1
  have y2 := RawAt.free hr 2
  have y3 := RawAt.free hr 3
  have y4 := RawAt.free hr 4
  have y5 := RawAt.free hr 5
  have y6 := RawAt.free hr 6
  generalize sall (l.take k) = s at *
  obtain ⟨z0, z1, z2, z3, z4, z5, z6⟩ := raw_ccs hr
  have HR2 := Lib.hid hr
  have HO2 := Lib.hid o2
  clear hr o2 hb1 r0 CT
  unfold vcs at *
  go_wp2
  refine bodyPost_ret (v := .int .i64 0) (by simp [results, Tryz.results98, go_sem]) rfl ⟨m, HF.out, rfl, ?_⟩
  have key : ∀ W, RawAt 167 W b (ccs a u) → Off b b w W → CAt T W b c a l h m ∧ Off b b w W := fun W h1 h2 => ⟨HC.out.move h2.left (h1.of_eq (by rw [HU.out])) HF.out.le, h2⟩
  have k1 := ((((((HR2.out.set_ 1 (.int .i64 u.n)).set_ 2 (.int .i64 u.d0)).set_ 3 (.int .i64 u.d1)).set_ 4 (.int .i64 u.d2)).set_ 5 (.int .i64 u.mx)).set_ 6 (.int .i64 u.pl))
  have k2 := ((((((HO2.out.set 1 (.int .i64 u.n)).set 2 (.int .i64 u.d0)).set 3 (.int .i64 u.d1)).set 4 (.int .i64 u.d2)).set 5 (.int .i64 u.mx)).set 6 (.int .i64 u.pl))
  have hal := (Below.refl _ ((((((w1.setCell ⟨b, 1, none⟩ (.int .i64 u.n)).setCell ⟨b, 2, none⟩ (.int .i64 u.d0)).setCell ⟨b, 3, none⟩ (.int .i64 u.d1)).setCell ⟨b, 4, none⟩ (.int .i64 u.d2)).setCell ⟨b, 5, none⟩ (.int .i64 u.mx)).setCell ⟨b, 6, none⟩ (.int .i64 u.pl))).alloc (Nat.le_refl _) (.cells (vcs m u z) 208)
  unfold vcs at hal
  exact key _ (RawAt.below (k1.of_eq (show _ = ccs a u from by simp [ccs])) hal (RawAt.lt k1)) (k2.trans (Off.of hal))
theorem cto_no (K : TreeQo T) (C : CAt T w b c a l h k) (dim v bias : Int) (hq : ¬ AskOk l dim v bias) : Calls Tryz.prog 98 #[.pointer (some ⟨b, 0, none⟩), .int .i64 dim, .int .i64 v, .int .i64 bias] w fun e w' => e = .returned (.int .i64 1) ∧ Below w.heap.size w w' := by
  have r0 := (raw_ccs C.raw).1
  have hbs := C.lt
  have CT := Lib.hid (K.findBad w a l h dim v bias (C.tree w (Off.refl _ _ _)) hq)
  clear C hq
  go_enter Tryz.func98, Tryz.ntmps98
  go_wp2_with fail
  refine CT.out.mono ?_
  rintro e w1 ⟨rfl, hb1⟩
  have a1 := hb1.alloc hb1.size (.cells (vcs 0 s0 0) 208)
  unfold vcs s0
  go_wp2
  go_ret
  exact ⟨rfl, a1⟩
set_option maxHeartbeats 4000000 in
set_option maxRecDepth 100000 in
theorem cpass_any (C : CAt T w b c a l h k) (hk : k < l.length) : Calls Tryz.prog 102 #[.pointer (some ⟨b, 0, none⟩), .agg (ics (ith l k))] w fun e w' => e = .returned (.tuple #[]) ∧ CAt T w' b c a l h (k + 1) ∧ Off b b w w' := by
  have hr := C.raw
  have hbs := C.lt
  obtain ⟨r0, r1, r2, r3, r4, r5, r6⟩ := raw_ccs hr
  have HC := Lib.hid C
  have hsum := sall_take l hk
  have hso := sof_ok (C.ok _ (ith_mem l hk))
  have CA := Lib.hid fun (W : World) => iadd_any (sall (l.take k)) (sof (ith l k)) (sall (l.take (k + 1))) k 1 C.sok hso (by have := C.len; omega) (by omega) hsum.symm W
  have CO := Lib.hid fun (W : World) => iof_any (ith l k) W
  have HR := Lib.hid hr
  clear C hsum hso hr
  generalize hu : sall (l.take (k + 1)) = u at *
  have HU := Lib.hid hu; clear hu
  generalize sall (l.take k) = s at *
  generalize hx : ith l k = x at *
  have HX := Lib.hid hx; clear hx
  generalize sof x = f at *
  unfold ics at CO
  unfold scs at CA CO
  unfold ics
  go_enter Tryz.func102, Tryz.ntmps102
  go_wp2_with fail
  have h0 : Below w.heap.size w (w.alloc (.cells (ics x) 162)) := (Below.refl _ _).alloc (Nat.le_refl _) _
  have HR1 := Lib.hid (RawAt.below HR.out h0 hbs)
  have HX1 := Lib.hid (show RawAt 162 (w.alloc (.cells (ics x) 162)) w.heap.size (ics x) from heap_alloc_new w _)
  have MK : Hid (∀ W, Below (w.heap.size + 1) (w.alloc (.cells (ics x) 162)) W → W.cell? ⟨b, 1, none⟩ = some (.int .i64 s.n) ∧ W.cell? ⟨b, 2, none⟩ = some (.int .i64 s.d0) ∧ W.cell? ⟨b, 3, none⟩ = some (.int .i64 s.d1) ∧ W.cell? ⟨b, 4, none⟩ = some (.int .i64 s.d2) ∧ W.cell? ⟨b, 5, none⟩ = some (.int .i64 s.mx) ∧ W.cell? ⟨b, 6, none⟩ = some (.int .i64 s.pl) ∧ Below (w.heap.size + 1) (w.alloc (.cells (ics x) 162)) W) := fun W hW => by
    obtain ⟨z0, z1, z2, z3, z4, z5, z6⟩ := raw_ccs (RawAt.below HR1.out hW (by omega))
    exact ⟨z1, z2, z3, z4, z5, z6, hW⟩
  have CO2 := Lib.hid fun (W : World) (hW : Below (w.heap.size + 1) (w.alloc (.cells (ics x) 162)) W) => (CO.out W).mono fun _ _ ⟨he, hb⟩ => (⟨he, hW.trans (hb.mono (by have := hW.size; simp at this; omega))⟩ : _ ∧ Below (w.heap.size + 1) (w.alloc (.cells (ics x) 162)) _)
  have CA2 := Lib.hid fun (W : World) (hW : Below (w.heap.size + 1) (w.alloc (.cells (ics x) 162)) W) => (CA.out W).mono fun _ _ ⟨he, hb⟩ => (⟨he, hW.trans (hb.mono (by have := hW.size; simp at this; omega))⟩ : _ ∧ Below (w.heap.size + 1) (w.alloc (.cells (ics x) 162)) _)
  clear CO CA
  unfold ics at CO2 CA2
  have hW2 : Below (w.heap.size + 1) (w.alloc (.cells (ics x) 162)) (w.alloc (.cells (ics x) 162)).drew := (Below.refl _ _).drew
  unfold ics at hW2
  go_region_with (first
    | (go_at_call 101; ((with_reducible refine (CO2.out _ hW2).mono ?_); rintro e w1 ⟨rfl, hW3⟩); have hr1 := RawAt.below HR1.out hW3 (Nat.lt_succ_of_lt hbs); obtain ⟨x0_, x1_, x2_, x3_, x4_, x5_, x6_⟩ := raw_ccs hr1)
    | (go_at_call 100; ((with_reducible refine (CA2.out _ hW3).mono ?_); rintro e w2 ⟨rfl, hW4⟩); have hrr := RawAt.below HR1.out hW4 (Nat.lt_succ_of_lt hbs); have y1 := RawAt.free hrr 1; have y2 := RawAt.free hrr 2; have y3 := RawAt.free hrr 3; have y4 := RawAt.free hrr 4; have y5 := RawAt.free hrr 5; have y6 := RawAt.free hrr 6; obtain ⟨z0, z1, z2, z3, z4, z5, z6⟩ := raw_ccs hrr))
  all_goals
    have hO : Off b b w w2 := Off.of (h0.trans (hW4.mono (Nat.le_succ _)))
    have k1 := ((((((hrr.set_ 1 (.int .i64 u.n)).set_ 2 (.int .i64 u.d0)).set_ 3 (.int .i64 u.d1)).set_ 4 (.int .i64 u.d2)).set_ 5 (.int .i64 u.mx)).set_ 6 (.int .i64 u.pl))
    have k2 := ((((((hO.set 1 (.int .i64 u.n)).set 2 (.int .i64 u.d0)).set 3 (.int .i64 u.d1)).set 4 (.int .i64 u.d2)).set 5 (.int .i64 u.mx)).set 6 (.int .i64 u.pl))
    refine bodyPost_end (v := .tuple #[]) (by simp [results, Tryz.results102, go_sem]) rfl ⟨rfl, HC.out.move k2.left (k1.of_eq (show _ = ccs a (sall (l.take (k + 1))) from by rw [HU.out]; simp [ccs])) hk, k2⟩
end
section
variable {T : World → Option Addr → List I7 → Nat → Prop} {w : World} {b c : Nat} {a : Option Addr} {l : List I7} {h k : Nat}
set_option maxHeartbeats 4000000 in
set_option maxRecDepth 100000 in
theorem cnext_no (K : TreeQo T) (C : CAt T w b c a l h k) (hk : ¬ k < l.length) : Calls Tryz.prog 72 #[.pointer (some ⟨b, 0, none⟩)] w fun e w' => e = .returned (.bool false) ∧ Below w.heap.size w w' := by
  have CI := Lib.hid (citem_no K C hk)
  clear C
  unfold ics at CI
  go_enter Tryz.func72, Tryz.ntmps72
  go_wp2_with fail
  refine CI.out.mono ?_
  rintro e w1 ⟨rfl, hb1⟩
  have a1 := hb1.alloc hb1.size (.cells (ics ⟨0, 0, 0, 0, 0, 0, ⟨#[]⟩⟩) 162)
  go_wp2
  go_ret
  exact ⟨rfl, a1⟩
set_option maxHeartbeats 4000000 in
set_option maxRecDepth 100000 in
theorem cnext_yes (K : TreeQo T) (C : CAt T w b c a l h k) (hk : k < l.length) : Calls Tryz.prog 72 #[.pointer (some ⟨b, 0, none⟩)] w fun e w' => e = .returned (.bool true) ∧ CAt T w' b c a l h (k + 1) ∧ Off b b w w' := by
  have CI := Lib.hid (citem_yes K C hk)
  have CP : Hid (∀ W, Below w.heap.size w W → Calls Tryz.prog 102 #[.pointer (some ⟨b, 0, none⟩), .agg (ics (ith l k))] W fun e w' => e = .returned (.tuple #[]) ∧ CAt T w' b c a l h (k + 1) ∧ Off b b w w') := fun W hW => (cpass_any (C.keep hW) hk).mono fun _ _ ⟨he, hc, ho⟩ => ⟨he, hc, (Off.of hW).trans ho⟩
  clear C
  generalize ith l k = x at *
  unfold ics at CI CP
  go_enter Tryz.func72, Tryz.ntmps72
  go_wp2_with fail
  refine CI.out.mono ?_
  rintro e w1 ⟨rfl, hb1⟩
  have a1 := hb1.alloc hb1.size (.cells (ics x) 162)
  unfold ics at a1
  go_wp2_with fail
  refine (CP.out _ a1).mono ?_
  rintro e w2 ⟨rfl, hc, ho⟩
  go_wp2
  go_ret
  exact ⟨rfl, hc, ho⟩
set_option maxHeartbeats 4000000 in
theorem cback_no (C : CAt T w b c a l h 0) : Calls Tryz.prog 71 #[.pointer (some ⟨b, 0, none⟩)] w fun e w' => e = .returned (.bool false) ∧ Below w.heap.size w w' := by
  have CS := Lib.hid (cstart_any C)
  have tf := fld_n6
  unfold scs at CS
  rw [C.n] at CS
  clear C
  generalize sall (l.take 0) = s at *
  go_enter Tryz.func71, Tryz.ntmps71
  go_wp2_with fail
  refine CS.out.mono ?_
  rintro e w1 ⟨rfl, hb1⟩
  go_wp2
  go_ret
  exact ⟨rfl, hb1⟩
theorem back_find {l : List I7} {k m : Nat} (hk : k < l.length) (h : FindIs l ((3 : Int).toNat) (k : Int) 1 m) : m = k := by
  have sd : ∀ j, j ≤ l.length → sdim (l.take j) 3 = (j : Int) := fun j hj => by
    unfold sdim
    rw [if_pos rfl, List.length_take, Nat.min_eq_left hj]
  refine h.unique ⟨Nat.le_of_lt hk, fun j hj => ?_, fun _ => ?_⟩
  · rw [show (3 : Int).toNat = 3 from rfl, sd _ (by omega)]
    unfold Stops
    omega
  · rw [show (3 : Int).toNat = 3 from rfl, sd _ (by omega)]
    unfold Stops
    omega
theorem back_ask {l : List I7} {k : Nat} (hk : k < l.length) : AskOk l 3 (k : Int) 1 := ⟨by omega, by omega, by omega, by
  show (k : Int) ≤ sdim l 3
  unfold sdim
  rw [if_pos rfl]
  omega, .inr rfl⟩
set_option maxHeartbeats 4000000 in
theorem cback_yes (K : TreeQo T) (C : CAt T w b c a l h (k + 1)) : Calls Tryz.prog 71 #[.pointer (some ⟨b, 0, none⟩)] w fun e w' => e = .returned (.bool true) ∧ CAt T w' b c a l h k ∧ Off b b w w' := by
  have hk : k < l.length := C.le
  have CS := Lib.hid (cstart_any C)
  have CP : Hid (∀ W, Below w.heap.size w W → Calls Tryz.prog 98 #[.pointer (some ⟨b, 0, none⟩), .int .i64 3, .int .i64 k, .int .i64 1] W fun e w' => e = .returned (.int .i64 0) ∧ CAt T w' b c a l h k ∧ Off b b w w') := fun W hW => (cto_yes K (C.keep hW) 3 k 1 (back_ask hk)).mono fun _ _ ⟨m, hf, he, hc, ho⟩ => by
    obtain rfl := back_find hk hf
    exact ⟨he, hc, (Off.of hW).trans ho⟩
  have tf := fld_n6
  unfold scs at CS
  rw [C.n] at CS
  have g1 : ¬ (((k + 1 : Nat) : Int) = 0) := by omega
  have g2 : IntKind.i64.wrap (((k + 1 : Nat) : Int) - 1) = (k : Int) := by rw [show ((k + 1 : Nat) : Int) - 1 = (k : Int) from by omega]; exact IntWalk.i64_in _ (by have := C.len; omega)
  clear C
  generalize sall (l.take (k + 1)) = s at *
  generalize ((k + 1 : Nat) : Int) = q at *
  go_enter Tryz.func71, Tryz.ntmps71
  go_wp2_with fail
  refine CS.out.mono ?_
  rintro e w1 ⟨rfl, hb1⟩
  go_wp2_with fail
  refine (CP.out _ hb1).mono ?_
  rintro e w2 ⟨rfl, hc, ho⟩
  go_wp2
  go_ret
  exact ⟨rfl, hc, ho⟩
set_option maxHeartbeats 4000000 in
set_option maxRecDepth 100000 in
theorem cend_no (K : TreeQo T) (C : CAt T w b c a l h k) (hk : ¬ k < l.length) : Calls Tryz.prog 69 #[.pointer (some ⟨b, 0, none⟩)] w fun e w' => e = .returned (.agg (scs (sall (l.take k)))) ∧ Below w.heap.size w w' := by
  have CI := Lib.hid fun (W : World) (hW : Below w.heap.size w W) => citem_no K (C.keep hW) hk
  have CS := Lib.hid fun (W : World) (hW : Below w.heap.size w W) => cstart_any (C.keep hW)
  clear C
  unfold ics at CI
  generalize sall (l.take k) = s at *
  unfold scs at CS
  have h0 : Below w.heap.size w (w.alloc (.cells (scs s0) 129)) := (Below.refl _ _).alloc (Nat.le_refl _) _
  have R0 := Lib.hid (show RawAt 129 (w.alloc (.cells (scs s0) 129)) w.heap.size (scs s0) from heap_alloc_new w _)
  obtain ⟨W0, hW0⟩ : ∃ W0, W0 = w.alloc (.cells (scs s0) 129) := ⟨_, rfl⟩
  rw [← hW0] at h0 R0
  unfold scs s0 at hW0
  go_enter Tryz.func69, Tryz.ntmps69
  go_wp2_with fail
  rw [← hW0]
  clear hW0
  refine (CI.out _ h0).mono ?_
  rintro e w1 ⟨rfl, hb1⟩
  have q1 := hb1.alloc hb1.size (.cells (ics ⟨0, 0, 0, 0, 0, 0, ⟨#[]⟩⟩) 162)
  have a1 := h0.trans (q1.mono h0.size)
  unfold ics at q1 a1
  go_wp2_with fail
  refine (CS.out _ a1).mono ?_
  rintro e w2 ⟨rfl, hb2⟩
  have a2 := a1.trans (hb2.mono a1.size)
  have R2 := RawAt.below R0.out (q1.trans (hb2.mono q1.size)) (RawAt.lt R0.out)
  have y0 := RawAt.free R2 0
  have y1 := RawAt.free R2 1
  have y2 := RawAt.free R2 2
  have y3 := RawAt.free R2 3
  have y4 := RawAt.free R2 4
  have y5 := RawAt.free R2 5
  obtain ⟨z0, z1, z2, z3, z4, z5⟩ := raw_scs R2
  clear R2 R0 hb1 hb2 q1 a1 h0
  go_wp2
  refine bodyPost_ret (v := .agg #[.int .i64 s.n, .int .i64 s.d0, .int .i64 s.d1, .int .i64 s.d2, .int .i64 s.mx, .int .i64 s.pl]) (by simp [results, Tryz.results69, go_sem, z0, z1, z2, z3, z4, z5]) rfl ⟨rfl, ?_⟩
  (repeat' (first | (with_reducible exact a2) | (with_reducible refine Below.setCell ?_ ?_ _) | (with_reducible refine Below.drew ?_))) <;> first | exact Nat.le_refl _ | (simp; done)
set_option maxHeartbeats 4000000 in
set_option maxRecDepth 100000 in
theorem cend_yes (K : TreeQo T) (C : CAt T w b c a l h k) (hk : k < l.length) : Calls Tryz.prog 69 #[.pointer (some ⟨b, 0, none⟩)] w fun e w' => e = .returned (.agg (scs (sall (l.take (k + 1))))) ∧ Below w.heap.size w w' := by
  have CI := Lib.hid fun (W : World) (hW : Below w.heap.size w W) => citem_yes K (C.keep hW) hk
  have hr := C.raw
  have hbs := C.lt
  have hsum := sall_take l hk
  have hso := sof_ok (C.ok _ (ith_mem l hk))
  have CA := Lib.hid fun (W : World) => iadd_any (sall (l.take k)) (sof (ith l k)) (sall (l.take (k + 1))) k 1 C.sok hso (by have := C.len; omega) (by omega) hsum.symm W
  have CO := Lib.hid fun (W : World) => iof_any (ith l k) W
  have HR := Lib.hid fun (W : World) (hW : Below w.heap.size w W) => RawAt.below hr hW hbs
  clear C hsum hso hr
  generalize sall (l.take (k + 1)) = u at *
  generalize sall (l.take k) = s at *
  generalize ith l k = x at *
  generalize sof x = f at *
  unfold ics at CI CO
  unfold scs at CO CA
  have h0 : Below w.heap.size w (w.alloc (.cells (scs s0) 129)) := (Below.refl _ _).alloc (Nat.le_refl _) _
  have R0 := Lib.hid (show RawAt 129 (w.alloc (.cells (scs s0) 129)) w.heap.size (scs s0) from heap_alloc_new w _)
  obtain ⟨W0, hW0⟩ : ∃ W0, W0 = w.alloc (.cells (scs s0) 129) := ⟨_, rfl⟩
  rw [← hW0] at h0 R0
  unfold scs s0 at hW0
  go_enter Tryz.func69, Tryz.ntmps69
  go_wp2_with fail
  rw [← hW0]
  clear hW0
  refine (CI.out _ h0).mono ?_
  rintro e w1 ⟨rfl, hb1⟩
  go_wp2_with fail
  have R1 := RawAt.below R0.out hb1 (RawAt.lt R0.out)
  have a1 := h0.trans (hb1.mono h0.size)
  have hsz1 : w.heap.size < w1.heap.size := RawAt.lt R1
  have q2 : Below w1.heap.size w1 (w1.alloc (.cells (ics x) 162)) := (Below.refl _ _).alloc (Nat.le_refl _) _
  have a2 := a1.trans (q2.mono a1.size)
  have R2 := Lib.hid (RawAt.below R1 q2 (RawAt.lt R1))
  have X2 := Lib.hid (show RawAt 162 (w1.alloc (.cells (ics x) 162)) w1.heap.size (ics x) from heap_alloc_new w1 _)
  unfold ics at q2 a2 R2 X2
  generalize (w1.alloc (.cells #[.int .i64 x.tag, .int .i64 x.id, .int .i64 x.d0, .int .i64 x.d1, .int .i64 x.d2, .int .i64 x.mx, .string x.tx] 162)) = W2 at *
  generalize w1.heap.size = bi at *
  clear hb1 h0 R0 R1 a1 CI q2
  have MK : Hid (∀ W, Below W2.heap.size W2 W → W.cell? ⟨b, 1, none⟩ = some (.int .i64 s.n) ∧ W.cell? ⟨b, 2, none⟩ = some (.int .i64 s.d0) ∧ W.cell? ⟨b, 3, none⟩ = some (.int .i64 s.d1) ∧ W.cell? ⟨b, 4, none⟩ = some (.int .i64 s.d2) ∧ W.cell? ⟨b, 5, none⟩ = some (.int .i64 s.mx) ∧ W.cell? ⟨b, 6, none⟩ = some (.int .i64 s.pl) ∧ W.cell? ⟨bi, 0, none⟩ = some (.int .i64 x.tag) ∧ W.cell? ⟨bi, 1, none⟩ = some (.int .i64 x.id) ∧ W.cell? ⟨bi, 2, none⟩ = some (.int .i64 x.d0) ∧ W.cell? ⟨bi, 3, none⟩ = some (.int .i64 x.d1) ∧ W.cell? ⟨bi, 4, none⟩ = some (.int .i64 x.d2) ∧ W.cell? ⟨bi, 5, none⟩ = some (.int .i64 x.mx) ∧ W.cell? ⟨bi, 6, none⟩ = some (.string x.tx) ∧ Below W2.heap.size W2 W) := fun W hW => by
    obtain ⟨z0, z1, z2, z3, z4, z5, z6⟩ := raw_ccs (HR.out W (a2.trans (hW.mono a2.size)))
    obtain ⟨p0, p1, p2, p3, p4, p5, p6⟩ := raw_ics (RawAt.below X2.out hW (RawAt.lt X2.out))
    exact ⟨z1, z2, z3, z4, z5, z6, p0, p1, p2, p3, p4, p5, p6, hW⟩
  have RR := Lib.hid fun (W : World) (hW : Below W2.heap.size W2 W) => RawAt.below R2.out hW (RawAt.lt R2.out)
  clear R2 X2 HR
  have hW2 : Below W2.heap.size W2 W2.drew := (Below.refl _ _).drew
  go_wp2_with fail
  obtain ⟨m1, m2, m3, m4, m5, m6, m7, m8, m9, m10, m11, m12, m13, _⟩ := MK.out W2 (Below.refl _ _)
  go_region_with (first
    | (go_at_call 101; ((with_reducible refine (CO.out _).mono ?_); rintro e w3 ⟨rfl, hb3⟩); have hW3 := hW2.trans (hb3.mono hW2.size); obtain ⟨n1, n2, n3, n4, n5, n6, _⟩ := MK.out _ hW3)
    | (go_at_call 100; ((with_reducible refine (CA.out _).mono ?_); rintro e w4 ⟨rfl, hb4⟩); have hW4 := hW3.trans (hb4.mono hW3.size); have R4 := RR.out _ hW4; have y0 := RawAt.free R4 0; have y1 := RawAt.free R4 1; have y2 := RawAt.free R4 2; have y3 := RawAt.free R4 3; have y4 := RawAt.free R4 4; have y5 := RawAt.free R4 5; obtain ⟨z0, z1, z2, z3, z4, z5⟩ := raw_scs R4))
  all_goals
    have a4 := a2.trans (hW4.mono a2.size)
    clear m1 m2 m3 m4 m5 m6 m7 m8 m9 m10 m11 m12 m13 hW2 hW3 hW4 hb3 hb4 R4 MK RR CO CA
    go_wp2
    refine bodyPost_ret (v := .agg #[.int .i64 u.n, .int .i64 u.d0, .int .i64 u.d1, .int .i64 u.d2, .int .i64 u.mx, .int .i64 u.pl]) (by simp [results, Tryz.results69, go_sem, z0, z1, z2, z3, z4, z5]) rfl ⟨rfl, ?_⟩
    (repeat' (first | (with_reducible exact a4) | (with_reducible refine Below.setCell ?_ ?_ _) | (with_reducible refine Below.drew ?_))) <;> first | exact Nat.le_refl _ | (simp; done)
end
theorem own_off {w w' : World} {b base : Nat} {e : TypeId} {size : Nat} {v : Value} {n : Nat} {xs : List Value} (h : w.ownsRow base e size v n xs) (ho : Off b b w w') (hb : b < base) : w'.ownsRow base e size v n xs := by
  refine ⟨h.1, ?_⟩
  rcases h.2 with h2 | ⟨g, cap, cur, rfl, hB, c, h3⟩
  · exact .inl h2
  · exact .inr ⟨g, cap, cur, rfl, hB, (ho.rest g (block_lt c) (by omega) (by omega)).trans c, h3⟩
theorem Off.grown {b c : Nat} {a w w' : World} {row : Option Nat} (h : Off b c a w) (hg : w.grownBy w' row) (hr : ∀ k, row = some k → a.heap.size ≤ k) : Off b c a w' :=
  ⟨hg.os.trans h.os, hg.tape.trans h.tape, hg.output.trans h.output, Nat.le_trans h.size hg.size, fun k hk h1 h2 => (hg.block k (Nat.lt_of_lt_of_le hk h.size) (fun e => by have := hr k e.symm; omega)).trans (h.rest k hk h1 h2)⟩
theorem raw_grown {t : TypeId} {w w' : World} {b : Nat} {cs : Array Value} {row : Option Nat} (h : RawAt t w b cs) (hg : w.grownBy w' row) (hr : row ≠ some b) : RawAt t w' b cs := (hg.block b (RawAt.lt h) (fun e => hr e.symm)).trans h
section
variable {T : World → Option Addr → List I7 → Nat → Prop}
theorem CAt.make (K : TreeQo T) {w w' : World} {a : Option Addr} {l : List I7} {h : Nat} (ht : T w a l h) (hb : Below w.heap.size w w') (hr : RawAt 167 w' w.heap.size (ccs a s0)) (c : Nat) (hc : w.heap.size ≤ c) : CAt T w' w.heap.size c a l h 0 :=
  ⟨hr, fun _ hW => K.below ht (hb.trans (hW.below (Nat.le_refl _) hc hb.size)), Nat.zero_le _, (K.ok ht).1, (K.ok ht).2⟩
end
end Go.Proofs.YtpnjokhhbjpciaaGreatDoor
