/- The walk of the law on what is wrong with any item. -/
import Derived.Test.YtajjodooojhhcaaItCheck
import Derived.Test.YtajjodooojhhcaaItLaw
import Derived.Deep.RegionHeld3
namespace Go.Proofs.Ytajjodooojhhcaa
open Go.RowKit
set_option maxHeartbeats 4000000 in
set_option maxRecDepth 100000 in
theorem checks_main (tag id d0 d1 d2 mx v : Int) (tx : ByteArray) (rb : Bool) (hvr : (v = 0 ∧ rb = true) ∨ (v = 1 ∧ rb = false)) (w : World)
    (hk : ∀ W : World, Calls Try.prog 17 #[.agg #[.int .i64 tag, .int .i64 id, .int .i64 d0, .int .i64 d1, .int .i64 d2, .int .i64 mx, .string tx]] W fun e w' => e = .returned (.int .i64 v) ∧ Below W.heap.size W w')
    (hr : ∀ W : World, Calls Try.prog 19 #[.agg #[.int .i64 tag, .int .i64 id, .int .i64 d0, .int .i64 d1, .int .i64 d2, .int .i64 mx, .string tx]] W fun e w' => e = .returned (.agg #[.int .i64 tag, .int .i64 id, .int .i64 d0, .int .i64 d1, .int .i64 d2, .int .i64 mx, .string tx]) ∧ Below W.heap.size W w')
    (hx : ∀ W : World, Calls Try.prog 18 #[.agg #[.int .i64 tag, .int .i64 id, .int .i64 d0, .int .i64 d1, .int .i64 d2, .int .i64 mx, .string tx]] W fun e w' => e = .returned (.bool rb) ∧ Below W.heap.size W w') :
    Calls Try.prog 7 #[.agg #[.int .i64 tag, .int .i64 id, .int .i64 d0, .int .i64 d1, .int .i64 d2, .int .i64 mx, .string tx]] w fun e w' => e = .returned (.bool true) ∧ Below w.heap.size w w' := by
  have CK := Lib.hid hk; clear hk
  have CR := Lib.hid hr; clear hr
  have CX := Lib.hid hx; clear hx
  rcases hvr with ⟨rfl, rfl⟩ | ⟨rfl, rfl⟩
  all_goals
    go_enter Try.func7, Try.ntmps7
    go_wp2
    have hb0 : Below w.heap.size w (w.alloc (.cells (ics ⟨tag, id, d0, d1, d2, mx, tx⟩) 41)) := (Below.refl _ _).alloc (Nat.le_refl _) _
    have hr0 : RawAt 41 (w.alloc (.cells (ics ⟨tag, id, d0, d1, d2, mx, tx⟩) 41)) w.heap.size (ics ⟨tag, id, d0, d1, d2, mx, tx⟩) := heap_alloc_new w _
    change Code.wp _ _ _ _ (w.alloc (.cells (ics ⟨tag, id, d0, d1, d2, mx, tx⟩) 41))
    generalize (w.alloc (.cells (ics ⟨tag, id, d0, d1, d2, mx, tx⟩) 41)) = W1 at *
    generalize hbb : w.heap.size = b at hr0 ⊢
    have HBB := Lib.hid hbb; clear hbb
    have HR := Lib.hid hr0; clear hr0
    have MK := Lib.hid fun (W : World) (hW : Below W1.heap.size W1 W) => (by
        obtain ⟨x0, x1, x2, x3, x4, x5, x6⟩ := raw_ics (RawAt.below HR.out hW (RawAt.lt HR.out))
        exact ⟨x0, x1, x2, x3, x4, x5, x6, hW⟩ : (fun W => W.cell? ⟨b, 0, none⟩ = some (.int .i64 tag) ∧ W.cell? ⟨b, 1, none⟩ = some (.int .i64 id) ∧ W.cell? ⟨b, 2, none⟩ = some (.int .i64 d0) ∧ W.cell? ⟨b, 3, none⟩ = some (.int .i64 d1) ∧ W.cell? ⟨b, 4, none⟩ = some (.int .i64 d2) ∧ W.cell? ⟨b, 5, none⟩ = some (.int .i64 mx) ∧ W.cell? ⟨b, 6, none⟩ = some (.string tx) ∧ Below W1.heap.size W1 W) W)
    have hW2 : Below W1.heap.size W1 W1.drew := (Below.refl _ _).drew
    go_wp2_with fail
    go_region_held3 (fun W => W.cell? ⟨b, 0, none⟩ = some (.int .i64 tag) ∧ W.cell? ⟨b, 1, none⟩ = some (.int .i64 id) ∧ W.cell? ⟨b, 2, none⟩ = some (.int .i64 d0) ∧ W.cell? ⟨b, 3, none⟩ = some (.int .i64 d1) ∧ W.cell? ⟨b, 4, none⟩ = some (.int .i64 d2) ∧ W.cell? ⟨b, 5, none⟩ = some (.int .i64 mx) ∧ W.cell? ⟨b, 6, none⟩ = some (.string tx) ∧ Below W1.heap.size W1 W) (first | (with_reducible exact MK.out _ hW2) | (with_reducible exact MK.out _ (Below.refl _ _)) | go_keep)
      (first
        | (go_at_call 17; ((with_reducible refine (CK.out _).mono ?_); rintro e w2 ⟨rfl, hb2⟩); have hW2 := hW2.trans (hb2.mono hW2.size))
        | (go_at_call 19; ((with_reducible refine (CR.out _).mono ?_); rintro e w2 ⟨rfl, hb2⟩); have hW2 := hW2.trans (hb2.mono hW2.size))
        | (go_at_call 18; ((with_reducible refine (CX.out _).mono ?_); rintro e w2 ⟨rfl, hb2⟩); have hW2 := hW2.trans (hb2.mono hW2.size))
        | (go_at_call 20; refine (both_any _).mono ?_; rintro e w2 ⟨rfl, hb2⟩; have hW2 := hW2.trans (hb2.mono hW2.size)))
    go_wp2
    go_ret
    exact ⟨rfl, by have := HBB.out; subst this; exact hb0.trans (hW2.mono hb0.size)⟩
theorem itemChecks_walk (i : I7) (w : World) : Calls Try.prog 7 #[.agg (ics i)] w fun e w' => e = .returned (.bool true) ∧ Below w.heap.size w w' := by
  by_cases h : Oki i
  · exact checks_main i.tag i.id i.d0 i.d1 i.d2 i.mx 0 i.tx true (.inl ⟨rfl, rfl⟩) w (fun W => check_any i 0 ⟨fun _ => rfl, fun hn => absurd h hn⟩ W) (fun W => iref_any i W) (fun W => right_any i true ⟨fun _ => h, fun _ => rfl⟩ W)
  · exact checks_main i.tag i.id i.d0 i.d1 i.d2 i.mx 1 i.tx false (.inr ⟨rfl, rfl⟩) w (fun W => check_any i 1 ⟨fun hy => absurd hy h, fun _ => rfl⟩ W) (fun W => iref_any i W) (fun W => right_any i false ⟨fun e => absurd e (by simp), fun hy => absurd hy h⟩ W)
end Go.Proofs.Ytajjodooojhhcaa
