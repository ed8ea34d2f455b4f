/- Stops: the contract of Sizes. -/
import Derived.Test.YtbalafgoengppaaDoorStB
namespace Go.Proofs.YtbalafgoengppaaDoor
open Go.RowKit
set_option linter.unusedVariables false
set_option maxHeartbeats 4000000 in
set_option maxRecDepth 100000 in
theorem sSizes_no (tv : Value) (A : Option Addr) (n c : Nat) (tab : Int) (w : World) (h : ¬ (1 ≤ tab ∧ tab ≤ 16)) :
    Calls Tryd.prog 14 #[tv, .slice A n c, .int .i64 tab] w fun e w' => e = .returned (.tuple #[.slice none 0 0, .int .i64 1]) ∧ Below w.heap.size w w' := by
  have CR := Lib.hid fun W => stRight_no tab W h
  clear h
  go_enter Tryd.func14, Tryd.ntmps14
  go_wp2_with fail
  with_reducible refine (CR.out _).mono ?_
  rintro e w1 ⟨rfl, rfl⟩
  go_wp2
  go_ret2
  exact ⟨rfl, Below.refl _ _⟩
set_option maxHeartbeats 4000000 in
set_option maxRecDepth 100000 in
theorem sSizes_any (tv : Value) (f : Int → Int) (A : Option Addr) (n c : Nat) (l : List Int) (tab : Int) (w : World) (hT : TabV w tv f) (hA : IntsAt .i32 w A l) (hl : l.length = n) (hn : n ≤ 1000000) (h1 : 1 ≤ tab) (h2 : tab ≤ 16) :
    Calls Tryd.prog 14 #[tv, .slice A n c, .int .i64 tab] w fun e w' => ∃ v, e = .returned (.tuple #[v, .int .i64 0]) ∧ w'.ownsRow w.heap.size 3 1 v n ((szs f tab 0 l).map (.int .i64)) ∧ Below w.heap.size w w' := by
  have CR := Lib.hid fun W => stRight_yes tab W h1 h2
  have hmf : ∀ (fn : Fn) (first cap : Array Value) (w : World), (Instr.makeFunc fn first cap).run Tryd.prog w = .ok (.func fn first cap) w := fun _ _ _ _ => rfl
  obtain ⟨i0, hi0, hz0, hz1, hz2⟩ := info_parts int_info
  have HE := Lib.hid fun (b : Nat) (hbb : w.heap.size ≤ b) (w0 : World) (h0 : SzAt w.heap.size b [] w0 ∧ Below w.heap.size w w0) => stEach_any 36 #[.pointer (some ⟨b, 0, none⟩)] tv f A n c l tab (fun d W => SzAt w.heap.size b d W ∧ Below w.heap.size w W) w0 hT.bd h1 h2 hK_sz hl hn
    (fun d W h => hA.below h.2) (fun d W W' h hb => ⟨h.1.keep hb, h.2.trans (hb.mono h.2.size)⟩) (fun d W r h => tabV_of (hT.below h.2) r)
    (fun d x r W hd h => by
      have hle := congrArg List.length hd
      rw [szs_length, List.length_append] at hle
      exact (szC_any w.heap.size b hbb d x W (by omega) h.1).mono fun e w' ⟨he, hs, hb⟩ => ⟨he, hs, h.2.trans hb⟩) h0
  have HZ := Lib.hid (szs_length f tab l 0)
  have HL := Lib.hid hl
  clear hT hA hl
  go_enter Tryd.func14, Tryd.ntmps14
  go_wp2_with fail
  with_reducible refine (CR.out _).mono ?_
  rintro e w1 ⟨rfl, hw1⟩
  have hw1 := hw1.symm
  subst hw1
  go_wp2_with (at_make; refine wpList_make_own _ rfl _ _ 24 rfl w.heap.size 3 i0 (.int .i64 0) 1 Tryd.underlying24 hi0 hz0 hz1 .i64 .i64 _ n rfl rfl rfl (by rw [hz2]; omega) (by unfold maxLen; omega) (Nat.le_refl _) ?_; intro w2 hown2 hgrow2)
  have b2 : Below w.heap.size w w2 := (Below.refl _ _).grown hgrow2 (Nat.le_refl _) (fun k hk => by cases hk)
  have x3 : Below w2.heap.size w2 (w2.alloc (.cells #[.slice (some ⟨w.heap.size, 0, none⟩) 0 n] 24)) := (Below.refl _ _).alloc (Nat.le_refl _) _
  have R3 : RawAt 24 (w2.alloc (.cells #[.slice (some ⟨w.heap.size, 0, none⟩) 0 n] 24)) w2.heap.size #[.slice (some ⟨w.heap.size, 0, none⟩) 0 n] := heap_alloc_new w2 _
  have HE1 := Lib.hid (HE.out w2.heap.size b2.size _ ⟨⟨_, R3, own_below hown2 x3⟩, b2.trans (x3.mono b2.size)⟩)
  clear R3 x3 hgrow2 hown2 CR hw1
  with_reducible refine (HE1.out).mono ?_
  rintro e w5 ⟨rfl, ⟨v5, hR5, hO5⟩, hb5⟩
  have c5 := RawAt.cell hR5 0
  simp at c5
  obtain ⟨A5, cc5, rfl⟩ := own_form hO5
  rw [HZ.out, HL.out] at hO5 c5
  have HO5 := Lib.hid hO5
  clear hO5
  go_wp2
  go_ret2
  exact ⟨_, rfl, HO5.out, hb5⟩
end Go.Proofs.YtbalafgoengppaaDoor
