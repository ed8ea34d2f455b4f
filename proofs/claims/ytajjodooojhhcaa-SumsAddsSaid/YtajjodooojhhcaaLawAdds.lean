/- The walk of the law that the sum of two texts is that of the one and, behind it, the other one. -/
import Derived.Test.YtajjodooojhhcaaAddEx
import Derived.Test.YtajjodooojhhcaaLines
namespace Go.Proofs.Ytajjodooojhhcaa
open Go.RowKit
set_option maxHeartbeats 4000000 in
set_option maxRecDepth 100000 in
theorem sumsAdds_walk (A0 : Option Addr) (n0 c0 : Nat) (l0 : List Int) (A1 : Option Addr) (n1 c1 : Nat) (l1 : List Int) (w : World)
    (hA0 : IntsAt .i32 w A0 l0) (hl0 : l0.length = n0) (_ : n0 ≤ maxLen) (hC0 : Caps A0 n0 c0) (_ : ∀ x ∈ l0, (Lit.int .i32 x).wf = true)
    (hA1 : IntsAt .i32 w A1 l1) (hl1 : l1.length = n1) (_ : n1 ≤ maxLen) (hC1 : Caps A1 n1 c1) (_ : ∀ x ∈ l1, (Lit.int .i32 x).wf = true) :
    Calls Try.prog 4 #[.slice A0 n0 c0, .slice A1 n1 c1] w fun e w' => e = .returned (.bool true) ∧ Below w.heap.size w w' := by
  have HA0 := Lib.hid hA0; clear hA0
  have HA1 := Lib.hid hA1; clear hA1
  have HL0 := Lib.hid hl0; clear hl0
  have HL1 := Lib.hid hl1; clear hl1
  have HC0 := Lib.hid hC0; clear hC0
  have HC1 := Lib.hid hC1; clear hC1
  by_cases k0 : 1000 < n0
  · go_enter Try.func4, Try.ntmps4
    go_wp2_with fail
    refine (two_any _).mono ?_
    rintro e w1 ⟨rfl, hb1⟩
    go_wp2_with fail
    go_ret
    exact ⟨rfl, hb1⟩
  by_cases k1 : 1000 < n1
  · go_enter Try.func4, Try.ntmps4
    go_wp2_with fail
    refine (two_any _).mono ?_
    rintro e w1 ⟨rfl, hb1⟩
    go_wp2_with fail
    go_ret
    exact ⟨rfl, hb1⟩
  go_enter Try.func4, Try.ntmps4
  go_wp2_with (first
    | (at_builtin; refine wpList_append_ints rfl (.tmp 16) (.tmp 17) rfl w.heap.size (.slice none 0 0) 0 [] rfl (World.ownsRow_nil _ _ _ _) A0 n0 c0 l0 rfl HA0.out HC0.out HL0.out (by omega) (Nat.le_refl _) ?_; intro v3 w3 hown3 hg3; have a3 : Below w.heap.size w w3 := (Below.refl _ _).grown hg3 (Nat.le_refl _) (fun k hk => by simp [Value.ownBlock] at hk); rw [Nat.zero_add, List.nil_append] at hown3)
    | (at_builtin; refine wpList_append_ints rfl (.tmp 19) (.tmp 20) rfl w.heap.size v3 n0 (l0.map (.int .i32)) rfl hown3 A1 n1 c1 l1 rfl (HA1.out.below a3) HC1.out HL1.out (by omega) a3.size ?_; intro v5 w5 hown5 hg5))
  have a5 : Below w.heap.size w w5 := a3.grown hg5 a3.size (fun k hk => (hown3.lt k hk).1)
  rw [← List.map_append] at hown5
  obtain ⟨A7, c7, rfl, hI7, hl7, _⟩ := own_ints hown5
  have HA7 := Lib.hid hI7; clear hI7
  have HL7 := Lib.hid hl7; clear hl7 hown5 hown3 hg3 hg5
  have C0 := Lib.hid fun (W : World) (hW : Below w.heap.size w W) => of_ex A0 n0 c0 l0 W _ (HA0.out.below hW) HL0.out (by omega) rfl
  have C1 := Lib.hid fun (W : World) (hW : Below w.heap.size w W) => of_ex A1 n1 c1 l1 W _ (HA1.out.below hW) HL1.out (by omega) rfl
  have C7 := Lib.hid fun (W : World) (hW : Below w5.heap.size w5 W) => of_ex A7 (n0 + n1) c7 (l0 ++ l1) W _ (HA7.out.below hW) HL7.out (by omega) rfl
  have o0 := qof_ok l0
  have o1 := qof_ok l1
  have l0' := HL0.out
  have l1' := HL1.out
  have D01 := Lib.hid fun W => add_ex (qof l0) (qof l1) (qof (l0 ++ l1)) _ _ o0 o1 (by omega) (by omega) (qof_append l0 l1).symm W
  have DZ := Lib.hid fun W => add_z (qof l0) _ o0 (by omega) W
  have ZD := Lib.hid fun W => z_add l0 (qof l0) rfl (by omega) W
  clear o0 o1 l0' l1'
  generalize qof (l0 ++ l1) = t at *
  generalize qof l0 = x at *
  generalize qof l1 = y at *
  go_wp2_with fail
  refine (C0.out _ a5).mono ?_
  rintro e w6 ⟨rfl, hb6⟩
  have a6 := a5.trans (hb6.mono a5.size)
  have hb6' : Below w5.heap.size w5 (w6.alloc (.cells (qcs x) 25)) := hb6.alloc hb6.size _
  have hb1' : Below w.heap.size w (w6.alloc (.cells (qcs x) 25)) := a6.alloc a6.size _
  have HX := Lib.hid (show RawAt 25 (w6.alloc (.cells (qcs x) 25)) w6.heap.size (qcs x) from heap_alloc_new w6 _)
  go_wp2_with fail
  change Code.wp _ _ _ _ (w6.alloc (.cells (qcs x) 25))
  generalize (w6.alloc (.cells (qcs x) 25)) = W1 at *
  generalize w6.heap.size = bx at *
  clear C0 hb6 a6 a5 a3
  have MK := Lib.hid fun (W : World) (hW : Below W1.heap.size W1 W) => (by
      obtain ⟨bx0, bx1, bx2, bx3, bx4, bx5, bx6⟩ := held_sum HX.out W hW
      exact ⟨bx0, bx1, bx2, bx3, bx4, bx5, bx6, hW⟩ : W.cell? ⟨bx, 0, none⟩ = some (.int .i64 x.by_) ∧ W.cell? ⟨bx, 1, none⟩ = some (.int .i64 x.ru) ∧ W.cell? ⟨bx, 2, none⟩ = some (.int .i64 x.br) ∧ W.cell? ⟨bx, 3, none⟩ = some (.int .i64 x.fi) ∧ W.cell? ⟨bx, 4, none⟩ = some (.int .i64 x.la) ∧ W.cell? ⟨bx, 5, none⟩ = some (.int .i64 x.lo) ∧ W.cell? ⟨bx, 6, none⟩ = some (.int .i64 x.rw) ∧ Below W1.heap.size W1 W)
  have hW2 : Below W1.heap.size W1 W1.drew := (Below.refl _ _).drew
  go_wp2_with fail
  go_region_held3 (fun W => W.cell? ⟨bx, 0, none⟩ = some (.int .i64 x.by_) ∧ W.cell? ⟨bx, 1, none⟩ = some (.int .i64 x.ru) ∧ W.cell? ⟨bx, 2, none⟩ = some (.int .i64 x.br) ∧ W.cell? ⟨bx, 3, none⟩ = some (.int .i64 x.fi) ∧ W.cell? ⟨bx, 4, none⟩ = some (.int .i64 x.la) ∧ W.cell? ⟨bx, 5, none⟩ = some (.int .i64 x.lo) ∧ W.cell? ⟨bx, 6, none⟩ = some (.int .i64 x.rw) ∧ Below W1.heap.size W1 W) (first | (with_reducible exact MK.out _ hW2) | (with_reducible exact MK.out _ (Below.refl _ _)) | go_keep)
    (first
      | (go_at_call 12; ((with_reducible refine (C1.out _ (hb1'.trans (hW2.mono hb1'.size))).mono ?_); rintro e w2 ⟨rfl, hb2⟩); have hW2 := hW2.trans (hb2.mono hW2.size))
      | (go_at_call 12; ((with_reducible refine (C7.out _ (hb6'.trans (hW2.mono hb6'.size))).mono ?_); rintro e w2 ⟨rfl, hb2⟩); have hW2 := hW2.trans (hb2.mono hW2.size))
      | (go_at_call 16; ((with_reducible refine (D01.out _).mono ?_); rintro e w2 ⟨rfl, hb2⟩); have hW2 := hW2.trans (hb2.mono hW2.size))
      | (go_at_call 16; ((with_reducible refine (DZ.out _).mono ?_); rintro e w2 ⟨rfl, hb2⟩); have hW2 := hW2.trans (hb2.mono hW2.size))
      | (go_at_call 16; ((with_reducible refine (ZD.out _).mono ?_); rintro e w2 ⟨rfl, hb2⟩); have hW2 := hW2.trans (hb2.mono hW2.size))
      | (go_at_call 11; refine (two_any _).mono ?_; rintro e w2 ⟨rfl, hb2⟩; have hW2 := hW2.trans (hb2.mono hW2.size)))
  go_wp2
  go_ret
  exact ⟨rfl, hb1'.trans (hW2.mono hb1'.size)⟩
end Go.Proofs.Ytajjodooojhhcaa
