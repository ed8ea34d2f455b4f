/- The law StopsPlaces, whole. -/
import Derived.Test.YtbalafgoengppaaDoorStW6
import Derived.Test.YtbalafgoengppaaDoorStW7
import Derived.Test.YtbalafgoengppaaDoorClO
namespace Go.Proofs.YtbalafgoengppaaDoor
open Go.RowKit
set_option linter.unusedVariables false
set_option maxRecDepth 100000 in
theorem stopsPlaces_walk (A : Option Addr) (n c : Nat) (l : List Int) (st : AskV) (w : World) (h : Tabs w) (hA : IntsAt .i32 w A l) (hl : l.length = n) (hn : n ≤ maxLen) (hcc : Caps A n c) (_ : ∀ x ∈ l, (Lit.int .i32 x).wf = true) (_ : AskOk st) :
    Calls Tryd.prog 4 #[.slice A n c, .agg #[.int .i64 st.t, .int .i64 st.a]] w fun e w' => e = .returned (.bool true) ∧ Below w.heap.size w w' := by
  obtain ⟨tab, q⟩ := st
  unfold maxLen at hn
  show Calls Tryd.prog 4 #[.slice A n c, .agg #[.int .i64 tab, .int .i64 q]] w fun e w' => e = .returned (.bool true) ∧ Below w.heap.size w w'
  by_cases g1 : 500 < n
  · have CT := Lib.hid fun W (hb : Below w.heap.size w W) => stTab_any W (h.below hb)
    have x1 : Below w.heap.size w (w.alloc (.cells #[.int .i64 tab, .int .i64 q] 37)) := (Below.refl _ _).alloc (Nat.le_refl _) _
    clear h hA hl
    go_enter Tryd.func4, Tryd.ntmps4
    go_wp2_with fail
    with_reducible refine (CT.out _ x1).mono ?_
    rintro e w1 ⟨rfl, hb1⟩
    have HB := Lib.hid (x1.trans (hb1.mono x1.size))
    clear hb1 x1
    go_wp2
    go_ret
    exact ⟨rfl, HB.out⟩
  · by_cases g2 : 1 ≤ tab ∧ tab ≤ 16
    · by_cases gq : q < 0
      · exact stopsPlaces_neg A n c l tab q w h hA hl g1 hcc.1 g2.1 g2.2 gq
      · by_cases gn : (n : Int) < q
        · exact stopsPlaces_out A n c l tab q w h hA hl g1 hcc.1 g2.1 g2.2 gq gn
        · exact stopsPlaces_in A n c l tab q w h hA hl g1 hcc.1 g2.1 g2.2 gq gn
    · exact stopsPlaces_bad A n c l tab q w h g1 g2
end Go.Proofs.YtbalafgoengppaaDoor
