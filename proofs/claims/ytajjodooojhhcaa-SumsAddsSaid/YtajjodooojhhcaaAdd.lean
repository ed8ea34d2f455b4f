/- The sum of two sums: the contract of sums.Add. -/
import Derived.Test.YtajjodooojhhcaaAdd11
import Derived.Test.YtajjodooojhhcaaAdd10
import Derived.Test.YtajjodooojhhcaaAdd01
import Derived.Test.YtajjodooojhhcaaAdd00
namespace Go.Proofs.Ytajjodooojhhcaa
open Go.RowKit
theorem add_any (a b : Q) (n m : Int) (w : World) (ha : QOk a n) (hb : QOk b m) (hn : n ≤ 100000000) (hm : m ≤ 100000000) :
    Calls Try.prog 16 #[qv a, qv b] w fun e w' => e = .returned (qv (qadd a b)) ∧ Below w.heap.size w w' := by
  obtain ⟨aby, aru, abr, afi, ala, alo, arw⟩ := a
  obtain ⟨bby, bru, bbr, bfi, bla, blo, brw⟩ := b
  obtain ⟨a1, a2, a3, a4, a5, a6, a7, a8, a9, a10, a11, a12, _⟩ := ha
  obtain ⟨b1, b2, b3, b4, b5, b6, b7, b8, b9, b10, b11, b12, _⟩ := hb
  simp only at a1 a2 a3 a4 a5 a6 a7 a8 a9 a10 a11 a12 b1 b2 b3 b4 b5 b6 b7 b8 b9 b10 b11 b12
  unfold qv
  by_cases za : abr = 0
  · subst za
    by_cases zb : bbr = 0
    · subst zb
      exact add11 aby aru afi ala alo arw bby bru bfi bla blo brw w (by omega) (by omega) (by omega) (by omega) (by omega) (by omega) (by omega) (by omega) (by omega) (by omega) (by omega) (by omega) (by omega) (by omega)
    · exact add10 aby aru afi ala alo arw bby bru bbr bfi bla blo brw w (by omega) (by omega) (by omega) (by omega) (by omega) (by omega) (by omega) (by omega) (by omega) (by omega) (by omega) (by omega) (by omega) (by omega) (by omega) (by omega) (by simpa using zb)
  · by_cases zb : bbr = 0
    · subst zb
      exact add01 aby aru abr afi ala alo arw bby bru bfi bla blo brw w (by omega) (by omega) (by omega) (by omega) (by omega) (by omega) (by omega) (by omega) (by omega) (by omega) (by omega) (by omega) (by omega) (by omega) (by omega) (by omega) (by simpa using za)
    · exact add00 aby aru abr afi ala alo arw bby bru bbr bfi bla blo brw w (by omega) (by omega) (by omega) (by omega) (by omega) (by omega) (by omega) (by omega) (by omega) (by omega) (by omega) (by omega) (by omega) (by omega) (by omega) (by omega) (by simpa using za) (by omega) (by omega) (by simpa using zb)
end Go.Proofs.Ytajjodooojhhcaa
