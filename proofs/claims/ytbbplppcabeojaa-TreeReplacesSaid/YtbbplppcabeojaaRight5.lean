/- What a law's right says of items, as two contracts. -/
import Derived.Test.YtbbplppcabeojaaTreeSpec
namespace Go.Proofs.Ytbbplppcabeojaa
open Go.RowKit
theorem right5_yes (A : Option Addr) (n c : Nat) (l : List I7) (w : World) (hA : ItsAt w A l) (hl : l.length = n) (hn : n ≤ maxLen) (h : n ≤ 600 ∧ Okl l) :
    Calls Try.prog 11 #[.slice A n c] w fun e w' => e = .returned (.bool true) ∧ Below w.heap.size w w' :=
  right5_any A n c l w hA hl (by unfold maxLen at hn; omega) true ⟨fun _ => h, fun _ => rfl⟩
theorem right5_no (A : Option Addr) (n c : Nat) (l : List I7) (w : World) (hA : ItsAt w A l) (hl : l.length = n) (hn : n ≤ maxLen) (h : ¬ (n ≤ 600 ∧ Okl l)) :
    Calls Try.prog 11 #[.slice A n c] w fun e w' => e = .returned (.bool false) ∧ Below w.heap.size w w' :=
  right5_any A n c l w hA hl (by unfold maxLen at hn; omega) false ⟨fun e => absurd e (by simp), fun e => absurd e h⟩
end Go.Proofs.Ytbbplppcabeojaa
