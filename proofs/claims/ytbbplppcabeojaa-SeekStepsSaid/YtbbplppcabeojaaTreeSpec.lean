/- What the walks of the laws on trees ask of the tree's functions: their contracts, over whatever says that a tree lies at an address. -/
import Derived.Test.YtbbplppcabeojaaRefSame
import Derived.Test.YtbbplppcabeojaaRefAsks
import Derived.Test.YtbbplppcabeojaaTreeQ
import Derived.Test.YtbbplppcabeojaaRefs5
namespace Go.Proofs.Ytbbplppcabeojaa
open Go.RowKit
/-- T w a l h: in the world w a tree lies at a; it has the items l, and is h high. -/
structure TreeC (T : World → Addr → List I7 → Nat → Prop) : Prop where
  below : ∀ {w w' : World} {a : Addr} {l : List I7} {h : Nat}, T w a l h → Below w.heap.size w w' → T w' a l h
  ok : ∀ {w : World} {a : Addr} {l : List I7} {h : Nat}, T w a l h → Okl l ∧ l.length ≤ 30000 ∧ (h = 0 ↔ l.length = 0) ∧ (2 ≤ h → 2 * four (h - 1) ≤ (l.length : Int)) ∧ h ≤ 30000
  items : ∀ (w : World) (a : Addr) (l : List I7) (h : Nat), T w a l h → Calls Try.prog 57 #[.pointer (some a)] w fun e w' => ∃ A c, e = .returned (.slice A l.length c) ∧ Below w.heap.size w w' ∧ ItsAt w' A l ∧ Caps A l.length c
  sum : ∀ (w : World) (a : Addr) (l : List I7) (h : Nat), T w a l h → Calls Try.prog 28 #[.pointer (some a)] w fun e w' => e = .returned (.agg (scs (sall l))) ∧ Below w.heap.size w w'
  height : ∀ (w : World) (a : Addr) (l : List I7) (h : Nat), T w a l h → Calls Try.prog 48 #[.pointer (some a)] w fun e w' => e = .returned (.int .i64 h) ∧ Below w.heap.size w w'
  sound : ∀ (w : World) (a : Addr) (l : List I7) (h : Nat), T w a l h → Calls Try.prog 49 #[.pointer (some a)] w fun e w' => e = .returned (.bool true) ∧ Below w.heap.size w w'
  new : ∀ (A : Option Addr) (n c : Nat) (l : List I7) (w : World), ItsAt w A l → l.length = n → Caps A n c → n ≤ 30000 → Okl l → Calls Try.prog 13 #[.slice A n c] w fun e w' => ∃ a h, e = .returned (.tuple #[.pointer (some a), .int .i64 0]) ∧ T w' a l h ∧ Below w.heap.size w w'
  newBad : ∀ (A : Option Addr) (n c : Nat) (l : List I7) (w : World), ItsAt w A l → l.length = n → Caps A n c → n ≤ 30000 → ¬ Okl l → Calls Try.prog 13 #[.slice A n c] w fun e w' => e = .returned (.tuple #[.pointer none, .int .i64 1]) ∧ Below w.heap.size w w'
  newFull : ∀ (A : Option Addr) (n c : Nat) (l : List I7) (w : World), ItsAt w A l → l.length = n → Caps A n c → n ≤ maxLen → 30000 < n → Calls Try.prog 13 #[.slice A n c] w fun e w' => e = .returned (.tuple #[.pointer none, .int .i64 5]) ∧ Below w.heap.size w w'
  find : ∀ (w : World) (a : Addr) (l : List I7) (h : Nat) (dim v b : Int), T w a l h → AskOk l dim v b → Calls Try.prog 47 #[.pointer (some a), .int .i64 dim, .int .i64 v, .int .i64 b] w fun e w' => ∃ (k : Nat) (z : Int), FindIs l dim.toNat v b k ∧ 0 ≤ z ∧ z ≤ h ∧ e = .returned (.tuple #[.agg (vcs k (sall (l.take k)) z), .int .i64 0]) ∧ Below w.heap.size w w'
  findBad : ∀ (w : World) (a : Addr) (l : List I7) (h : Nat) (dim v b : Int), T w a l h → ¬ AskOk l dim v b → Calls Try.prog 47 #[.pointer (some a), .int .i64 dim, .int .i64 v, .int .i64 b] w fun e w' => e = .returned (.tuple #[.agg (vcs 0 s0 0), .int .i64 1]) ∧ Below w.heap.size w w'
  at_ : ∀ (w : World) (a : Addr) (l : List I7) (h k : Nat), T w a l h → k < l.length → Calls Try.prog 67 #[.pointer (some a), .int .i64 k] w fun e w' => e = .returned (.tuple #[.agg (ics (ith l k)), .int .i64 0]) ∧ Below w.heap.size w w'
  atBad : ∀ (w : World) (a : Addr) (l : List I7) (h : Nat) (k : Int), T w a l h → ¬ (0 ≤ k ∧ k < l.length) → Calls Try.prog 67 #[.pointer (some a), .int .i64 k] w fun e w' => e = .returned (.tuple #[.agg (ics ⟨0, 0, 0, 0, 0, 0, ⟨#[]⟩⟩), .int .i64 1]) ∧ Below w.heap.size w w'
section
variable {T : World → Addr → List I7 → Nat → Prop}
set_option maxHeartbeats 4000000 in
set_option maxRecDepth 100000 in
theorem is_yes (K : TreeC T) (a : Addr) (l : List I7) (h : Nat) (B : Option Addr) (n d : Nat) (w : World) (hT : T w a l h) (hB : ItsAt w B l) (hn : l.length = n) :
    Calls Try.prog 17 #[.pointer (some a), .slice B n d] w fun e w' => e = .returned (.bool true) ∧ Below w.heap.size w w' := by
  have HEQ := eq3
  obtain ⟨k1, k2, k3, k4, k5⟩ := K.ok hT
  have C1 := Lib.hid fun (W : World) (hW : Below w.heap.size w W) => K.items W a l h (K.below hT hW)
  have C2 := Lib.hid fun (W : World) (hW : Below w.heap.size w W) => K.sum W a l h (K.below hT hW)
  have C3 := Lib.hid fun (W : World) (hW : Below w.heap.size w W) => K.height W a l h (K.below hT hW)
  have C4 := Lib.hid fun (W : World) (hW : Below w.heap.size w W) => K.sound W a l h (K.below hT hW)
  have C5 := Lib.hid fun (W : World) => srefs5_any (sall l) W
  have C6 := Lib.hid fun (W : World) (hW : Below w.heap.size w W) => rall_any B n d l W (hB.below hW) hn (by omega) k1
  have k4' : 2 ≤ h → four (h - 2) ≤ (l.length : Int) + 1 := fun h2 => by
    have q1 := k4 h2
    have q2 := four_succ (h - 2)
    have q3 := four_pos (h - 2)
    rw [show h - 1 = h - 2 + 1 from by omega] at q1
    omega
  have C7 := Lib.hid fun (W : World) => high_yes h n (by omega) (by rw [← hn]; exact k3) (by rw [← hn]; exact k4') (by omega) W
  have HB := Lib.hid hB; clear hB
  have HN := Lib.hid hn; clear hn k3 k4 k4' k1
  unfold scs at C2 C5 C6
  generalize sall l = s at *
  go_enter Try.func17, Try.ntmps17
  go_wp2_with fail
  refine (C1.out _ (Below.refl _ _)).mono ?_
  rintro e w1 ⟨A, c, rfl, hb1, hI, hC⟩
  rw [HN.out]
  go_wp2_with fail
  refine (refs5_any A n c l _ hI HN.out (by have := HN.out; omega)).mono ?_
  rintro e w2 ⟨A2, c2, rfl, hb2, hI2, _⟩
  have a2 := hb1.trans (hb2.mono hb1.size)
  go_wp2_with fail
  refine (same_yes A2 B n c2 d l _ hI2 (HB.out.below a2) HN.out (by have := HN.out; omega)).mono ?_
  rintro e w3 ⟨rfl, hb3⟩
  have a3 := a2.trans (hb3.mono a2.size)
  go_wp2_with fail
  refine (C2.out _ a3).mono ?_
  rintro e w4 ⟨rfl, hb4⟩
  have a4 := a3.trans (hb4.mono a3.size)
  go_wp2_with fail
  refine (C5.out _).mono ?_
  rintro e w5 ⟨rfl, hb5⟩
  have a5 := a4.trans (hb5.mono a4.size)
  go_wp2_with fail
  refine (C6.out _ a5).mono ?_
  rintro e w6 ⟨rfl, hb6⟩
  have a6 := a5.trans (hb6.mono a5.size)
  go_wp2_with fail
  refine (C3.out _ a6).mono ?_
  rintro e w7 ⟨rfl, hb7⟩
  have a7 := a6.trans (hb7.mono a6.size)
  go_wp2_with fail
  refine (C7.out _).mono ?_
  rintro e w8 ⟨rfl, rfl⟩
  go_wp2_with fail
  refine (C4.out _ a7).mono ?_
  rintro e w9 ⟨rfl, hb9⟩
  have a9 := a7.trans (hb9.mono a7.size)
  go_wp2_with fail
  go_ret
  exact ⟨rfl, a9⟩
/-- The three items of the law's small case. -/
def l3 : List I7 := [⟨0, 0, 1, 0, 0, 0, ⟨#[]⟩⟩, ⟨0, 0, 2, 0, 0, 0, ⟨#[]⟩⟩, ⟨0, 0, 3, 0, 0, 0, ⟨#[]⟩⟩]
theorem l3_ok : Okl l3 := by
  intro i hi
  simp only [l3, List.mem_cons, List.not_mem_nil, or_false] at hi
  rcases hi with rfl | rfl | rfl <;> (unfold Oki Okd Okn; simp only; omega)
theorem l3_find1 : FindIs l3 0 1 1 1 := ⟨by decide, fun j hj => by
  obtain rfl : j = 0 := by omega
  show ¬ ((1 : Int) < 1 ∨ ((1 : Int) = 0 ∧ (1 : Int) = 1))
  omega, fun _ => .inl (by show (1 : Int) < 3; omega)⟩
theorem l3_find0 : FindIs l3 0 1 0 0 := ⟨by decide, fun j hj => absurd hj (by omega), fun _ => .inr ⟨rfl, rfl⟩⟩
theorem l3_ask (b : Int) (hb : b = 0 ∨ b = 1) : AskOk l3 ((0 : Nat) : Int) 1 b := ⟨by omega, by omega, by omega, by show (1 : Int) ≤ 6; omega, hb⟩
set_option maxHeartbeats 4000000 in
set_option maxRecDepth 100000 in
theorem three_yes (K : TreeC T) (w : World) : Calls Try.prog 12 #[] w fun e w' => e = .returned (.bool true) ∧ Below w.heap.size w w' := by
  go_enter Try.func12, Try.ntmps12
  go_wp2_with fail
  refine (K.new (some ⟨w.heap.size, 0, none⟩) 3 3 l3 _ (ItsAt.of_cells (by simp) (fun j u hu => ?_)) rfl ⟨Nat.le_refl _, fun h => by cases h⟩ (by omega) l3_ok).mono ?_
  · rw [cell_of_row _ _ _ _ _ _ (heap_alloc_new w _), ← Array.getElem?_toList, Nat.zero_add]
    exact hu
  rintro e w1 ⟨a, h, rfl, hT, hb1⟩
  have hbw : Below w.heap.size w w1 := ((Below.refl _ _).alloc (Nat.le_refl _) _).trans (hb1.mono (by simp))
  clear hb1
  obtain ⟨_, _, k3, k4, k5⟩ := K.ok hT
  have hh1 : h = 1 := by
    have p0 : h ≠ 0 := fun e => by have := k3.1 e; cases this
    by_cases h2 : 2 ≤ h
    · have q1 := k4 h2
      have q2 := four_succ (h - 2)
      have q3 := four_pos (h - 2)
      rw [show h - 1 = h - 2 + 1 from by omega, show (l3.length : Int) = 3 from rfl] at q1
      omega
    · omega
  subst hh1
  clear k3 k4 k5
  have F1 := Lib.hid fun (W : World) (hW : Below w1.heap.size w1 W) => K.find W a l3 1 ((0 : Nat) : Int) 1 1 (K.below hT hW) (l3_ask 1 (.inr rfl))
  have F0 := Lib.hid fun (W : World) (hW : Below w1.heap.size w1 W) => K.find W a l3 1 ((0 : Nat) : Int) 1 0 (K.below hT hW) (l3_ask 0 (.inl rfl))
  have C3 := Lib.hid fun (W : World) (hW : Below w1.heap.size w1 W) => K.height W a l3 1 (K.below hT hW)
  have C4 := Lib.hid fun (W : World) (hW : Below w1.heap.size w1 W) => K.sound W a l3 1 (K.below hT hW)
  clear hT
  go_wp2_with fail
  refine (F1.out _ (Below.refl _ _)).mono ?_
  rintro e w2 ⟨k, z, hf, z1, z2, rfl, hb2⟩
  obtain rfl := hf.unique l3_find1
  rw [show sall (l3.take 1) = ⟨1, 1, 0, 0, 0, 0⟩ from S6.ext_ (by decide) (by decide) (by decide) (by decide) (by decide) (by decide)]
  unfold vcs
  have hbx := hb2.alloc hb2.size (.cells (vcs 1 ⟨1, 1, 0, 0, 0, 0⟩ z) 78)
  have rx : RawAt 78 (w2.alloc (.cells (vcs 1 ⟨1, 1, 0, 0, 0, 0⟩ z) 78)) w2.heap.size (vcs 1 ⟨1, 1, 0, 0, 0, 0⟩ z) := heap_alloc_new w2 _
  clear hf
  go_wp2_with fail
  refine (F0.out _ hbx).mono ?_
  rintro e w3 ⟨k, z', hf, z3, z4, rfl, hb3⟩
  obtain rfl := hf.unique l3_find0
  rw [show sall (l3.take 0) = s0 from rfl]
  unfold vcs s0
  have hb4 := hbx.trans (hb3.mono hbx.size)
  have hby := hb4.alloc hb4.size (.cells (vcs 0 s0 z') 78)
  have rx2 := RawAt.below rx hb3 (RawAt.lt rx)
  have c0 : w3.cell? ⟨w2.heap.size, 0, none⟩ = some (.int .i64 1) := RawAt.cell rx2 0
  have c2 : w3.cell? ⟨w2.heap.size, 2, none⟩ = some (.int .i64 1) := RawAt.cell rx2 2
  have hlt := RawAt.lt rx2
  clear hf rx rx2
  go_wp2_with fail
  refine (C3.out _ hby).mono ?_
  rintro e w5 ⟨rfl, hb5⟩
  have a5 := hby.trans (hb5.mono hby.size)
  go_wp2_with fail
  refine (C4.out _ a5).mono ?_
  rintro e w6 ⟨rfl, hb6⟩
  have a6 := a5.trans (hb6.mono a5.size)
  go_wp2_with fail
  go_ret
  exact ⟨rfl, hbw.trans (a6.mono hbw.size)⟩
end
end Go.Proofs.Ytbbplppcabeojaa
