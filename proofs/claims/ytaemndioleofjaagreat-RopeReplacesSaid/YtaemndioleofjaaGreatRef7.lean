/- The document's places of a text: the contracts of bodkinref07.RuneAt, ByteAt, Ahead, Behind. The document's places of a text: the contracts of bodkinref07.RuneAt and Behind. -/
import Derived.Test.YtaemndioleofjaaGreatRopeAsk
import Derived.Test.YtaemndioleofjaaGreatEncPure
import Derived.Test.YtaemndioleofjaaGreatOwn
namespace Go.Proofs.YtaemndioleofjaaGreat
open Go.RowKit
theorem szl_one0 (r : Int) : szl [r] 0 = uSize r := by
  show ((encAll [r]).length : Int) = uSize r
  rw [enc_sum]; simp
theorem cut_hd {P : Program} {t e : TypeId} (ht : P.underlying t = some (.slice e)) {i : TypeInfo} (hi : P.info? e = some i) (A : Option Addr) (n c k : Nat) (hk : k ≤ c) (w : World) :
    (Instr.slice t (.slice A n c) none (some (.int .i64 k)) none).run P w = .ok (.slice A k c) w := by
  have he : P.elem t = e := by simp [Program.elem, ht]
  subst he
  rw [run_slice_h _ _ _ _ _ ht _ _ (by omega) (by omega), run_sizeOf _ hi]
  have h0 : (A.map fun x => x.add 0) = A := by cases A <;> simp [Addr.add]
  simp [Result.andThen, sliced, h0]
theorem szl_bd (l : List Int) (hl : l.length ≤ 1000000) (i k : Nat) : 0 ≤ szl (l.take i) k ∧ szl (l.take i) k ≤ 4000000 := by
  have h1 := szl_le (l.take i) k
  have h2 := szl_nonneg (l.take i) k
  have h3 : (l.take i).length ≤ l.length := by rw [List.length_take]; omega
  omega
set_option maxHeartbeats 2000000 in
set_option maxRecDepth 100000 in
theorem f7ahead (A : Option Addr) (n c : Nat) (l : List Int) (w : World) (hA : IntsAt .i32 w A l) (hl : l.length = n) (hc : Caps A n c) (hn : n ≤ 1000000) (at_ : Int) :
    Calls Tryz.prog 30 #[.slice A n c, .int .i64 at_] w fun e w' => ∃ a d, SizeIs l 2 at_ a d ∧ e = .returned (.tuple #[.int .i64 a, .int .i64 d]) ∧ w' = w := by
  have HA := Lib.hid hA; clear hA
  have HL := Lib.hid hl; clear hl
  by_cases h0 : at_ < 0
  · have H := Lib.hid (show SizeIs l 2 at_ 0 1 from .inl ⟨fun h => by omega, rfl, rfl⟩)
    go_enter Tryz.func30, Tryz.ntmps30
    go_wp2
    refine bodyPost_ret (v := .tuple #[.int .i64 0, .int .i64 1]) (by simp [results, Tryz.results30, go_sem]) rfl ⟨_, _, H.out, rfl, rfl⟩
  by_cases h1 : (n : Int) < at_
  · have H := Lib.hid (show SizeIs l 2 at_ 0 1 from .inl ⟨fun h => by have := HL.out; omega, rfl, rfl⟩)
    go_enter Tryz.func30, Tryz.ntmps30
    go_wp2
    refine bodyPost_ret (v := .tuple #[.int .i64 0, .int .i64 1]) (by simp [results, Tryz.results30, go_sem]) rfl ⟨_, _, H.out, rfl, rfl⟩
  obtain ⟨m, rfl⟩ : ∃ m : Nat, at_ = m := ⟨at_.toNat, by omega⟩
  have hm : m ≤ n := by omega
  obtain ⟨i0, hi0, hz0, hz1, hz2⟩ := info_parts i32_info
  have hs := fun W => cut_hd (P := Tryz.prog) Tryz.underlying28 hi0 A n c m (by have := hc.1; omega) W
  have hcm : m ≤ c := by have := hc.1; omega
  have HSB := Lib.hid fun (i : Nat) => szl_bd l (by rw [HL.out]; exact hn) i 2
  clear hc h0 h1
  have dz1 : decide (n < m) = false := decide_eq_false (by omega)
  have dz2 : decide ((m : Int) < 0) = false := decide_eq_false (by omega)
  go_enter Tryz.func30, Tryz.ntmps30
  go_wp2_with fail
  go_loopg [6, 21] m (fun g x i wr => ∃ j : Nat, i = .int .i64 j ∧ j ≤ m ∧ m - j ≤ g ∧ wr = w ∧ x = .int .i64 (szl (l.take j) 2))
  case atStart => exact ⟨0, rfl, by omega, by omega, rfl, by rw [List.take_zero, szl_nil]⟩
  case round =>
    obtain ⟨j, rfl, h1, h2, rfl, rfl⟩ := hrel
    by_cases hlt : j < m
    · have hml : j < l.length := by rw [HL.out]; omega
      obtain ⟨bA, off, rfl, hbA, hcell⟩ := HA.out (by omega)
      have q := hcell j hml
      clear hcell
      have hst := nth_szl hml 2
      have b0 := HSB.out j
      have b1 := HSB.out (j + 1)
      rw [szl_one2] at hst
      by_cases h10 : nth l j = 10
      · rw [if_pos h10] at hst
        rw [h10] at q
        have HST := Lib.hid hst
        clear hst
        generalize szl (l.take j) 2 = z at *
        obtain ⟨b00, b01⟩ := b0
        clear b1
        go_wp2
        go_roundg (gk - 1)
        case measure => omega
        case rel => exact ⟨j + 1, by go_num, by omega, by omega, rfl, by rw [HST.out]⟩
      · rw [if_neg h10, Int.add_zero] at hst
        have HST := Lib.hid hst
        clear hst
        have hrb := i32_10 _ h10
        clear h10
        generalize szl (l.take j) 2 = z at *
        generalize nth l j = r at *
        go_wp2
        go_roundg (gk - 1)
        case measure => omega
        case rel => exact ⟨j + 1, by go_num, by omega, by omega, rfl, by rw [HST.out]⟩
    · have he : j = m := by omega
      subst he
      have H := Lib.hid (show SizeIs l 2 j (szl (l.take j) 2) 0 from .inr ⟨by omega, by rw [HL.out]; omega, by rw [Int.toNat_natCast], rfl⟩)
      generalize szl (l.take j) 2 = z at *
      go_wp2
      refine bodyPost_ret (v := .tuple #[.int .i64 z, .int .i64 0]) (by simp [results, Tryz.results30, go_sem]) rfl ⟨_, _, H.out, rfl, rfl⟩
end Go.Proofs.YtaemndioleofjaaGreat
