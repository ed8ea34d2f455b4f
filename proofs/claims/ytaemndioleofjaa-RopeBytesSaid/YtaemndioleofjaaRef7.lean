/- The document's places of a text: the contracts of bodkinref07.RuneAt, ByteAt, Ahead, Behind. The document's places of a text: the contracts of bodkinref07.RuneAt and Behind. -/
import Derived.Test.YtaemndioleofjaaRopeAsk
import Derived.Test.YtaemndioleofjaaRefS
import Derived.Test.YtaemndioleofjaaOwn
namespace Go.Proofs.Ytaemndioleofjaa
open Go.RowKit
theorem szl_one0 (r : Int) : szl [r] 0 = uSize r := by
  show ((encAll [r]).length : Int) = uSize r
  rw [enc_sum]; simp
theorem cut_hd {P : Program} {t e : TypeId} (ht : P.underlying t = some (.slice e)) {i : TypeInfo} (hi : P.info? e = some i) (A : Option Addr) (n c k : Nat) (hk : k ≤ c) (w : World) :
    (Instr.slice t (.slice A n c) none (some (.int .i64 k)) none).run P w = .ok (.slice A k c) w := by
  have he : P.elem t = e := by simp [Program.elem, ht]
  subst he
  rw [run_slice_h _ _ _ _ _ ht _ _ (by omega) (by omega), run_sizeOf _ hi]
  have h0 : (A.map fun x => x.add 0) = A := by cases A <;> simp [Addr.add]
  simp [Result.andThen, sliced, h0]
theorem szl_bd (l : List Int) (hl : l.length ≤ 1000000) (i k : Nat) : 0 ≤ szl (l.take i) k ∧ szl (l.take i) k ≤ 4000000 := by
  have h1 := szl_le (l.take i) k
  have h2 := szl_nonneg (l.take i) k
  have h3 : (l.take i).length ≤ l.length := by rw [List.length_take]; omega
  omega
set_option maxHeartbeats 2000000 in
set_option maxRecDepth 100000 in
theorem f7byte (A : Option Addr) (n c : Nat) (l : List Int) (w : World) (hA : IntsAt .i32 w A l) (hl : l.length = n) (hc : Caps A n c) (hn : n ≤ 1000000) (at_ : Int) :
    Calls Try.prog 14 #[.slice A n c, .int .i64 at_] w fun e w' => ∃ a d, SizeIs l 0 at_ a d ∧ e = .returned (.tuple #[.int .i64 a, .int .i64 d]) ∧ w' = w := by
  have HA := Lib.hid hA; clear hA
  have HL := Lib.hid hl; clear hl
  by_cases h0 : at_ < 0
  · have H := Lib.hid (show SizeIs l 0 at_ 0 1 from .inl ⟨fun h => by omega, rfl, rfl⟩)
    go_enter Try.func14, Try.ntmps14
    go_wp2
    refine bodyPost_ret (v := .tuple #[.int .i64 0, .int .i64 1]) (by simp [results, Try.results14, go_sem]) rfl ⟨_, _, H.out, rfl, rfl⟩
  by_cases h1 : (n : Int) < at_
  · have H := Lib.hid (show SizeIs l 0 at_ 0 1 from .inl ⟨fun h => by have := HL.out; omega, rfl, rfl⟩)
    go_enter Try.func14, Try.ntmps14
    go_wp2
    refine bodyPost_ret (v := .tuple #[.int .i64 0, .int .i64 1]) (by simp [results, Try.results14, go_sem]) rfl ⟨_, _, H.out, rfl, rfl⟩
  obtain ⟨m, rfl⟩ : ∃ m : Nat, at_ = m := ⟨at_.toNat, by omega⟩
  have hm : m ≤ n := by omega
  obtain ⟨i0, hi0, hz0, hz1, hz2⟩ := info_parts i32_info
  have hs := fun W => cut_hd (P := Try.prog) Try.underlying27 hi0 A n c m (by have := hc.1; omega) W
  have hcm : m ≤ c := by have := hc.1; omega
  have HSB := Lib.hid fun (i : Nat) => szl_bd l (by rw [HL.out]; exact hn) i 0
  clear hc h0 h1
  have dz1 : decide (n < m) = false := decide_eq_false (by omega)
  have dz2 : decide ((m : Int) < 0) = false := decide_eq_false (by omega)
  go_enter Try.func14, Try.ntmps14
  go_wp2_with fail
  go_loopg [6, 21] m (fun g x i wr => ∃ j : Nat, i = .int .i64 j ∧ j ≤ m ∧ m - j ≤ g ∧ wr = w ∧ x = .int .i64 (szl (l.take j) 0))
  case atStart => exact ⟨0, rfl, by omega, by omega, rfl, by rw [List.take_zero, szl_nil]⟩
  case round =>
    obtain ⟨j, rfl, h1, h2, rfl, rfl⟩ := hrel
    by_cases hlt : j < m
    · have hml : j < l.length := by rw [HL.out]; omega
      obtain ⟨bA, off, rfl, hbA, hcell⟩ := HA.out (by omega)
      have q := hcell j hml
      clear hcell
      have hst := nth_szl hml 0
      have b0 := HSB.out j
      have b1 := HSB.out (j + 1)
      rw [szl_one0] at hst
      have CS := Lib.hid fun (W : World) => rSize_any (nth l j) W
      have HST := Lib.hid hst
      rw [hst] at b1
      clear hst
      generalize szl (l.take j) 0 = z at *
      generalize nth l j = r at *
      generalize uSize r = u at *
      obtain ⟨b00, b01⟩ := b0
      obtain ⟨b10, b11⟩ := b1
      have hw : IntKind.i64.wrap (z + u) = z + u := IntWalk.i64_in _ (by omega)
      have hw2 : wrap64 (z + u) = z + u := IntWalk.wrap64_in _ ⟨by omega, by omega⟩
      go_wp2_with fail
      refine (CS.out _).mono ?_
      rintro e w1 ⟨rfl, rfl⟩
      go_wp2
      go_roundg (gk - 1)
      case measure => omega
      case rel => exact ⟨j + 1, by go_num, by omega, by omega, rfl, by rw [HST.out]⟩
    · have he : j = m := by omega
      subst he
      have H := Lib.hid (show SizeIs l 0 j (szl (l.take j) 0) 0 from .inr ⟨by omega, by rw [HL.out]; omega, by rw [Int.toNat_natCast], rfl⟩)
      generalize szl (l.take j) 0 = z at *
      go_wp2
      refine bodyPost_ret (v := .tuple #[.int .i64 z, .int .i64 0]) (by simp [results, Try.results14, go_sem]) rfl ⟨_, _, H.out, rfl, rfl⟩
set_option maxHeartbeats 2000000 in
set_option maxRecDepth 100000 in
theorem f7ahead (A : Option Addr) (n c : Nat) (l : List Int) (w : World) (hA : IntsAt .i32 w A l) (hl : l.length = n) (hc : Caps A n c) (hn : n ≤ 1000000) (at_ : Int) :
    Calls Try.prog 20 #[.slice A n c, .int .i64 at_] w fun e w' => ∃ a d, SizeIs l 2 at_ a d ∧ e = .returned (.tuple #[.int .i64 a, .int .i64 d]) ∧ w' = w := by
  have HA := Lib.hid hA; clear hA
  have HL := Lib.hid hl; clear hl
  by_cases h0 : at_ < 0
  · have H := Lib.hid (show SizeIs l 2 at_ 0 1 from .inl ⟨fun h => by omega, rfl, rfl⟩)
    go_enter Try.func20, Try.ntmps20
    go_wp2
    refine bodyPost_ret (v := .tuple #[.int .i64 0, .int .i64 1]) (by simp [results, Try.results20, go_sem]) rfl ⟨_, _, H.out, rfl, rfl⟩
  by_cases h1 : (n : Int) < at_
  · have H := Lib.hid (show SizeIs l 2 at_ 0 1 from .inl ⟨fun h => by have := HL.out; omega, rfl, rfl⟩)
    go_enter Try.func20, Try.ntmps20
    go_wp2
    refine bodyPost_ret (v := .tuple #[.int .i64 0, .int .i64 1]) (by simp [results, Try.results20, go_sem]) rfl ⟨_, _, H.out, rfl, rfl⟩
  obtain ⟨m, rfl⟩ : ∃ m : Nat, at_ = m := ⟨at_.toNat, by omega⟩
  have hm : m ≤ n := by omega
  obtain ⟨i0, hi0, hz0, hz1, hz2⟩ := info_parts i32_info
  have hs := fun W => cut_hd (P := Try.prog) Try.underlying27 hi0 A n c m (by have := hc.1; omega) W
  have hcm : m ≤ c := by have := hc.1; omega
  have HSB := Lib.hid fun (i : Nat) => szl_bd l (by rw [HL.out]; exact hn) i 2
  clear hc h0 h1
  have dz1 : decide (n < m) = false := decide_eq_false (by omega)
  have dz2 : decide ((m : Int) < 0) = false := decide_eq_false (by omega)
  go_enter Try.func20, Try.ntmps20
  go_wp2_with fail
  go_loopg [6, 21] m (fun g x i wr => ∃ j : Nat, i = .int .i64 j ∧ j ≤ m ∧ m - j ≤ g ∧ wr = w ∧ x = .int .i64 (szl (l.take j) 2))
  case atStart => exact ⟨0, rfl, by omega, by omega, rfl, by rw [List.take_zero, szl_nil]⟩
  case round =>
    obtain ⟨j, rfl, h1, h2, rfl, rfl⟩ := hrel
    by_cases hlt : j < m
    · have hml : j < l.length := by rw [HL.out]; omega
      obtain ⟨bA, off, rfl, hbA, hcell⟩ := HA.out (by omega)
      have q := hcell j hml
      clear hcell
      have hst := nth_szl hml 2
      have b0 := HSB.out j
      have b1 := HSB.out (j + 1)
      rw [szl_one2] at hst
      by_cases h10 : nth l j = 10
      · rw [if_pos h10] at hst
        rw [h10] at q
        have HST := Lib.hid hst
        clear hst
        generalize szl (l.take j) 2 = z at *
        obtain ⟨b00, b01⟩ := b0
        clear b1
        go_wp2
        go_roundg (gk - 1)
        case measure => omega
        case rel => exact ⟨j + 1, by go_num, by omega, by omega, rfl, by rw [HST.out]⟩
      · rw [if_neg h10, Int.add_zero] at hst
        have HST := Lib.hid hst
        clear hst
        have hrb := i32_10 _ h10
        clear h10
        generalize szl (l.take j) 2 = z at *
        generalize nth l j = r at *
        go_wp2
        go_roundg (gk - 1)
        case measure => omega
        case rel => exact ⟨j + 1, by go_num, by omega, by omega, rfl, by rw [HST.out]⟩
    · have he : j = m := by omega
      subst he
      have H := Lib.hid (show SizeIs l 2 j (szl (l.take j) 2) 0 from .inr ⟨by omega, by rw [HL.out]; omega, by rw [Int.toNat_natCast], rfl⟩)
      generalize szl (l.take j) 2 = z at *
      go_wp2
      refine bodyPost_ret (v := .tuple #[.int .i64 z, .int .i64 0]) (by simp [results, Try.results20, go_sem]) rfl ⟨_, _, H.out, rfl, rfl⟩
set_option maxHeartbeats 4000000 in
set_option maxRecDepth 100000 in
theorem f7rune (A : Option Addr) (n c : Nat) (l : List Int) (w : World) (hA : IntsAt .i32 w A l) (hl : l.length = n) (hn : n ≤ 1000000) (at_ : Int) :
    Calls Try.prog 12 #[.slice A n c, .int .i64 at_] w fun e w' => ∃ a d, RuneIs l at_ a d ∧ e = .returned (.tuple #[.int .i64 a, .int .i64 d]) ∧ w' = w := by
  have HA := Lib.hid hA; clear hA
  have HL := Lib.hid hl; clear hl
  have HSB := Lib.hid fun (i : Nat) => szl_bd l (by rw [HL.out]; exact hn) i 0
  go_enter Try.func12, Try.ntmps12
  go_wp2_with fail
  go_loopg [6, 11] n (fun g x i wr => ∃ j : Nat, i = .int .i64 j ∧ j ≤ n ∧ n - j ≤ g ∧ wr = w ∧ x = .int .i64 (szl (l.take j) 0) ∧ (at_ < 0 → j = 0) ∧ (0 ≤ at_ → szl (l.take j) 0 ≤ at_) ∧ Hid (∀ i, i < j → szl (l.take i) 0 ≠ at_))
  case atStart => exact ⟨0, rfl, by omega, by omega, rfl, by rw [List.take_zero, szl_nil], fun _ => rfl, fun h => by rw [List.take_zero, szl_nil]; exact h, Lib.hid (fun i h => by omega)⟩
  case round =>
    obtain ⟨j, rfl, h1, h2, rfl, rfl, h3, h4, hno⟩ := hrel
    by_cases hlt : j < n
    · have hml : j < l.length := by rw [HL.out]; omega
      obtain ⟨bA, off, rfl, hbA, hcell⟩ := HA.out (by omega)
      have q := hcell j hml
      clear hcell
      have hst := nth_szl hml 0
      rw [szl_one0] at hst
      have CS := Lib.hid fun (W : World) => rSize_any (nth l j) W
      have b0 := HSB.out j
      have b1 := HSB.out (j + 1)
      have hub := uSize_bd (nth l j)
      have HST := Lib.hid hst
      rw [hst] at b1
      clear hst
      by_cases he : szl (l.take j) 0 = at_
      · have H := Lib.hid (show RuneIs l at_ j 0 from .inr (.inl ⟨j, by omega, he, rfl, rfl⟩))
        rw [he]
        clear b0 b1 h3 h4 he HST CS hub
        generalize nth l j = r at *
        go_wp2
        refine bodyPost_ret (v := .tuple #[.int .i64 j, .int .i64 0]) (by simp [results, Try.results12, go_sem]) rfl ⟨_, _, H.out, rfl, rfl⟩
      by_cases h0 : at_ < 0
      · have H := Lib.hid (show RuneIs l at_ 0 1 from .inl ⟨fun h => by omega, rfl, rfl⟩)
        have hbe : (szl (l.take j) 0 == at_) = false := by simpa using he
        have hgt : at_ < szl (l.take j) 0 := by omega
        clear b1 h3 h4 he HST CS hub hno
        generalize szl (l.take j) 0 = z at *
        generalize nth l j = r at *
        go_wp2
        refine bodyPost_ret (v := .tuple #[.int .i64 0, .int .i64 1]) (by simp [results, Try.results12, go_sem]) rfl ⟨_, _, H.out, rfl, rfl⟩
      have hz := h4 (by omega)
      have hbe : (szl (l.take j) 0 == at_) = false := by simpa using he
      have hng : ¬ (at_ < szl (l.take j) 0) := by omega
      by_cases hmid : at_ < szl (l.take j) 0 + uSize (nth l j)
      · have H := Lib.hid (show RuneIs l at_ 0 70 from .inr (.inr ⟨by omega, by
          have h9 := szl_mono l 0 (show j + 1 ≤ l.length by omega)
          rw [szl_all, HST.out] at h9
          omega, fun i hi => by
          rcases Nat.lt_or_ge j i with h | h
          · have h9 := szl_mono l 0 (show j + 1 ≤ i by omega)
            rw [HST.out] at h9
            omega
          · have h9 := szl_mono l 0 h
            omega, rfl, rfl⟩))
        have h0' : ¬ (at_ < 0) := h0
        have h00 : 0 ≤ at_ := by omega
        clear h3 h4 he HST hno
        generalize szl (l.take j) 0 = z at *
        generalize nth l j = r at *
        generalize uSize r = u at *
        obtain ⟨b00, b01⟩ := b0
        obtain ⟨b10, b11⟩ := b1
        go_wp2_with fail
        refine (CS.out _).mono ?_
        rintro e w1 ⟨rfl, rfl⟩
        go_wp2
        refine bodyPost_ret (v := .tuple #[.int .i64 0, .int .i64 70]) (by simp [results, Try.results12, go_sem]) rfl ⟨_, _, H.out, rfl, rfl⟩
      · have HNO := Lib.hid (show ∀ i, i < j + 1 → szl (l.take i) 0 ≠ at_ from fun i hi => by
          by_cases e : i = j
          · subst e; exact he
          · exact hno.out i (by omega))
        have H0 := Lib.hid h0
        have HM := Lib.hid hmid
        have h00 : 0 ≤ at_ := by omega
        clear h3 h4 he hno h0
        generalize szl (l.take j) 0 = z at *
        generalize nth l j = r at *
        generalize uSize r = u at *
        obtain ⟨b00, b01⟩ := b0
        obtain ⟨b10, b11⟩ := b1
        go_wp2_with fail
        refine (CS.out _).mono ?_
        rintro e w1 ⟨rfl, rfl⟩
        go_wp2
        go_roundg (gk - 1)
        case measure => omega
        case rel => exact ⟨j + 1, by go_num, by omega, by omega, rfl, by rw [HST.out], fun h => absurd h (by have := H0.out; omega), fun _ => by rw [HST.out]; have := HM.out; omega, HNO⟩
    · have hj : j = n := by omega
      have hj2 : l.take j = l := by rw [List.take_of_length_le (by rw [HL.out]; omega)]
      rw [hj2] at h4 ⊢
      by_cases he : szl l 0 = at_
      · have H := Lib.hid (show RuneIs l at_ n 0 from .inr (.inl ⟨n, by rw [HL.out]; exact Nat.le_refl _, by rw [← HL.out, szl_all]; exact he, rfl, rfl⟩))
        rw [he]
        clear hj2 h3 h4 he hno
        go_wp2
        refine bodyPost_ret (v := .tuple #[.int .i64 n, .int .i64 0]) (by simp [results, Try.results12, go_sem]) rfl ⟨_, _, H.out, rfl, rfl⟩
      · have H := Lib.hid (show RuneIs l at_ 0 1 from .inl ⟨fun h => by have := h4 h.1; omega, rfl, rfl⟩)
        have hbe : (szl l 0 == at_) = false := by simpa using he
        clear hj2 h3 h4 he hno
        generalize szl l 0 = z at *
        go_wp2
        refine bodyPost_ret (v := .tuple #[.int .i64 0, .int .i64 1]) (by simp [results, Try.results12, go_sem]) rfl ⟨_, _, H.out, rfl, rfl⟩
set_option maxHeartbeats 4000000 in
set_option maxRecDepth 100000 in
theorem f7behind (A : Option Addr) (n c : Nat) (l : List Int) (w : World) (hA : IntsAt .i32 w A l) (hl : l.length = n) (hn : n ≤ 1000000) (k : Int) :
    Calls Try.prog 18 #[.slice A n c, .int .i64 k] w fun e w' => ∃ a d, BehindIs l k a d ∧ e = .returned (.tuple #[.int .i64 a, .int .i64 d]) ∧ w' = w := by
  have HA := Lib.hid hA; clear hA
  have HL := Lib.hid hl; clear hl
  have HSB := Lib.hid fun (i : Nat) => szl_bd l (by rw [HL.out]; exact hn) i 2
  by_cases hk : k = 0
  · subst hk
    have H := Lib.hid (show BehindIs l 0 0 0 from .inr ⟨by omega, by omega, 0, ⟨by omega, fun i hi => by omega, by rw [List.take_zero, szl_nil]; exact Int.le_refl _⟩, rfl, rfl⟩)
    go_enter Try.func18, Try.ntmps18
    go_wp2
    refine bodyPost_ret (v := .tuple #[.int .i64 0, .int .i64 0]) (by simp [results, Try.results18, go_sem]) rfl ⟨_, _, H.out, rfl, rfl⟩
  have hkb : (k == 0) = false := by simpa using hk
  have HK := Lib.hid hk
  clear hk
  go_enter Try.func18, Try.ntmps18
  go_wp2_with fail
  go_loopg [6, 13] n (fun g x i wr => ∃ j : Nat, i = .int .i64 j ∧ j ≤ n ∧ n - j ≤ g ∧ wr = w ∧ x = .int .i64 (szl (l.take j) 2) ∧ (0 ≤ k → szl (l.take j) 2 < k))
  case atStart => exact ⟨0, rfl, by omega, by omega, rfl, by rw [List.take_zero, szl_nil], fun h => by rw [List.take_zero, szl_nil]; have := HK.out; omega⟩
  case round =>
    obtain ⟨j, rfl, h1, h2, rfl, rfl, h4⟩ := hrel
    by_cases hlt : j < n
    · have hml : j < l.length := by rw [HL.out]; omega
      obtain ⟨bA, off, rfl, hbA, hcell⟩ := HA.out (by omega)
      have q := hcell j hml
      clear hcell
      have hst := nth_szl hml 2
      rw [szl_one2] at hst
      have b0 := HSB.out j
      by_cases h10 : nth l j = 10
      · rw [if_pos h10] at hst
        rw [h10] at q
        by_cases hke : szl (l.take j) 2 + 1 = k
        · have H := Lib.hid (show BehindIs l k ((j : Int) + 1) 0 from .inr ⟨by omega, by
            have h9 := szl_mono l 2 (show j + 1 ≤ l.length by omega)
            rw [szl_all, hst] at h9
            have : szl l 2 = (brks l : Int) := rfl
            omega, j + 1, ⟨by omega, fun i hi => by have h9 := szl_mono l 2 (show i ≤ j by omega); omega, by rw [hst]; omega⟩, by omega, rfl⟩)
          clear hst h4 h10
          subst hke
          generalize hz9 : szl (l.take j) 2 = z at *
          have HZ9 := Lib.hid hz9
          clear hz9
          obtain ⟨b00, b01⟩ := b0
          go_wp2
          refine bodyPost_ret (v := .tuple #[.int .i64 ((j : Int) + 1), .int .i64 0]) (by simp [results, Try.results18, go_sem]) rfl ⟨(j : Int) + 1, 0, by rw [HZ9.out]; exact H.out, rfl, rfl⟩
        · have HN := Lib.hid (show 0 ≤ k → szl (l.take (j + 1)) 2 < k from fun h => by rw [hst]; have := h4 h; omega)
          have HST := Lib.hid hst
          have hkb2 : (szl (l.take j) 2 + 1 == k) = false := by simpa using hke
          clear hst h4 h10 hke
          generalize szl (l.take j) 2 = z at *
          obtain ⟨b00, b01⟩ := b0
          go_wp2
          go_roundg (gk - 1)
          case measure => omega
          case rel => exact ⟨j + 1, by go_num, by omega, by omega, rfl, by rw [HST.out], HN.out⟩
      · rw [if_neg h10, Int.add_zero] at hst
        have HN := Lib.hid (show 0 ≤ k → szl (l.take (j + 1)) 2 < k from fun h => by rw [hst]; exact h4 h)
        have HST := Lib.hid hst
        have hrb := i32_10 _ h10
        clear hst h4 h10
        generalize szl (l.take j) 2 = z at *
        generalize nth l j = r at *
        go_wp2
        go_roundg (gk - 1)
        case measure => omega
        case rel => exact ⟨j + 1, by go_num, by omega, by omega, rfl, by rw [HST.out], HN.out⟩
    · have hj2 : l.take j = l := by rw [List.take_of_length_le (by rw [HL.out]; omega)]
      rw [hj2] at h4
      have H := Lib.hid (show BehindIs l k 0 1 from .inl ⟨fun h => by have := h4 h.1; have : szl l 2 = (brks l : Int) := rfl; omega, rfl, rfl⟩)
      rw [hj2]
      clear h4 hj2
      generalize szl l 2 = z at *
      go_wp2
      refine bodyPost_ret (v := .tuple #[.int .i64 0, .int .i64 1]) (by simp [results, Try.results18, go_sem]) rfl ⟨_, _, H.out, rfl, rfl⟩
end Go.Proofs.Ytaemndioleofjaa
