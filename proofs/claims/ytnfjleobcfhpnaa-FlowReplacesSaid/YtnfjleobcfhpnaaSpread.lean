/- The parts of a row: the contracts of tree.spread at items and at nodes. -/
import Derived.Test.YtnfjleobcfhpnaaClone
import Derived.Deep.RegionHeld3
import Derived.Deep.AppendLies
namespace Go.Proofs.Ytnfjleobcfhpnaa
open Go.RowKit
/-- Where a part begins. -/
def cutAt (n m k : Nat) : Nat := k * n / m
theorem nat_quo (x m : Nat) (hx : x < 9223372036854775808) : (x : Int) / (m : Int) = ((x / m : Nat) : Int) ∧ Int.tdiv (x : Int) (m : Int) = ((x / m : Nat) : Int) ∧ IntKind.i64.wrap (((x / m : Nat) : Int)) = ((x / m : Nat) : Int) := by
  have h1 : (x / m : Nat) ≤ x := Nat.div_le_self x m
  refine ⟨by simp, by rw [Int.ofNat_tdiv], ?_⟩
  generalize x / m = q at *
  exact IntWalk.i64_in _ (by omega)
theorem item_slice_info : (Try.prog.info? 106).map (fun i => (i.zero, i.size, i.bytes)) = some (some (.slice none 0 0), 1, 24) := by kernel_rfl
def part7 (A : Option Addr) (n c m k : Nat) : Value := .slice (A.map (·.add (cutAt n m k * 7))) (cutAt n m (k + 1) - cutAt n m k) (c - cutAt n m k)
theorem cutAt_le (n m k : Nat) (h : k ≤ m) : cutAt n m k ≤ n := by
  unfold cutAt
  rcases Nat.eq_zero_or_pos m with rfl | hm
  · simp
  · exact Nat.div_le_of_le_mul (Nat.mul_le_mul_right n h)
theorem cutAt_mono (n m k : Nat) : cutAt n m k ≤ cutAt n m (k + 1) := Nat.div_le_div_right (Nat.mul_le_mul_right n (Nat.le_succ k))
theorem cutAt_lt (n m k : Nat) (h : 0 < m) (h2 : m ≤ n) : cutAt n m k < cutAt n m (k + 1) := by
  unfold cutAt
  have e : (k * n + m) / m = k * n / m + 1 := Nat.add_div_right _ h
  have h3 : (k * n + m) / m ≤ (k + 1) * n / m := Nat.div_le_div_right (by rw [Nat.succ_mul]; omega)
  omega
set_option maxHeartbeats 4000000 in
set_option maxRecDepth 100000 in
theorem spreadI_any (A : Option Addr) (n c m : Nat) (w : World) (hc : Caps A n c) (hn : n ≤ 100000) (hm : m = (n + 7) / 8) :
    Calls Try.prog 121 #[.slice A n c] w fun e w' => ∃ P cp, e = .returned (.slice P m cp) ∧ Below w.heap.size w w' ∧ VsAt w' P ((List.range m).map (part7 A n c m)) ∧ Caps P m cp := by
  obtain ⟨i0, hi0, hz0, hz1, hz2⟩ := info_parts item_slice_info
  obtain ⟨i1, hi1, _, _, _⟩ := info_parts item_info
  have hM : ((n : Int) + 8 - 1) / 8 = (m : Int) := by omega
  have hm1 : m ≤ 100000 := by omega
  have HM := Lib.hid hm; clear hm
  go_enter Try.func121, Try.ntmps121
  go_wp2
  rw [hM]
  clear hM
  go_loopg [4, 12] m (fun k v i wr => ∃ j : Nat, i = .int .i64 j ∧ j ≤ m ∧ m - j ≤ k ∧ Below w.heap.size w wr ∧ Hid (wr.ownsRow w.heap.size 106 1 v j ((List.range j).map (part7 A n c m))))
  case atStart => exact ⟨0, rfl, by omega, by omega, Below.refl _ _, World.ownsRow_nil _ _ _ _⟩
  case round =>
    obtain ⟨j, rfl, h1, h2, hb, hown⟩ := hrel
    have hsz := hb.size
    by_cases hlt : j < m
    · have k1 := cutAt_mono n m j
      have k2 := cutAt_le n m (j + 1) hlt
      have hm0 : ((m : Int) = 0) = False := by simp; omega
      obtain ⟨x, hx⟩ : ∃ x : Nat, x = j * n := ⟨_, rfl⟩
      obtain ⟨y, hy⟩ : ∃ y : Nat, y = (j + 1) * n := ⟨_, rfl⟩
      have hbx : x ≤ 10000000000 := by rw [hx]; exact Nat.mul_le_mul (show j ≤ 100000 by omega) hn
      have hby : y ≤ 10000000000 := by rw [hy]; exact Nat.mul_le_mul (show j + 1 ≤ 100000 by omega) hn
      have q1 : IntKind.i64.wrap ((j : Int) * (n : Int)) = (x : Int) := by
        rw [show (j : Int) * (n : Int) = (x : Int) by rw [hx]; push_cast; rfl]
        exact IntWalk.i64_in _ (by omega)
      have q2 : IntKind.i64.wrap (((j : Int) + 1) * (n : Int)) = (y : Int) := by
        rw [show ((j : Int) + 1) * (n : Int) = (y : Int) by rw [hy]; push_cast; rfl]
        exact IntWalk.i64_in _ (by omega)
      have hm0 : ¬ m = 0 := by omega
      have q0 : IntKind.i64.wrap ((j : Int) + 1) = (j : Int) + 1 := IntWalk.i64_in _ (by omega)
      have k3 : cutAt n m (j + 1) ≤ c := by have := hc.1; omega
      have d1 : IntKind.i64.wrap ((x : Int) / (m : Int)) = ((cutAt n m j : Nat) : Int) := by
        obtain ⟨e1, _, e3⟩ := nat_quo x m (by omega)
        rw [e1, e3, hx]; rfl
      have d2 : IntKind.i64.wrap ((y : Int) / (m : Int)) = ((cutAt n m (j + 1) : Nat) : Int) := by
        obtain ⟨e1, _, e3⟩ := nat_quo y m (by omega)
        rw [e1, e3, hy]; rfl
      clear hx hy
      have k4 := cutAt_lt n m j (by omega) (by have := HM.out; omega)
      have k5 : ¬ c = cutAt n m j := by omega
      generalize hlo : cutAt n m j = lo at *
      generalize hhi : cutAt n m (j + 1) = hi at *
      have HPA := Lib.hid (show part7 A n c m j = .slice (A.map (·.add (lo * 7))) (hi - lo) (c - lo) by unfold part7; rw [hlo, hhi])
      clear hlo hhi
      have i1 : (0 : Int) ≤ (lo : Int) := by omega
      have i2 : (0 : Int) ≤ (hi : Int) := by omega
      have i3 : (lo : Int) ≤ (hi : Int) := by omega
      have i4 : (hi : Int) ≤ (c : Int) := by omega
      have i5 : ¬ (c - lo = 0) := by omega
      have HP := Lib.hid (show (List.range (j + 1)).map (part7 A n c m) = (List.range j).map (part7 A n c m) ++ [.slice (A.map (·.add (lo * 7))) (hi - lo) (c - lo)] by rw [List.range_succ, List.map_append]; show _ ++ [part7 A n c m j] = _; rw [HPA.out])
      generalize hls : (List.range j).map (part7 A n c m) = ls at *
      clear hls
      go_wp2_with fail
      go_region_held3 (fun W => True) (exact True.intro)
        ((refine step_append_lies _ (by rfl) _ _ _ (by rfl) w.heap.size 106 i0 _ 1 24 Try.underlying196 hi0 hz0 hz1 hz2 rfl (by omega) u4 j ls (by rfl) ((hown.out.alloc _).drew) ⟨wr.heap.size, 0, none⟩ 1 1 [.slice (A.map (·.add (lo * 7))) (hi - lo) (c - lo)] (by rfl) (by rfl) (World.news_of_block (cs := #[.slice (A.map (·.add (lo * 7))) (hi - lo) (c - lo)]) (t := 106) (fr := (0, 0)) (heap_alloc_new wr _)) (by simp [Value.oneCell']) (by omega) (by unfold maxLen; omega) (by omega) (by simp; omega) (wr.heap.size + 1) (by simp) ?_; intro gg cap w4 hown4 hg4 hat hlt4))
      have hb4 : Below w.heap.size w w4 := ((hb.alloc hsz _).drew).grown hg4 (by simp; omega) (fun k hk => (hown.out.lt k hk).1)
      go_wp2
      go_roundg (gk - 1)
      case measure => omega
      case rel => exact ⟨j + 1, by go_num, by omega, by omega, hb4, by rw [HP.out]; exact hown4⟩
    · have hj : j = m := by omega
      subst hj
      obtain ⟨A2, c2, rfl, hI, hl2, hcap⟩ := vs_of_own hown.out
      have HI := Lib.hid hI; clear hI
      have HCP := Lib.hid hcap; clear hcap
      clear hown hl2
      go_wp2
      go_ret
      exact ⟨A2, c2, rfl, hb, HI.out, HCP.out⟩
theorem node_slice_info : (Try.prog.info? 168).map (fun i => (i.zero, i.size, i.bytes)) = some (some (.slice none 0 0), 1, 24) := by kernel_rfl
def part1 (A : Option Addr) (n c m k : Nat) : Value := .slice (A.map (·.add (cutAt n m k))) (cutAt n m (k + 1) - cutAt n m k) (c - cutAt n m k)
set_option maxHeartbeats 4000000 in
set_option maxRecDepth 100000 in
theorem spreadV_any (A : Option Addr) (n c m : Nat) (w : World) (hc : Caps A n c) (hn : n ≤ 100000) (hm : m = (n + 7) / 8) :
    Calls Try.prog 122 #[.slice A n c] w fun e w' => ∃ P cp, e = .returned (.slice P m cp) ∧ Below w.heap.size w w' ∧ VsAt w' P ((List.range m).map (part1 A n c m)) ∧ Caps P m cp := by
  obtain ⟨i0, hi0, hz0, hz1, hz2⟩ := info_parts node_slice_info
  obtain ⟨i1, hi1, _, _, _⟩ := info_parts node_info
  have hM : ((n : Int) + 8 - 1) / 8 = (m : Int) := by omega
  have hm1 : m ≤ 100000 := by omega
  have HM := Lib.hid hm; clear hm
  go_enter Try.func122, Try.ntmps122
  go_wp2
  rw [hM]
  clear hM
  go_loopg [4, 12] m (fun k v i wr => ∃ j : Nat, i = .int .i64 j ∧ j ≤ m ∧ m - j ≤ k ∧ Below w.heap.size w wr ∧ Hid (wr.ownsRow w.heap.size 168 1 v j ((List.range j).map (part1 A n c m))))
  case atStart => exact ⟨0, rfl, by omega, by omega, Below.refl _ _, World.ownsRow_nil _ _ _ _⟩
  case round =>
    obtain ⟨j, rfl, h1, h2, hb, hown⟩ := hrel
    have hsz := hb.size
    by_cases hlt : j < m
    · have k1 := cutAt_mono n m j
      have k2 := cutAt_le n m (j + 1) hlt
      have hm0 : ((m : Int) = 0) = False := by simp; omega
      obtain ⟨x, hx⟩ : ∃ x : Nat, x = j * n := ⟨_, rfl⟩
      obtain ⟨y, hy⟩ : ∃ y : Nat, y = (j + 1) * n := ⟨_, rfl⟩
      have hbx : x ≤ 10000000000 := by rw [hx]; exact Nat.mul_le_mul (show j ≤ 100000 by omega) hn
      have hby : y ≤ 10000000000 := by rw [hy]; exact Nat.mul_le_mul (show j + 1 ≤ 100000 by omega) hn
      have q1 : IntKind.i64.wrap ((j : Int) * (n : Int)) = (x : Int) := by
        rw [show (j : Int) * (n : Int) = (x : Int) by rw [hx]; push_cast; rfl]
        exact IntWalk.i64_in _ (by omega)
      have q2 : IntKind.i64.wrap (((j : Int) + 1) * (n : Int)) = (y : Int) := by
        rw [show ((j : Int) + 1) * (n : Int) = (y : Int) by rw [hy]; push_cast; rfl]
        exact IntWalk.i64_in _ (by omega)
      have hm0 : ¬ m = 0 := by omega
      have q0 : IntKind.i64.wrap ((j : Int) + 1) = (j : Int) + 1 := IntWalk.i64_in _ (by omega)
      have k3 : cutAt n m (j + 1) ≤ c := by have := hc.1; omega
      have d1 : IntKind.i64.wrap ((x : Int) / (m : Int)) = ((cutAt n m j : Nat) : Int) := by
        obtain ⟨e1, _, e3⟩ := nat_quo x m (by omega)
        rw [e1, e3, hx]; rfl
      have d2 : IntKind.i64.wrap ((y : Int) / (m : Int)) = ((cutAt n m (j + 1) : Nat) : Int) := by
        obtain ⟨e1, _, e3⟩ := nat_quo y m (by omega)
        rw [e1, e3, hy]; rfl
      clear hx hy
      have k4 := cutAt_lt n m j (by omega) (by have := HM.out; omega)
      have k5 : ¬ c = cutAt n m j := by omega
      generalize hlo : cutAt n m j = lo at *
      generalize hhi : cutAt n m (j + 1) = hi at *
      have HPA := Lib.hid (show part1 A n c m j = .slice (A.map (·.add lo)) (hi - lo) (c - lo) by unfold part1; rw [hlo, hhi])
      clear hlo hhi
      have i1 : (0 : Int) ≤ (lo : Int) := by omega
      have i2 : (0 : Int) ≤ (hi : Int) := by omega
      have i3 : (lo : Int) ≤ (hi : Int) := by omega
      have i4 : (hi : Int) ≤ (c : Int) := by omega
      have i5 : ¬ (c - lo = 0) := by omega
      have HP := Lib.hid (show (List.range (j + 1)).map (part1 A n c m) = (List.range j).map (part1 A n c m) ++ [.slice (A.map (·.add lo)) (hi - lo) (c - lo)] by rw [List.range_succ, List.map_append]; show _ ++ [part1 A n c m j] = _; rw [HPA.out])
      generalize hls : (List.range j).map (part1 A n c m) = ls at *
      clear hls
      go_wp2_with fail
      go_region_held3 (fun W => True) (exact True.intro)
        ((refine step_append_lies _ (by rfl) _ _ _ (by rfl) w.heap.size 168 i0 _ 1 24 Try.underlying198 hi0 hz0 hz1 hz2 rfl (by omega) u4 j ls (by rfl) ((hown.out.alloc _).drew) ⟨wr.heap.size, 0, none⟩ 1 1 [.slice (A.map (·.add lo)) (hi - lo) (c - lo)] (by rfl) (by rfl) (World.news_of_block (cs := #[.slice (A.map (·.add lo)) (hi - lo) (c - lo)]) (t := 168) (fr := (0, 0)) (heap_alloc_new wr _)) (by simp [Value.oneCell']) (by omega) (by unfold maxLen; omega) (by omega) (by simp; omega) (wr.heap.size + 1) (by simp) ?_; intro gg cap w4 hown4 hg4 hat hlt4))
      have hb4 : Below w.heap.size w w4 := ((hb.alloc hsz _).drew).grown hg4 (by simp; omega) (fun k hk => (hown.out.lt k hk).1)
      go_wp2
      go_roundg (gk - 1)
      case measure => omega
      case rel => exact ⟨j + 1, by go_num, by omega, by omega, hb4, by rw [HP.out]; exact hown4⟩
    · have hj : j = m := by omega
      subst hj
      obtain ⟨A2, c2, rfl, hI, hl2, hcap⟩ := vs_of_own hown.out
      have HI := Lib.hid hI; clear hI
      have HCP := Lib.hid hcap; clear hcap
      clear hown hl2
      go_wp2
      go_ret
      exact ⟨A2, c2, rfl, hb, HI.out, HCP.out⟩
end Go.Proofs.Ytnfjleobcfhpnaa
