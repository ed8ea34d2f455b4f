/- Cells: the small case of the laws; what they say of parts: refs, long. -/
import Derived.Test.YtbalafgoengppaaDoorClE
namespace Go.Proofs.YtbalafgoengppaaDoor
open Go.RowKit
set_option linter.unusedVariables false
/-- The document's part is, cell by cell, the program's. -/
theorem rpart_info : (Tryd.prog.info? 82).map (fun i => (i.zero, i.size, i.bytes)) = some (some (.agg #[.int .i64 0, .int .i64 0, .slice none 0 0]), 3, 40) := by kernel_rfl
theorem rpart_slt : SlT Tryd.prog 50 82 3 40 := slt_of Tryd.underlying50 rpart_info rfl (by kernel_rfl)
theorem ptcs_len (s : PtV) : (ptcs s).length = 3 := rfl
theorem ptcs_one (s : PtV) : ∀ v ∈ ptcs s, v.oneCell' = true := by intro v hv; simp [ptcs] at hv; rcases hv with rfl | rfl | rfl <;> rfl
set_option maxHeartbeats 4000000 in
set_option maxRecDepth 100000 in
theorem refs18_any (A : Option Addr) (n c : Nat) (l : List PtV) (w : World) (hA : RowsAt ptcs 3 w A l) (hl : l.length = n) (hn : n ≤ 1000000) :
    Calls Tryd.prog 27 #[.slice A n c] w fun e w' => ∃ A' c', e = .returned (.slice A' n c') ∧ RowsAt ptcs 3 w' A' l ∧ Below w.heap.size w w' := by
  have HA := Lib.hid hA
  have HL := Lib.hid hl
  clear hA hl
  go_enter Tryd.func27, Tryd.ntmps27
  go_wp2_with fail
  go_loopg [3, 5, 8] n (fun g a x i wr => ∃ (j : Nat) (u : Value), i = .int .i64 j ∧ j ≤ n ∧ n - j ≤ g ∧ u = a ∧ Hid (Below w.heap.size w wr) ∧ Hid (wr.ownsRow w.heap.size 82 3 u j (kfl ptcs (l.take j))))
  case atStart => exact ⟨0, _, rfl, by omega, by omega, rfl, Lib.hid (Below.refl _ _), Lib.hid ⟨rfl, .inl ⟨rfl, rfl⟩⟩⟩
  case round =>
    obtain ⟨j, v, rfl, h1, h2, rfl, hb, hown⟩ := hrel
    by_cases hlt : j < n
    · have hjl : j < l.length := by rw [HL.out]; exact hlt
      obtain ⟨bA, off, rfl, hbA, d0, d1, d2⟩ := (HA.out.below hb.out).part3 hjl
      have HTK := Lib.hid (List.take_succ_eq_append_getElem hjl)
      generalize l[j] = o at *
      have i1 : (0 : Int) ≤ j := by omega
      have i2 : (j : Int) < n := by omega
      have x3 : Below wr.heap.size wr ((wr.alloc (.cells #[.int .i64 o.k, .int .i64 o.p, .slice o.A o.n o.c] 64)).alloc (.cells #[.int .i64 o.k, .int .i64 o.p, .slice o.A o.n o.c] 82)) := ((Below.refl _ _).alloc (Nat.le_refl _) _).alloc (by simp) _
      have HOW := Lib.hid (own_below hown.out x3)
      have HB3 := Lib.hid (hb.out.trans (x3.mono hb.out.size))
      have HBB := Lib.hid hb.out.size
      have HRW : Hid (RowsAt ptcs 3 ((wr.alloc (.cells #[.int .i64 o.k, .int .i64 o.p, .slice o.A o.n o.c] 64)).alloc (.cells #[.int .i64 o.k, .int .i64 o.p, .slice o.A o.n o.c] 82)) (some ⟨wr.heap.size + 1, 0, none⟩) [o]) := Lib.hid (by
        have := row_new ptcs_len (wr.alloc (.cells #[.int .i64 o.k, .int .i64 o.p, .slice o.A o.n o.c] 64)) [o] #[.int .i64 o.k, .int .i64 o.p, .slice o.A o.n o.c] 82 rfl
        rwa [show (wr.alloc (.cells #[.int .i64 o.k, .int .i64 o.p, .slice o.A o.n o.c] 64)).heap.size = wr.heap.size + 1 from by simp] at this)
      clear hown hb x3
      go_wp2_with (at_builtin; go_loud (refine wpList_appK (enc := ptcs) rpart_slt ptcs_len (by omega) rfl (.tmp 12) (.tmp 20) rfl rfl HOW.out (some ⟨wr.heap.size + 1, 0, none⟩) 1 1 [o] rfl HRW.out ⟨Nat.le_refl _, fun h => by cases h⟩ rfl (kfl_one' ptcs_one _) (by simp only [maxLen]; omega) (by omega) (by have := HBB.out; simp; omega) ?_; intro v5 w5 hown5 hg5 hn5))
      have HO5 := Lib.hid hown5
      have HB5 := Lib.hid (HB3.out.grown hg5 (by have := HBB.out; simp; omega) (fun k hk => (HOW.out.lt k hk).1))
      clear hown5 hg5 hn5
      go_roundg (gk - 1)
      case measure => omega
      case rel => exact ⟨j + 1, _, by go_num, by omega, by omega, rfl, HB5, Lib.hid (by have := HO5.out; rw [← kfl_append, ← HTK.out] at this; exact this)⟩
    · obtain rfl : j = n := by omega
      have h5 := hown.out
      rw [List.take_of_length_le (by rw [HL.out]; exact Nat.le_refl _)] at h5
      obtain ⟨A5, c5, rfl, hR5, _, _⟩ := rows_of_own ptcs_len (by omega) h5
      have H5 := Lib.hid hR5
      clear h5 hown hR5
      go_wp2
      go_ret
      exact ⟨_, _, rfl, H5.out, hb.out⟩
/-- What is not long: few parts, of few runes, at places that are some. -/
def ShortP (l : List PtV) : Prop := l.length ≤ 60 ∧ (∀ s ∈ l, s.n ≤ 300 ∧ 0 ≤ s.p ∧ s.p ≤ 1099511627776) ∧ (l.map (·.n)).sum ≤ 600
set_option maxHeartbeats 4000000 in
set_option maxRecDepth 100000 in
theorem long18_any (A : Option Addr) (n c : Nat) (l : List PtV) (b : Bool) (w : World) (hA : RowsAt ptcs 3 w A l) (hl : l.length = n) (hb : b = true ↔ ¬ ShortP l) :
    Calls Tryd.prog 23 #[.slice A n c] w fun e w' => e = .returned (.bool b) ∧ Below w.heap.size w w' := by
  have HB := Lib.hid hb
  have HA := Lib.hid hA
  have HL := Lib.hid hl
  clear hA hl hb
  have BT : Hid (¬ ShortP l → b = true) := Lib.hid HB.out.2
  have BF : Hid (ShortP l → b = false) := Lib.hid fun h => by cases b; rfl; exact absurd h (HB.out.1 rfl)
  clear HB
  by_cases g1 : 60 < n
  · have k1 : decide ((60 : Int) < (n : Int)) = true := decide_eq_true (by omega)
    have k2 : decide (60 < n) = true := decide_eq_true g1
    have hbt : b = true := BT.out fun h => by have := h.1; rw [HL.out] at this; omega
    subst hbt
    go_enter Tryd.func23, Tryd.ntmps23
    go_wp2
    go_ret
    exact ⟨rfl, Below.refl _ _⟩
  · have k1 : decide ((60 : Int) < (n : Int)) = false := decide_eq_false (by omega)
    have k2 : decide (60 < n) = false := decide_eq_false g1
    go_enter Tryd.func23, Tryd.ntmps23
    go_wp2_with fail
    go_loopg [3, 5, 11] n (fun g s x i wr => ∃ (j t : Nat), i = .int .i64 j ∧ s = .int .i64 (t : Int) ∧ j ≤ n ∧ n - j ≤ g ∧ t ≤ 300 * j ∧ Hid (t = ((l.take j).map (·.n)).sum) ∧ Hid (∀ s ∈ l.take j, s.n ≤ 300 ∧ 0 ≤ s.p ∧ s.p ≤ 1099511627776) ∧ Hid (Below w.heap.size w wr))
    case atStart => exact ⟨0, 0, rfl, rfl, by omega, by omega, by omega, Lib.hid (by simp), Lib.hid (fun s hs => absurd hs (by simp)), Lib.hid (Below.refl _ _)⟩
    case round =>
      obtain ⟨j, t, rfl, rfl, h1, h2, h3, ht, hs, hb⟩ := hrel
      by_cases hlt : j < n
      · have hjl : j < l.length := by rw [HL.out]; exact hlt
        obtain ⟨bA, off, rfl, hbA, d0, d1, d2⟩ := (HA.out.below hb.out).part3 hjl
        have htk := List.take_succ_eq_append_getElem hjl
        have HT2 : Hid (t + l[j].n = ((l.take (j + 1)).map (·.n)).sum) := Lib.hid (by rw [htk, List.map_append, List.sum_append, ← ht.out]; simp)
        have HBAD : Hid (¬ (l[j].n ≤ 300 ∧ 0 ≤ l[j].p ∧ l[j].p ≤ 1099511627776) → b = true) := Lib.hid fun h => BT.out fun hS => h (hS.2.1 _ (List.getElem_mem hjl))
        have HTK := Lib.hid htk
        clear htk
        generalize l[j] = o at *
        have i1 : (0 : Int) ≤ j := by omega
        have i2 : (j : Int) < n := by omega
        have x3 : Below wr.heap.size wr (wr.alloc (.cells #[.int .i64 o.k, .int .i64 o.p, .slice o.A o.n o.c] 64)) := (Below.refl _ _).alloc (Nat.le_refl _) _
        have HB3 := Lib.hid (hb.out.trans (x3.mono hb.out.size))
        clear x3 hb
        by_cases q1 : 300 < o.n
        · have hbt : b = true := HBAD.out (by omega)
          subst hbt
          have k3 : decide ((300 : Int) < (o.n : Int)) = true := decide_eq_true (by omega)
          have k4 : decide (300 < o.n) = true := decide_eq_true q1
          go_wp2
          go_ret
          exact ⟨rfl, HB3.out⟩
        · have k3 : decide ((300 : Int) < (o.n : Int)) = false := decide_eq_false (by omega)
          have k4 : decide (300 < o.n) = false := decide_eq_false q1
          by_cases q2 : o.p < 0
          · have hbt : b = true := HBAD.out (by omega)
            subst hbt
            have k5 : decide (o.p < 0) = true := decide_eq_true q2
            go_wp2
            go_ret
            exact ⟨rfl, HB3.out⟩
          · have k5 : decide (o.p < 0) = false := decide_eq_false q2
            by_cases q3 : 1099511627776 < o.p
            · have hbt : b = true := HBAD.out (by omega)
              subst hbt
              have k6 : decide (1099511627776 < o.p) = true := decide_eq_true q3
              go_wp2
              go_ret
              exact ⟨rfl, HB3.out⟩
            · have k6 : decide (1099511627776 < o.p) = false := decide_eq_false q3
              have HS2 : Hid (∀ s ∈ l.take (j + 1), s.n ≤ 300 ∧ 0 ≤ s.p ∧ s.p ≤ 1099511627776) := Lib.hid (by
                rw [HTK.out]
                intro s h
                rcases List.mem_append.1 h with h | h
                · exact hs.out s h
                · rw [List.mem_singleton.1 h]; omega)
              have h4 : t + o.n ≤ 300 * (j + 1) := by omega
              clear hs HBAD
              go_wp2
              go_roundg (gk - 1)
              case measure => omega
              case rel => exact ⟨j + 1, t + o.n, by go_num, by go_num, by omega, by omega, h4, HT2, HS2, HB3⟩
      · obtain rfl : j = n := by omega
        have e1 : l.take j = l := List.take_of_length_le (by rw [HL.out]; exact Nat.le_refl _)
        have h5 := ht.out
        have h6 := hs.out
        rw [e1] at h5 h6
        have HSP : Hid (600 < t ↔ ¬ ShortP l) := Lib.hid ⟨fun h hS => by have := hS.2.2; omega, fun h => by
          by_cases h7 : t ≤ 600
          · exact absurd ⟨by rw [HL.out]; omega, h6, by omega⟩ h
          · omega⟩
        clear h5 h6 hs ht
        by_cases q : 600 < t
        · have k3 : decide ((600 : Int) < (t : Int)) = true := decide_eq_true (by omega)
          have k4 : decide (600 < t) = true := decide_eq_true q
          have hbt : b = true := BT.out (HSP.out.1 q)
          subst hbt
          go_wp2
          go_ret
          exact ⟨rfl, hb.out⟩
        · have k3 : decide ((600 : Int) < (t : Int)) = false := decide_eq_false (by omega)
          have k4 : decide (600 < t) = false := decide_eq_false q
          have hbt : b = false := BF.out (Classical.byContradiction fun h => q (HSP.out.2 h))
          subst hbt
          go_wp2
          go_ret
          exact ⟨rfl, hb.out⟩
end Go.Proofs.YtbalafgoengppaaDoor
