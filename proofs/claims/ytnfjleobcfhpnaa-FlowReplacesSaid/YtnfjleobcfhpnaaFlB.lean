/- Flow: lines as items. -/
import Derived.Test.YtnfjleobcfhpnaaFlA
namespace Go.Proofs.Ytnfjleobcfhpnaa
open Go.RowKit
set_option linter.unusedVariables false
def encIt (i : I7) : List Value := [.int .i64 i.tag, .int .i64 i.id, .int .i64 i.d0, .int .i64 i.d1, .int .i64 i.d2, .int .i64 i.mx, .string i.tx]
theorem encIt_len (i : I7) : (encIt i).length = 7 := rfl
theorem encIt_one (i : I7) : ∀ v ∈ encIt i, v.oneCell' = true := by
  intro v hv
  simp only [encIt, List.mem_cons, List.not_mem_nil, or_false] at hv
  rcases hv with rfl | rfl | rfl | rfl | rfl | rfl | rfl <;> rfl
theorem it_slt : SlT Try.prog 106 132 7 64 := slt_of Try.underlying106 item_info rfl (by kernel_rfl)
theorem own_formL {w : World} {base n size : Nat} {e : TypeId} {v : Value} {xs : List Value} (h : w.ownsRow base e size v n xs) : ∃ A c, v = .slice A n c := by
  rcases h.2 with ⟨rfl, rfl⟩ | ⟨g, cap, cur, rfl, _⟩
  · exact ⟨_, _, rfl⟩
  · exact ⟨_, _, rfl⟩
theorem rowsL {w : World} {A : Option Addr} {l : List Ln} (h : RowsAt encL 4 w A l) {j : Nat} (hj : j < l.length) : ∃ b off, A = some ⟨b, off, none⟩ ∧ b < w.heap.size ∧ w.cell? ⟨b, off + j * 4, none⟩ = some (.int .i64 l[j].s) ∧ w.cell? ⟨b, off + j * 4 + 1, none⟩ = some (.int .i64 l[j].b) ∧ w.cell? ⟨b, off + j * 4 + 2, none⟩ = some (.int .i64 l[j].r) ∧ w.cell? ⟨b, off + j * 4 + 3, none⟩ = some (.int .i64 l[j].wd) := by
  obtain ⟨b, off, e, h1, hc⟩ := h.at1 hj
  exact ⟨b, off, e, h1, hc 0 (by omega), hc 1 (by omega), hc 2 (by omega), hc 3 (by omega)⟩
/-- What lines as items answer. -/
def FlIts (l : List Ln) (n : Nat) (w : World) (e : Ending) (w' : World) : Prop := Below w.heap.size w w' ∧ (((∀ x ∈ l, 1 ≤ x.r) ∧ ∃ B d, e = .returned (.tuple #[.slice B n d, .int .i64 0]) ∧ ItsAt w' B (l.map itm) ∧ Caps B n d) ∨ ((¬ ∀ x ∈ l, 1 ≤ x.r) ∧ e = .returned (.tuple #[.slice none 0 0, .int .i64 1])))
set_option maxHeartbeats 4000000 in
set_option maxRecDepth 100000 in
theorem flitems (A : Option Addr) (n c : Nat) (l : List Ln) (w : World) (hA : RowsAt encL 4 w A l) (hl : l.length = n) (hn : n ≤ 30000) :
    Calls Try.prog 57 #[.slice A n c] w (FlIts l n w) := by
  have ST := it_slt
  have HA := Lib.hid hA
  have HL := Lib.hid hl
  have g1 : decide ((30000 : Int) < (n : Int)) = false := decide_eq_false (by omega)
  obtain ⟨M, hM, mk⟩ := make_items n (by omega)
  have HO0 := Lib.hid (own_make w n (by omega) M hM)
  have x0 : Below w.heap.size w (w.alloc (.cells M 132)) := (Below.refl _ _).alloc (Nat.le_refl _) _
  have X0 := Lib.hid x0
  clear hA hl hM x0
  go_enter Try.func57, Try.ntmps57
  go_wp2_with fail
  go_loopg [4, 16] n (fun g v i wr => ∃ k : Nat, i = .int .i64 k ∧ k ≤ n ∧ n - k ≤ g ∧ Hid (Below w.heap.size w wr) ∧ Hid (wr.ownsRow w.heap.size 132 7 v k (iflat ((l.take k).map itm))) ∧ Hid (∀ x ∈ l.take k, 1 ≤ x.r))
  case atStart => exact ⟨0, rfl, by omega, by omega, X0, HO0, Lib.hid (fun x hx => absurd hx (by simp))⟩
  case round =>
    clear HO0 X0
    obtain ⟨k, rfl, h1, h2, hb, hown, hok⟩ := hrel
    have hlt4 := hown.out.lt
    by_cases hlt : k < n
    · have hkl : k < l.length := by rw [HL.out]; exact hlt
      obtain ⟨bA, off, rfl, hbA, d0, d1, d2, d3⟩ := rowsL (HA.out.below hb.out) hkl
      have hmem : l[k] ∈ l := List.getElem_mem hkl
      have htk : l.take (k + 1) = l.take k ++ [l[k]] := by rw [List.take_succ_eq_append_getElem hkl]
      have HTK := Lib.hid htk
      have HMEM := Lib.hid hmem
      clear htk hmem
      generalize l[k] = a at *
      have i1 : (0 : Int) ≤ k := by omega
      have i2 : (k : Int) < n := by omega
      obtain ⟨A3, c3, rfl⟩ := own_formL hown.out
      have x4 : Below wr.heap.size wr ((wr.alloc (.cells #[.int .i64 a.s, .int .i64 a.b, .int .i64 a.r, .int .i64 a.wd] 78)).alloc (.cells #[.int .i64 0, .int .i64 0, .int .i64 a.s, .int .i64 a.b, .int .i64 a.r, .int .i64 a.wd, .string ⟨#[]⟩] 132)) := ((Below.refl _ _).alloc (Nat.le_refl _) _).alloc (by simp) _
      have HB4 := Lib.hid (hb.out.trans (x4.mono hb.out.size))
      have HO4 := own_below hown.out x4
      have hsz : ((wr.alloc (.cells #[.int .i64 a.s, .int .i64 a.b, .int .i64 a.r, .int .i64 a.wd] 78)).alloc (.cells #[.int .i64 0, .int .i64 0, .int .i64 a.s, .int .i64 a.b, .int .i64 a.r, .int .i64 a.wd, .string ⟨#[]⟩] 132)).heap.size = wr.heap.size + 2 := by simp
      by_cases g : a.r < 1
      · have k1 : decide (a.r < 1) = true := decide_eq_true g
        have HNO : Hid (¬ ∀ x ∈ l, 1 ≤ x.r) := Lib.hid fun h => by have := h a HMEM.out; omega
        clear hok hown HO4 x4 hsz hb
        go_wp2
        go_ret2
        exact ⟨HB4.out, .inr ⟨HNO.out, rfl⟩⟩
      · have k1 : decide (a.r < 1) = false := decide_eq_false g
        have HOK : Hid (∀ x ∈ l.take (k + 1), 1 ≤ x.r) := Lib.hid fun x hx => by
          rw [HTK.out] at hx
          rcases List.mem_append.1 hx with h | h
          · exact hok.out x h
          · simp at h; subst h; omega
        have x5 : Below ((wr.alloc (.cells #[.int .i64 a.s, .int .i64 a.b, .int .i64 a.r, .int .i64 a.wd] 78)).alloc (.cells #[.int .i64 0, .int .i64 0, .int .i64 a.s, .int .i64 a.b, .int .i64 a.r, .int .i64 a.wd, .string ⟨#[]⟩] 132)).heap.size ((wr.alloc (.cells #[.int .i64 a.s, .int .i64 a.b, .int .i64 a.r, .int .i64 a.wd] 78)).alloc (.cells #[.int .i64 0, .int .i64 0, .int .i64 a.s, .int .i64 a.b, .int .i64 a.r, .int .i64 a.wd, .string ⟨#[]⟩] 132)) (((wr.alloc (.cells #[.int .i64 a.s, .int .i64 a.b, .int .i64 a.r, .int .i64 a.wd] 78)).alloc (.cells #[.int .i64 0, .int .i64 0, .int .i64 a.s, .int .i64 a.b, .int .i64 a.r, .int .i64 a.wd, .string ⟨#[]⟩] 132)).alloc (.cells #[.int .i64 0, .int .i64 0, .int .i64 a.s, .int .i64 a.b, .int .i64 a.r, .int .i64 a.wd, .string ⟨#[]⟩] 132)) := (Below.refl _ _).alloc (Nat.le_refl _) _
        have R5 : RawAt 132 (((wr.alloc (.cells #[.int .i64 a.s, .int .i64 a.b, .int .i64 a.r, .int .i64 a.wd] 78)).alloc (.cells #[.int .i64 0, .int .i64 0, .int .i64 a.s, .int .i64 a.b, .int .i64 a.r, .int .i64 a.wd, .string ⟨#[]⟩] 132)).alloc (.cells #[.int .i64 0, .int .i64 0, .int .i64 a.s, .int .i64 a.b, .int .i64 a.r, .int .i64 a.wd, .string ⟨#[]⟩] 132)) ((wr.alloc (.cells #[.int .i64 a.s, .int .i64 a.b, .int .i64 a.r, .int .i64 a.wd] 78)).alloc (.cells #[.int .i64 0, .int .i64 0, .int .i64 a.s, .int .i64 a.b, .int .i64 a.r, .int .i64 a.wd, .string ⟨#[]⟩] 132)).heap.size #[.int .i64 0, .int .i64 0, .int .i64 a.s, .int .i64 a.b, .int .i64 a.r, .int .i64 a.wd, .string ⟨#[]⟩] := heap_alloc_new ((wr.alloc (.cells #[.int .i64 a.s, .int .i64 a.b, .int .i64 a.r, .int .i64 a.wd] 78)).alloc (.cells #[.int .i64 0, .int .i64 0, .int .i64 a.s, .int .i64 a.b, .int .i64 a.r, .int .i64 a.wd, .string ⟨#[]⟩] 132)) _
        have hs5 : RowsAt encIt 7 (((wr.alloc (.cells #[.int .i64 a.s, .int .i64 a.b, .int .i64 a.r, .int .i64 a.wd] 78)).alloc (.cells #[.int .i64 0, .int .i64 0, .int .i64 a.s, .int .i64 a.b, .int .i64 a.r, .int .i64 a.wd, .string ⟨#[]⟩] 132)).alloc (.cells #[.int .i64 0, .int .i64 0, .int .i64 a.s, .int .i64 a.b, .int .i64 a.r, .int .i64 a.wd, .string ⟨#[]⟩] 132)) (some ⟨((wr.alloc (.cells #[.int .i64 a.s, .int .i64 a.b, .int .i64 a.r, .int .i64 a.wd] 78)).alloc (.cells #[.int .i64 0, .int .i64 0, .int .i64 a.s, .int .i64 a.b, .int .i64 a.r, .int .i64 a.wd, .string ⟨#[]⟩] 132)).heap.size, 0, none⟩) [itm a] := rows_of_block (enc := encIt) (k := 7) encIt_len R5 (l := [itm a]) rfl
        rw [hsz] at hs5
        have HS5 := Lib.hid hs5
        have HO5 := Lib.hid (own_below HO4 x5)
        have HB5 := Lib.hid (HB4.out.trans (x5.mono HB4.out.size))
        clear x5 x4 R5 HO4 HB4 hok hs5 hsz hown hb
        go_wp2_with (at_builtin; refine wpList_appK (enc := encIt) ST encIt_len (by omega) rfl (.tmp 33) (.tmp 35) rfl (base := w.heap.size) (v := .slice A3 k c3) rfl HO5.out _ 1 1 [itm a] rfl HS5.out ⟨Nat.le_refl _, fun h => by cases h⟩ rfl (kfl_one' encIt_one _) (by simp only [maxLen]; omega) (by omega) HB5.out.size ?_; intro v6 w6 hown6 hg6 hor6; have HB6 := Lib.hid (HB5.out.grown hg6 HB5.out.size (fun j hj => (hlt4 j hj).1)); have HO6 : Hid (w6.ownsRow w.heap.size 132 7 v6 (k + 1) (iflat ((l.take (k + 1)).map itm))) := Lib.hid (by rw [HTK.out, List.map_append, iflat_append]; exact hown6); clear hown6 hg6 hor6 HO5 HS5 HB5)
        go_roundg (gk - 1)
        case measure => omega
        case rel => exact ⟨k + 1, by go_num, by omega, by omega, HB6, HO6, HOK⟩
    · obtain rfl : n = k := by omega
      have e2 : l.take n = l := List.take_of_length_le (by rw [HL.out]; exact Nat.le_refl _)
      have ho2 := hown.out
      rw [e2] at ho2
      have hk2 := hok.out
      rw [e2] at hk2
      obtain ⟨B, d, rfl, hI, _, hC⟩ := its_of_own ho2
      have HI := Lib.hid hI
      have HC := Lib.hid hC
      have HK := Lib.hid hk2
      have HB := Lib.hid hb.out
      clear ho2 hk2 hI hC hown hok hb e2
      go_wp2
      go_ret2
      exact ⟨HB.out, .inl ⟨HK.out, B, d, rfl, HI.out, HC.out⟩⟩
end Go.Proofs.Ytnfjleobcfhpnaa
