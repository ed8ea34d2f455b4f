/- The contract of the law's own sum: the document's answer for items. -/
import Derived.Test.YtajjodooojhhcaaRefAll
import Derived.Test.YtajjodooojhhcaaItOwn
namespace Go.Proofs.Ytajjodooojhhcaa
open Go.RowKit
theorem news_new (w : World) (t : TypeId) (x : I7) : ∀ (j : Nat) (u : Value), (iflat [x])[j]? = some u → (w.alloc (.cells (ics x) t)).cell? ((⟨w.heap.size, 0, none⟩ : Addr).add j) = some u := by
  intro j u hu
  rw [Go.WideShapes.add_plain, cell_of_row _ _ _ _ t _ (heap_alloc_new w _), Nat.zero_add, ← Array.getElem?_toList]
  exact hu
set_option maxHeartbeats 4000000 in
set_option maxRecDepth 100000 in
theorem isum_any (A : Option Addr) (n c : Nat) (l : List I7) (w : World) (hA : ItsAt w A l) (hl : l.length = n) (hn : n ≤ 100000) (ho : Okl l) :
    Calls Try.prog 24 #[.slice A n c] w fun e w' => e = .returned (.agg (scs (sall l))) ∧ Below w.heap.size w w' := by
  obtain ⟨i0, hi0, hz0, hz1, hz2⟩ := info_parts ritem_info
  have HA := Lib.hid hA; clear hA
  have HL := Lib.hid hl; clear hl
  have HO := Lib.hid ho; clear ho
  go_enter Try.func24, Try.ntmps24
  go_wp2
  have hb0 : Below w.heap.size w (w.alloc (.cells (scs s0) 51)) := (Below.refl _ _).alloc (Nat.le_refl _) _
  have HR := Lib.hid (show RawAt 51 (w.alloc (.cells (scs s0) 51)) w.heap.size (scs s0) from heap_alloc_new w _)
  change Code.wp _ _ _ _ (w.alloc (.cells (scs s0) 51))
  have hs1 : (w.alloc (.cells (scs s0) 51)).heap.size = w.heap.size + 1 := by simp
  generalize (w.alloc (.cells (scs s0) 51)) = W1 at *
  have HS := Lib.hid hs1; clear hs1
  go_loopg [3, 8] n (fun k v i wr => ∃ j : Nat, i = .int .i64 j ∧ j ≤ n ∧ n - j ≤ k ∧ Below (w.heap.size + 1) W1 wr ∧ Hid (wr.ownsRow (w.heap.size + 1) 45 7 v j (iflat (l.take j))))
  case atStart => exact ⟨0, rfl, by omega, by omega, Below.refl _ _, World.ownsRow_nil _ _ _ _⟩
  case round =>
    obtain ⟨j, rfl, h1, h2, hb, hown⟩ := hrel
    have hsz : w.heap.size + 1 ≤ wr.heap.size := by have := HS.out; have := hb.size; omega
    have hbw := hb0.trans (hb.mono (Nat.le_succ _))
    by_cases hlt : j < n
    · have hm : j < l.length := by rw [HL.out]; exact hlt
      obtain ⟨b, off, rfl, hbs, hc⟩ := HA.out (by omega)
      obtain ⟨e0, e1, e2, e3, e4, e5, e6⟩ := hc j hm
      clear hc
      obtain ⟨H1, H2⟩ := old_cells hbw
      have HT := Lib.hid (take_ith l hm)
      have CR : Hid (∀ (W : World), Calls Try.prog 19 #[.agg #[.int .i64 (ith l j).tag, .int .i64 (ith l j).id, .int .i64 (ith l j).d0, .int .i64 (ith l j).d1, .int .i64 (ith l j).d2, .int .i64 (ith l j).mx, .string (ith l j).tx]] W fun e w' => e = .returned (.agg #[.int .i64 (ith l j).tag, .int .i64 (ith l j).id, .int .i64 (ith l j).d0, .int .i64 (ith l j).d1, .int .i64 (ith l j).d2, .int .i64 (ith l j).mx, .string (ith l j).tx]) ∧ Below W.heap.size W w') := fun W => iref_any _ W
      generalize ith l j = x at *
      go_wp2_with fail
      refine (CR.out _).mono ?_
      rintro e w1 ⟨rfl, hb1⟩
      have a1 : Below wr.heap.size wr w1 := ((Below.refl _ _).alloc (Nat.le_refl _) (.cells (ics x) 41)).trans (hb1.mono (by simp))
      have hown1 := own_below hown.out a1
      have a2 := hb.trans (a1.mono hsz)
      have hz1' : w.heap.size + 1 ≤ w1.heap.size := Nat.le_trans hsz a1.size
      go_wp2_with (at_builtin; refine wpList_append_own _ rfl (.tmp 12) (.tmp 15) _ rfl (w.heap.size + 1) 45 i0 _ 7 64 Try.underlying66 hi0 hz0 hz1 hz2 rfl (by omega) _ j (iflat (l.take j)) rfl (hown1.alloc _) ⟨w1.heap.size, 0, none⟩ 1 1 (iflat [x]) rfl (by simp [iflat]) (news_new w1 _ x) (iflat_one _) (by simp only [maxLen]; omega) (by omega) (by simp; omega) ?_; intro v4 w4 hown4 hg4 hnil4; clear hnil4)
      have hb4 : Below (w.heap.size + 1) W1 w4 := (a2.alloc hz1' _).grown hg4 (by simp; omega) (fun k hk => (hown1.lt k hk).1)
      go_roundg (gk - 1)
      case measure => omega
      case rel => exact ⟨j + 1, by go_num, by omega, by omega, hb4, by rw [HT.out, iflat_append]; exact hown4⟩
    · have hj : j = n := by omega
      rw [List.take_of_length_le (by rw [HL.out]; omega)] at hown
      obtain ⟨A2, c2, rfl, hI, hl2, _⟩ := its_of_own hown.out
      have HI := Lib.hid hI; clear hI
      have HL2 := Lib.hid hl2; clear hl2 hown
      have HJ := Lib.hid hj; clear hj
      go_wp2_with fail
      refine (rall_any A2 j c2 l _ HI.out HL2.out (by omega) HO.out).mono ?_
      rintro e w1 ⟨rfl, hb1⟩
      have hr1 := RawAt.below (HR.out.below hb (Nat.lt_succ_self _)) hb1 (by omega)
      obtain ⟨r0, r1, r2, r3, r4, r5⟩ := raw_scs hr1
      have f0 := hr1.free 0
      have f1 := hr1.free 1
      have f2 := hr1.free 2
      have f3 := hr1.free 3
      have f4 := hr1.free 4
      have f5 := hr1.free 5
      have hbf := hbw.trans (hb1.mono hbw.size)
      unfold scs
      go_wp2
      refine bodyPost_ret (v := .agg (scs (sall l))) ?_ rfl ⟨rfl, ?_⟩
      · simp [results, Try.results24, go_sem, scs, r0, r1, r2, r3, r4, r5]
      · exact (((((hbf.setCell (p := ⟨w.heap.size, _, none⟩) (Nat.le_refl _) _).setCell (p := ⟨w.heap.size, _, none⟩) (Nat.le_refl _) _).setCell (p := ⟨w.heap.size, _, none⟩) (Nat.le_refl _) _).setCell (p := ⟨w.heap.size, _, none⟩) (Nat.le_refl _) _).setCell (p := ⟨w.heap.size, _, none⟩) (Nat.le_refl _) _).setCell (p := ⟨w.heap.size, _, none⟩) (Nat.le_refl _) _
end Go.Proofs.Ytajjodooojhhcaa
