/- Patches: what two patches keep: the contracts of the closures of keptByBoth. -/
import Derived.Test.YthbhjecfiiknaaaPtK
namespace Go.Proofs.Ythbhjecfiiknaaa
open Go.RowKit
set_option linter.unusedVariables false
/-- Pieces as values. -/
def pflat (l : List Pc) : List Value := l.flatMap fun x => [.int .i64 x.o, .int .i64 x.w, .int .i64 x.n]
theorem pflat_append (a b : List Pc) : pflat (a ++ b) = pflat a ++ pflat b := by simp [pflat]
theorem pflat_length (o : List Pc) : (pflat o).length = o.length * 3 := by
  induction o with
  | nil => rfl
  | cons x o ih => rw [show pflat (x :: o) = [.int .i64 x.o, .int .i64 x.w, .int .i64 x.n] ++ pflat o from rfl, List.length_append, ih, List.length_cons]; simp; omega
theorem piece_info : (Try.prog.info? 76).map (fun i => (i.zero, i.size, i.bytes)) = some (some (.agg #[.int .i64 0, .int .i64 0, .int .i64 0]), 3, 24) := by kernel_rfl
/-- What the closure that gathers the second patch's pieces has: the variable rest in block b, its row behind it. -/
structure GAt (w0 : World) (b : Nat) (d : List Pc) (W : World) : Prop where
  ex : ∃ v, RawAt 79 W b #[v] ∧ W.ownsRow (b + 1) 76 3 v d.length (pflat d)
  on : OnT [79, 76] w0 W
  below : Below b w0 W
set_option maxHeartbeats 4000000 in
set_option maxRecDepth 100000 in
theorem gath_any (w0 : World) (b : Nat) (hb0 : b < w0.heap.size) (d : List Pc) (x : Pc) (W : World) (hd : d.length ≤ 1000000) (h : GAt w0 b d W) :
    Calls Try.prog 48 #[.agg #[.int .i64 x.o, .int .i64 x.w, .int .i64 x.n], .pointer (some ⟨b, 0, none⟩)] W fun e w' => e = .returned (.tuple #[]) ∧ GAt w0 b (d ++ [x]) w' ∧ OnT [79, 76] W w' ∧ Below b W w' := by
  obtain ⟨⟨v, hR, hO⟩, hT, hB⟩ := h
  have hbs := hB.size
  have hbl := hR.lt
  have xp : Below W.heap.size W (W.alloc (.cells #[.int .i64 x.o, .int .i64 x.w, .int .i64 x.n] 76)) := (Below.refl _ _).alloc (Nat.le_refl _) _
  have xq : Below W.heap.size W ((W.alloc (.cells #[.int .i64 x.o, .int .i64 x.w, .int .i64 x.n] 76)).alloc (.cells #[.int .i64 x.o, .int .i64 x.w, .int .i64 x.n] 76)) := xp.alloc xp.size _
  have RP := (new2 W 76 76 #[.int .i64 x.o, .int .i64 x.w, .int .i64 x.n] #[.int .i64 x.o, .int .i64 x.w, .int .i64 x.n])
  have HP := Lib.hid (show RawAt 76 (W.alloc (.cells #[.int .i64 x.o, .int .i64 x.w, .int .i64 x.n] 76)) W.heap.size #[.int .i64 x.o, .int .i64 x.w, .int .i64 x.n] from heap_alloc_new W _)
  have c0 := RawAt.cell HP.out 0
  have c1 := RawAt.cell HP.out 1
  have c2 := RawAt.cell HP.out 2
  simp at c0 c1 c2
  have HRb := Lib.hid (hR.below xq hbl)
  have HOb := Lib.hid (own_below hO xq)
  have HTb := Lib.hid (hT.trans (OnT.of xq))
  have HTw := Lib.hid (OnT.of (ts := [79, 76]) xq)
  have HBb := Lib.hid (hB.trans (xq.mono (by omega)))
  have r0 : (W.alloc (.cells #[.int .i64 x.o, .int .i64 x.w, .int .i64 x.n] 76)).cell? ⟨b, 0, none⟩ = some v := RawAt.cell (hR.below xp hbl) 0
  have HBw := Lib.hid (xq.mono (show b ≤ W.heap.size by omega))
  have hlt4 := HOb.out.lt
  have hsz := RP.2.2.2
  have hN := RP.2.1
  have HN := Lib.hid hN
  obtain ⟨i0, hi0, hz0, hz1, hz2⟩ := info_parts piece_info
  clear hR hO hT hB xp RP hN
  go_enter Try.func48, Try.ntmps48
  go_wp2_with (at_builtin; refine wpList_append_own _ rfl (.tmp 3) (.tmp 5) _ rfl (b + 1) 76 i0 _ 3 24 Try.underlying79 hi0 hz0 hz1 hz2 rfl (by omega) v d.length (pflat d) rfl HOb.out ⟨W.heap.size + 1, 0, none⟩ 1 1 [.int .i64 x.o, .int .i64 x.w, .int .i64 x.n] rfl rfl (World.news_of_block (cs := #[.int .i64 x.o, .int .i64 x.w, .int .i64 x.n]) (t := 76) (fr := (0, 0)) HN.out) (by simp [Value.oneCell']) (by simp only [maxLen]; omega) (by omega) (by omega) ?_; intro v4 w4 hown4 hg4 hnil4; clear hnil4; obtain ⟨g4, cap4, rfl⟩ := own_slice hown4 (by omega); have hb4 := (Below.refl (b + 1) ((W.alloc (.cells #[.int .i64 x.o, .int .i64 x.w, .int .i64 x.n] 76)).alloc (.cells #[.int .i64 x.o, .int .i64 x.w, .int .i64 x.n] 76))).grown hg4 (by omega) (fun k hk => (hlt4 k hk).1); have R4 := HRb.out.below hb4 (by omega); have T4 := OnT.grown (ts := [79, 76]) HOb.out hg4 (by simp); have k0 := RawAt.cell R4 0; simp only [List.getElem?_toArray, List.getElem?_cons_zero] at k0; have k1 := RawAt.free R4 0)
  have R5 : RawAt 79 (w4.setCell ⟨b, 0, none⟩ (.slice (some ⟨g4, 0, none⟩) (d.length + 1) cap4)) b #[.slice (some ⟨g4, 0, none⟩) (d.length + 1) cap4] := (R4.set_ 0 _).of_eq (by simp)
  have T5 := (HTb.out.trans T4).set R4 (by simp) 0 (.slice (some ⟨g4, 0, none⟩) (d.length + 1) cap4)
  have U5 := (HTw.out.trans T4).set R4 (by simp) 0 (.slice (some ⟨g4, 0, none⟩) (d.length + 1) cap4)
  have B5 : Below b w0 (w4.setCell ⟨b, 0, none⟩ (.slice (some ⟨g4, 0, none⟩) (d.length + 1) cap4)) := (HBb.out.trans (hb4.mono (by omega))).setCell (p := ⟨b, 0, none⟩) (by simp) _
  have O5 : (w4.setCell ⟨b, 0, none⟩ (.slice (some ⟨g4, 0, none⟩) (d.length + 1) cap4)).ownsRow (b + 1) 76 3 (.slice (some ⟨g4, 0, none⟩) (d.length + 1) cap4) (d ++ [x]).length (pflat (d ++ [x])) := by
    rw [pflat_append, List.length_append]
    exact own_set hown4 (by omega) _ _
  refine bodyPost_end (v := .tuple #[]) (by simp [results, Try.results48, go_sem]) rfl ⟨rfl, ⟨⟨_, R5, O5⟩, T5, B5⟩, U5, (HBw.out.trans (hb4.mono (by omega))).setCell (p := ⟨b, 0, none⟩) (by simp) _⟩
end Go.Proofs.Ythbhjecfiiknaaa
