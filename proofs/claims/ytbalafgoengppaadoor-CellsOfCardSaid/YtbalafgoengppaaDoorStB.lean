/- Stops: a table that may be none; sizes, a place's cell, a cell's place: the contracts of the closures, of Sizes, of Cell, of Place. -/
import Derived.Test.YtbalafgoengppaaDoorStA
import Derived.Test.YtbalafgoengppaaDoorPlain
import Derived.Test.YtbalafgoengppaaDoorOnT
import Derived.Test.YtbalafgoengppaaDoorAppK
import Derived.Deep.RegionHeld3
import Derived.Shelf.Abstract
namespace Go.Proofs.YtbalafgoengppaaDoor
open Go.RowKit
set_option linter.unusedVariables false
/-- A table of widths, or none: what it tells of each rune. -/
def TabV (w : World) (tv : Value) (f : Int → Int) : Prop := (∃ tb zs ws, tv = .pointer (some ⟨tb, 0, none⟩) ∧ f = wid zs ws ∧ TabAt w tb zs ws) ∨ (tv = .pointer none ∧ f = fun _ => 1)
theorem TabV.below {w w' : World} {tv : Value} {f : Int → Int} (h : TabV w tv f) (hb : Below w.heap.size w w') : TabV w' tv f := by
  rcases h with ⟨tb, zs, ws, h1, h2, h3⟩ | h
  · exact .inl ⟨tb, zs, ws, h1, h2, h3.below hb⟩
  · exact .inr h
theorem TabV.bd {w : World} {tv : Value} {f : Int → Int} (h : TabV w tv f) : ∀ r, 0 ≤ f r ∧ f r ≤ 2 := by
  rcases h with ⟨tb, zs, ws, h1, rfl, h3⟩ | ⟨_, rfl⟩
  · exact fun r => wid_bd zs ws r
  · intro r; simp
theorem tabV_of {w : World} {tv : Value} {f : Int → Int} (h : TabV w tv f) (r : Int) : Calls Tryd.prog 44 #[tv, .int .i32 r] w fun e w' => e = .returned (.int .i64 (f r)) ∧ Below w.heap.size w w' := by
  rcases h with ⟨tb, zs, ws, rfl, rfl, h3⟩ | ⟨rfl, rfl⟩
  · exact of_any tb zs ws r w h3
  · exact of_nil r w
theorem int_info : (Tryd.prog.info? 3).map (fun i => (i.zero, i.size, i.bytes)) = some (some (.int .i64 0), 1, 8) := by kernel_rfl
theorem rune_slt : SlT Tryd.prog 22 21 1 4 := slt_of Tryd.underlying22 i32_info rfl (by kernel_rfl)
theorem hK_sz : ∀ (args : Array Value) (w : World), (callFunc 36 args).run Tryd.prog w = .ok (.enter 36 args) w := enters_of Tryd.func36 (by kernel_rfl) rfl
theorem hK_ce : ∀ (args : Array Value) (w : World), (callFunc 38 args).run Tryd.prog w = .ok (.enter 38 args) w := enters_of Tryd.func38 (by kernel_rfl) rfl
theorem hK_pl : ∀ (args : Array Value) (w : World), (callFunc 39 args).run Tryd.prog w = .ok (.enter 39 args) w := enters_of Tryd.func39 (by kernel_rfl) rfl
/-- What the closure of Sizes has: the row so far in the variable at b. -/
def SzAt (B b : Nat) (d : List Int) (W : World) : Prop := ∃ v, RawAt 24 W b #[v] ∧ W.ownsRow B 3 1 v d.length (d.map (.int .i64))
theorem SzAt.keep {B b : Nat} {d : List Int} {W W' : World} (h : SzAt B b d W) (hb : Below W.heap.size W W') : SzAt B b d W' := by
  obtain ⟨v, h1, h2⟩ := h
  exact ⟨v, h1.below hb h1.lt, own_below h2 hb⟩
set_option maxHeartbeats 4000000 in
set_option maxRecDepth 100000 in
theorem szC_any (B b : Nat) (hB : B ≤ b) (d : List Int) (x : Int) (W : World) (hd : d.length ≤ 1000000) (h : SzAt B b d W) :
    Calls Tryd.prog 36 #[.int .i64 x, .pointer (some ⟨b, 0, none⟩)] W fun e w' => e = .returned (.tuple #[]) ∧ SzAt B b (d ++ [x]) w' ∧ Below B W w' := by
  obtain ⟨v, hR, hO⟩ := h
  have hbl := hR.lt
  have xp : Below W.heap.size W (W.alloc (.cells #[.int .i64 x] 3)) := (Below.refl _ _).alloc (Nat.le_refl _) _
  have HRb := Lib.hid (hR.below xp hbl)
  have HOb := Lib.hid (own_below hO xp)
  have r0 : W.cell? ⟨b, 0, none⟩ = some v := RawAt.cell hR 0
  have hlt4 := HOb.out.lt
  have HN := Lib.hid (heap_alloc_new W (.cells #[.int .i64 x] 3))
  obtain ⟨i0, hi0, hz0, hz1, hz2⟩ := info_parts int_info
  clear hR hO xp
  go_enter Tryd.func36, Tryd.ntmps36
  go_wp2_with (at_builtin; refine wpList_append_own _ rfl (.tmp 3) (.tmp 5) _ rfl B 3 i0 _ 1 8 Tryd.underlying24 hi0 hz0 hz1 hz2 rfl (by omega) v d.length (d.map (.int .i64)) rfl HOb.out ⟨W.heap.size, 0, none⟩ 1 1 [.int .i64 x] rfl rfl (one_new _ _ _) (by simp [Value.oneCell']) (by simp only [maxLen]; omega) (by omega) (by simp; omega) ?_; intro v4 w4 hown4 hg4 hnil4; clear hnil4; obtain ⟨g4, cap4, rfl⟩ := own_slice hown4 (by omega); have T4 := OnT.grown (ts := [3]) HOb.out hg4 (by simp); have R4 := T4 _ _ _ (by decide) HRb.out; have hb4 := (Below.refl B (W.alloc (.cells #[.int .i64 x] 3))).grown hg4 (by simp; omega) (fun k hk => (hlt4 k hk).1); have k0 := RawAt.cell R4 0; simp only [List.getElem?_toArray, List.getElem?_cons_zero] at k0; have k1 := RawAt.free R4 0)
  have R5 : RawAt 24 (w4.setCell ⟨b, 0, none⟩ (.slice (some ⟨g4, 0, none⟩) (d.length + 1) cap4)) b #[.slice (some ⟨g4, 0, none⟩) (d.length + 1) cap4] := (R4.set_ 0 _).of_eq (by simp)
  have O5 := own_onT hown4 ((OnT.refl [24] w4).set R4 (by simp) 0 (.slice (some ⟨g4, 0, none⟩) (d.length + 1) cap4)) (by decide)
  have B5 : Below B W (w4.setCell ⟨b, 0, none⟩ (.slice (some ⟨g4, 0, none⟩) (d.length + 1) cap4)) := ((((Below.refl W.heap.size W).alloc (Nat.le_refl _) (.cells #[.int .i64 x] 3)).mono (show B ≤ W.heap.size by omega)).trans hb4).setCell (p := ⟨b, 0, none⟩) hB _
  refine bodyPost_end (v := .tuple #[]) (by simp [results, Tryd.results36, go_sem]) rfl ⟨rfl, ⟨_, R5, ?_⟩, B5⟩
  rw [List.length_append, List.map_append]
  exact O5
end Go.Proofs.YtbalafgoengppaaDoor
