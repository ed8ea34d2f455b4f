/- Halving in right ranges finds whether a rune is in one: the contract of width.within. -/
import Derived.Test.YtbalafgoengppaaDoorBase
namespace Go.Proofs.YtbalafgoengppaaDoor
open Go.RowKit
/-- What has been looked at on the way to a range: all ahead of l end below r, all from h on begin above it. -/
def Halved (rs : List (Int × Int)) (r : Int) (l h : Nat) : Prop := (∀ i, i < l → rhi rs i < r) ∧ ∀ i, h ≤ i → i < rs.length → r < rlo rs i
theorem Halved.left {rs : List (Int × Int)} {r : Int} {l h m : Nat} (H : Halved rs r l h) (hs : Srt rs) (hm : m < rs.length) (hr : r < rlo rs m) : Halved rs r l m := by
  refine ⟨H.1, fun i hi hil => ?_⟩
  by_cases e : m = i
  · subst e; exact hr
  · have h1 := (hs m i hi hil).2 (by omega)
    have h2 := (hs m m (Nat.le_refl _) hm).1 rfl
    omega
theorem Halved.right {rs : List (Int × Int)} {r : Int} {l h m : Nat} (H : Halved rs r l h) (hs : Srt rs) (hm : m < rs.length) (hr : rhi rs m < r) : Halved rs r (m + 1) h := by
  refine ⟨fun i hi => ?_, H.2⟩
  by_cases e : i = m
  · subst e; exact hr
  · have h1 := (hs i m (by omega) hm).2 (by omega)
    have h2 := (hs m m (Nat.le_refl _) hm).1 rfl
    omega
theorem Halved.none_ {rs : List (Int × Int)} {r : Int} {l h : Nat} (H : Halved rs r l h) (hl : ¬ l < h) : inR rs r = false :=
  inR_false fun m hm => by
    by_cases e : m < l
    · exact .inl (H.1 m e)
    · exact .inr (H.2 m (by omega) hm)
set_option maxHeartbeats 400000 in
theorem within_any (A : Option Addr) (n c : Nat) (rs : List (Int × Int)) (r : Int) (w : World) (hA : RngAt w A rs) (hl : rs.length = n) (hn : n ≤ 1000000) (hs : Srt rs) :
    Calls Tryd.prog 47 #[.slice A n c, .int .i32 r] w fun e w' => e = .returned (.bool (inR rs r)) ∧ Below w.heap.size w w' := by
  have HL := Lib.hid hl; clear hl
  have HS := Lib.hid hs; clear hs
  go_enter Tryd.func47, Tryd.ntmps47
  go_wp2; go_step3; go_wp2; go_step3; go_wp2
  go_loopg [5, 6, 7] n (fun k lo hi fd wr => ∃ l h : Nat, lo = .int .i64 l ∧ hi = .int .i64 h ∧ fd = .bool false ∧ h ≤ n ∧ l ≤ h ∧ h - l ≤ k ∧ Below w.heap.size w wr ∧ Halved rs r l h)
  case atStart => exact ⟨0, n, rfl, rfl, rfl, by omega, by omega, by omega, Below.refl _ _, fun i hi => by omega, fun i h1 h2 => by rw [HL.out] at h2; omega⟩
  case round =>
    obtain ⟨l, h, rfl, rfl, rfl, h1, h2, h3, hb, HH⟩ := hrel
    by_cases hlt : l < h
    · have hm : l + (h - l) / 2 < rs.length := by rw [HL.out]; omega
      obtain ⟨b, off, rfl, hbs, hc⟩ := hA (by omega)
      obtain ⟨c1, c2⟩ := hc _ hm
      clear hc
      obtain ⟨H1, H2⟩ := old_cells hb
      have HM := Lib.hid hm; clear hm
      go_wp2
      · go_roundg (gk - 1)
        case measure => omega
        case rel => exact ⟨l, l + (h - l) / 2, rfl, by go_num, rfl, by omega, by omega, by omega, hb.alloc hb.size _, HH.left HS.out HM.out (by assumption)⟩
      · go_roundg (gk - 1)
        case measure => omega
        case rel => exact ⟨l + (h - l) / 2 + 1, h, by go_num, rfl, rfl, by omega, by omega, by omega, hb.alloc hb.size _, HH.right HS.out HM.out (by assumption)⟩
      · rw [Exit.noGoto_ret]
        go_ret
        exact ⟨ret_bool (inR_true HM.out (by omega) (by omega)).symm, hb.alloc hb.size _⟩
    · go_wp2
      rw [Exit.noGoto_ret]
      go_ret
      exact ⟨ret_bool (HH.none_ hlt).symm, hb⟩
end Go.Proofs.YtbalafgoengppaaDoor
