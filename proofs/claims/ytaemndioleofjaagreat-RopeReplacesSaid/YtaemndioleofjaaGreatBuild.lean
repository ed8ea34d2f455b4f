/- A tree of items: the contract of tree.build. -/
import Derived.Test.YtaemndioleofjaaGreatTop
namespace Go.Proofs.YtaemndioleofjaaGreat
open Go.RowKit
/-- A row of nodes on the way to the topmost one. -/
def OnWay (w : World) (l : List I7) (v : Value) (k : Nat) : Prop :=
  ∃ ks R cp h, v = .slice R ks.length cp ∧ ks.length ≤ k ∧ VsAt w R (kvs ks) ∧ Caps R ks.length cp ∧ Row (h + 1) w ks ∧ fl ks = l ∧ (2 ≤ ks.length → Wd ks) ∧ (ks.length = 1 → 2 ≤ h + 1 → 2 ≤ (kth ks 0).c)
set_option maxHeartbeats 4000000 in
set_option maxRecDepth 100000 in
theorem build_any (A : Option Addr) (n c : Nat) (l : List I7) (w : World) (hA : ItsAt w A l) (hl : l.length = n) (hc : Caps A n c) (hn : n ≤ 100000) (ho : Okl l) :
    Calls Tryz.prog 90 #[.slice A n c] w fun e w' => ∃ v h, e = .returned v ∧ Top w' v l h ∧ Below w.heap.size w w' := by
  have C0 := Lib.hid (leaves_any A n c l w hA hl hc hn ho)
  have HL := Lib.hid hl
  clear hA hl hc ho
  go_enter Tryz.func90, Tryz.ntmps90
  go_wp2_with fail
  refine C0.out.mono ?_
  rintro e w1 ⟨v1, rfl, hM, hb1⟩
  have HM : Hid (OnWay w1 l v1 100000) := by
    obtain ⟨ks, R, cp, rfl, hV, hC, hR, hF, hL, hW, hK⟩ := hM
    exact ⟨ks, R, cp, 0, rfl, by omega, hV, hC, hR, hF, hW, fun _ h => absurd h (by omega)⟩
  clear hM
  go_wp2_with fail
  go_loopg [3] 100000 (fun k v wr => Below w.heap.size w wr ∧ Hid (OnWay wr l v k))
  case atStart => exact ⟨hb1, HM⟩
  case round =>
    obtain ⟨hb, hO⟩ := hrel
    obtain ⟨ks, R, cp, h, rfl, hk, hV, hC, hR, hF, hW, h1⟩ := hO.out
    clear hO
    have hlen : (fl ks).length ≤ 100000 := by rw [hF, HL.out]; exact hn
    have hk2 : ks.length ≤ 100000 := by
      have h2 := fl_len (m := 1) (ks := ks) (fun x hx => by
        have h3 := (hR x hx).size
        have h4 := (hR x hx).cnt.1
        have h5 := p4_pos (h + 1 - 1)
        have h6 := Nat.mul_le_mul h4 h5
        omega)
      omega
    generalize hq : ks.length = q at *
    by_cases h2 : 2 ≤ q
    · have CB := Lib.hid (branches_any h R q cp ks wr hV hq hC hk2 hR (hW h2) hlen)
      have g1 : (1 : Int) < (q : Int) := by omega
      have HF := Lib.hid hF
      clear hV hC hR hF hW h1 hq hlen
      go_wp2_with fail
      refine CB.out.mono ?_
      rintro e w2 ⟨v2, rfl, hM2, hb2⟩
      have hb4 := hb.trans (hb2.mono hb.size)
      have HO2 : Hid (OnWay w2 l v2 (gk - 1)) := by
        obtain ⟨k2, R2, c2, rfl, hV, hC, hR, hF, hL, hW, hK⟩ := hM2
        exact ⟨k2, R2, c2, h + 1, rfl, by omega, hV, hC, hR, hF.trans HF.out, hW, fun e1 _ => by rw [hK (by omega) (by omega)]; exact h2⟩
      clear hM2
      go_wp2
      go_roundg (gk - 1)
      case measure => omega
      case rel => exact ⟨hb4, HO2⟩
    · have CC := Lib.hid (crown_any h R q cp ks wr hV hq (by omega) hC hR hW hlen h1)
      rw [hF] at CC
      have g1 : ¬ ((1 : Int) < (q : Int)) := by omega
      clear hV hC hR hF hW h1 hq hlen
      go_wp2_with fail
      refine CC.out.mono ?_
      rintro e w2 ⟨v2, h3, rfl, hT, hb2⟩
      have HT := Lib.hid hT; clear hT
      go_wp2
      go_ret
      exact ⟨v2, h3, rfl, HT.out, hb.trans (hb2.mono hb.size)⟩
end Go.Proofs.YtaemndioleofjaaGreat
