/- Trees one behind the other: the contracts of tree.join and tree.concat, whatever their heights; tree.build. A tree of items: the contract of tree.build. -/
import Derived.Test.YtnfjleobcfhpnaaJoin
namespace Go.Proofs.Ytnfjleobcfhpnaa
open Go.RowKit
theorem NodeAt.pos {h : Nat} {w : World} {k : Kd} (hk : NodeAt h w k) : ∃ h', h = h' + 1 := by
  match h, hk with
  | h + 1, _ => exact ⟨h, rfl⟩
theorem join_any : ∀ (m ha hb : Nat) (_ : ha + hb ≤ m) (a b : Kd) (w : World) (_ : NodeAt ha w a) (_ : NodeAt hb w b) (_ : a.l.length + b.l.length ≤ 100000),
    Calls Try.prog 100 #[a.v, b.v] w fun e w' => ∃ v, e = .returned v ∧ Joined w' ha hb a b v ∧ Below w.heap.size w w' := by
  intro m
  induction m with
  | zero =>
    intro ha hb hm a b w hA hB hz
    obtain ⟨h', rfl⟩ := hA.pos
    omega
  | succ m ih =>
    intro ha hb hm a b w hA hB hz
    obtain ⟨x, hx⟩ := hA.pos
    obtain ⟨y, hy⟩ := hB.pos
    rcases Nat.lt_trichotomy ha hb with hlt | heq | hgt
    · obtain ⟨z, rfl⟩ : ∃ z, hb = z + 2 := ⟨hb - 2, by omega⟩
      exact join_lt ha z a b w hA hB hz hlt (fun x W h1 h2 h3 => ih ha (z + 1) (by omega) a x W h1 h2 h3)
    · subst heq
      by_cases h3 : 4 ≤ a.c ∧ 4 ≤ b.c ∧ 8 < a.c + b.c
      · exact join_two ha a b w hA hB h3.1 h3.2.1 h3.2.2
      · have hc : a.c < 4 ∨ (4 ≤ a.c ∧ b.c < 4) ∨ (4 ≤ a.c ∧ 4 ≤ b.c ∧ a.c + b.c ≤ 8) := by omega
        match ha, hA, hB with
        | 1, hA, hB => exact join_leaves a b w hA hB hz hc
        | z + 2, hA, hB => exact join_branches z a b w hA hB hz hc
    · obtain ⟨z, rfl⟩ : ∃ z, ha = z + 2 := ⟨ha - 2, by omega⟩
      exact join_gt z hb a b w hA hB hz hgt (fun x W h1 h2 h3 => ih (z + 1) hb (by omega) x b W h1 h2 h3)
theorem eq_n (w : World) : (binOp .eql 135 .nilIface .nilIface).run Try.prog w = .ok (.bool true) w := by kernel_rfl
theorem eq_i (w : World) (t : TypeId) (v : Value) : (binOp .eql 135 (.iface t v) .nilIface).run Try.prog w = .ok (.bool false) w := by kernel_rfl
set_option maxHeartbeats 4000000 in
set_option maxRecDepth 100000 in
theorem concat_nl (b : Value) (w : World) : Calls Try.prog 78 #[.nilIface, b] w fun e w' => e = .returned b ∧ w' = w := by
  have t1 := eq_n
  go_enter Try.func78, Try.ntmps78
  go_wp2
  go_ret
  exact ⟨rfl, rfl⟩
set_option maxHeartbeats 4000000 in
set_option maxRecDepth 100000 in
theorem concat_nr (t : TypeId) (v : Value) (w : World) : Calls Try.prog 78 #[.iface t v, .nilIface] w fun e w' => e = .returned (.iface t v) ∧ w' = w := by
  have t1 := eq_n
  have t2 := eq_i
  go_enter Try.func78, Try.ntmps78
  go_wp2
  go_ret
  exact ⟨rfl, rfl⟩
set_option maxHeartbeats 4000000 in
set_option maxRecDepth 100000 in
theorem concat_two (ha hb : Nat) (a b : Kd) (w : World) (hA : NodeAt ha w a) (hB : NodeAt hb w b) (hz : a.l.length + b.l.length ≤ 100000) (h1 : 2 ≤ ha → 2 ≤ a.c) (h2 : 2 ≤ hb → 2 ≤ b.c) :
    Calls Try.prog 78 #[a.v, b.v] w fun e w' => ∃ v h', e = .returned v ∧ Top w' v (a.l ++ b.l) h' ∧ Below w.heap.size w w' := by
  have t2 := eq_i
  have CJ := Lib.hid (join_any _ ha hb (Nat.le_refl _) a b w hA hB hz)
  obtain ⟨ta, va, ea⟩ := hA.ifc
  obtain ⟨tb, vb, eb⟩ := hB.ifc
  rw [ea, eb] at CJ ⊢
  obtain ⟨x, hx⟩ := hA.pos
  obtain ⟨y, hy⟩ := hB.pos
  obtain ⟨m, hm⟩ : ∃ m, max ha hb = m + 1 := ⟨max ha hb - 1, by omega⟩
  have HH := Lib.hid (show (hb ≤ ha ∨ ha ≤ hb) ∧ (hb ≤ ha → m + 1 = ha) ∧ (ha ≤ hb → m + 1 = hb) ∧ (2 ≤ ha → 2 ≤ a.c) ∧ (2 ≤ hb → 2 ≤ b.c) from ⟨by omega, by omega, by omega, h1, h2⟩)
  have HM := Lib.hid hm
  clear hA hB ea eb hx hy hm h1 h2
  go_enter Try.func78, Try.ntmps78
  go_wp2_with fail
  refine CJ.out.mono ?_
  rintro e w1 ⟨v2, rfl, ⟨k2, R2, p2, rfl, hV2, hC2, hR2, hF2, hl2, hm2, hw2, hk2⟩, hb2⟩
  rw [HM.out] at hR2
  have CC := Lib.hid (crown_any m R2 k2.length p2 k2 w1 hV2 rfl (by omega) hC2 hR2 hw2 (by rw [hF2, List.length_append]; exact hz) (fun e1 e2 => by
    obtain ⟨f1, f2⟩ := hk2 e1
    obtain ⟨g1, g2, g3, g4, g5⟩ := HH.out
    rcases g1 with g | g
    · exact Nat.le_trans (g4 (by rw [← g2 g]; exact e2)) (f1 g)
    · exact Nat.le_trans (g5 (by rw [← g3 g]; exact e2)) (f2 g)))
  rw [hF2] at CC
  clear hV2 hC2 hR2 hF2 hl2 hm2 hw2 hk2
  go_wp2_with fail
  refine CC.out.mono ?_
  rintro e w2 ⟨v3, h', rfl, hT, hb3⟩
  have HT := Lib.hid hT; clear hT
  go_wp2
  go_ret
  exact ⟨v3, h', rfl, HT.out, hb2.trans (hb3.mono hb2.size)⟩
theorem concat_any (v u : Value) (l m : List I7) (h k : Nat) (w : World) (hA : Top w v l h) (hB : Top w u m k) (hz : l.length + m.length ≤ 100000) :
    Calls Try.prog 78 #[v, u] w fun e w' => ∃ x h', e = .returned x ∧ Top w' x (l ++ m) h' ∧ Below w.heap.size w w' := by
  rcases hA with ⟨rfl, rfl, rfl⟩ | ⟨c, hA, h2⟩
  · refine (concat_nl u w).mono ?_
    rintro e w' ⟨rfl, rfl⟩
    exact ⟨_, k, rfl, hB, Below.refl _ _⟩
  · rcases hB with ⟨rfl, rfl, rfl⟩ | ⟨d, hB, k2⟩
    · obtain ⟨ta, va, ea⟩ := hA.ifc
      simp only at ea
      subst ea
      refine (concat_nr _ _ w).mono ?_
      rintro e w' ⟨rfl, rfl⟩
      exact ⟨_, h, rfl, .inr ⟨c, by rw [List.append_nil]; exact hA, h2⟩, Below.refl _ _⟩
    · exact concat_two h k ⟨v, l, c⟩ ⟨u, m, d⟩ w hA hB hz h2 k2
/-- A row of nodes on the way to the topmost one. -/
def OnWay (w : World) (l : List I7) (v : Value) (k : Nat) : Prop :=
  ∃ ks R cp h, v = .slice R ks.length cp ∧ ks.length ≤ k ∧ VsAt w R (kvs ks) ∧ Caps R ks.length cp ∧ Row (h + 1) w ks ∧ fl ks = l ∧ (2 ≤ ks.length → Wd ks) ∧ (ks.length = 1 → 2 ≤ h + 1 → 2 ≤ (kth ks 0).c)
set_option maxHeartbeats 4000000 in
set_option maxRecDepth 100000 in
theorem build_any (A : Option Addr) (n c : Nat) (l : List I7) (w : World) (hA : ItsAt w A l) (hl : l.length = n) (hc : Caps A n c) (hn : n ≤ 100000) (ho : Okl l) :
    Calls Try.prog 96 #[.slice A n c] w fun e w' => ∃ v h, e = .returned v ∧ Top w' v l h ∧ Below w.heap.size w w' := by
  have C0 := Lib.hid (leaves_any A n c l w hA hl hc hn ho)
  have HL := Lib.hid hl
  clear hA hl hc ho
  go_enter Try.func96, Try.ntmps96
  go_wp2_with fail
  refine C0.out.mono ?_
  rintro e w1 ⟨v1, rfl, hM, hb1⟩
  have HM : Hid (OnWay w1 l v1 100000) := by
    obtain ⟨ks, R, cp, rfl, hV, hC, hR, hF, hL, hW, hK⟩ := hM
    exact ⟨ks, R, cp, 0, rfl, by omega, hV, hC, hR, hF, hW, fun _ h => absurd h (by omega)⟩
  clear hM
  go_wp2_with fail
  go_loopg [3] 100000 (fun k v wr => Below w.heap.size w wr ∧ Hid (OnWay wr l v k))
  case atStart => exact ⟨hb1, HM⟩
  case round =>
    obtain ⟨hb, hO⟩ := hrel
    obtain ⟨ks, R, cp, h, rfl, hk, hV, hC, hR, hF, hW, h1⟩ := hO.out
    clear hO
    have hlen : (fl ks).length ≤ 100000 := by rw [hF, HL.out]; exact hn
    have hk2 : ks.length ≤ 100000 := by
      have h2 := fl_len (m := 1) (ks := ks) (fun x hx => by
        have h3 := (hR x hx).size
        have h4 := (hR x hx).cnt.1
        have h5 := p4_pos (h + 1 - 1)
        have h6 := Nat.mul_le_mul h4 h5
        omega)
      omega
    generalize hq : ks.length = q at *
    by_cases h2 : 2 ≤ q
    · have CB := Lib.hid (branches_any h R q cp ks wr hV hq hC hk2 hR (hW h2) hlen)
      have g1 : (1 : Int) < (q : Int) := by omega
      have HF := Lib.hid hF
      clear hV hC hR hF hW h1 hq hlen
      go_wp2_with fail
      refine CB.out.mono ?_
      rintro e w2 ⟨v2, rfl, hM2, hb2⟩
      have hb4 := hb.trans (hb2.mono hb.size)
      have HO2 : Hid (OnWay w2 l v2 (gk - 1)) := by
        obtain ⟨k2, R2, c2, rfl, hV, hC, hR, hF, hL, hW, hK⟩ := hM2
        exact ⟨k2, R2, c2, h + 1, rfl, by omega, hV, hC, hR, hF.trans HF.out, hW, fun e1 _ => by rw [hK (by omega) (by omega)]; exact h2⟩
      clear hM2
      go_wp2
      go_roundg (gk - 1)
      case measure => omega
      case rel => exact ⟨hb4, HO2⟩
    · have CC := Lib.hid (crown_any h R q cp ks wr hV hq (by omega) hC hR hW hlen h1)
      rw [hF] at CC
      have g1 : ¬ ((1 : Int) < (q : Int)) := by omega
      clear hV hC hR hF hW h1 hq hlen
      go_wp2_with fail
      refine CC.out.mono ?_
      rintro e w2 ⟨v2, h3, rfl, hT, hb2⟩
      have HT := Lib.hid hT; clear hT
      go_wp2
      go_ret
      exact ⟨v2, h3, rfl, HT.out, hb.trans (hb2.mono hb.size)⟩
end Go.Proofs.Ytnfjleobcfhpnaa
