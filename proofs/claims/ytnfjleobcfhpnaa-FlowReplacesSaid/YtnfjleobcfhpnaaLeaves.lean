/- Leaves and branches above a row: the contracts of tree.leaves and tree.branches. -/
import Derived.Test.YtnfjleobcfhpnaaSpread
import Derived.Test.YtnfjleobcfhpnaaNewNode
import Derived.Maps.AppendAt
namespace Go.Proofs.Ytnfjleobcfhpnaa
open Go.RowKit
theorem cutAt_hi (n m k : Nat) (h : 0 < m) (h2 : n ≤ 8 * m) : cutAt n m (k + 1) ≤ cutAt n m k + 8 := by
  unfold cutAt
  have e : (k * n + m * 8) / m = k * n / m + 8 := Nat.add_mul_div_left _ _ h
  have h3 : (k + 1) * n / m ≤ (k * n + m * 8) / m := Nat.div_le_div_right (by rw [Nat.succ_mul]; omega)
  omega
theorem cutAt_lo (n m k : Nat) (h : 0 < m) (h2 : 4 * m ≤ n) : cutAt n m k + 4 ≤ cutAt n m (k + 1) := by
  unfold cutAt
  have e : (k * n + m * 4) / m = k * n / m + 4 := Nat.add_mul_div_left _ _ h
  have h3 : (k * n + m * 4) / m ≤ (k + 1) * n / m := Nat.div_le_div_right (by rw [Nat.succ_mul]; omega)
  omega
theorem cutAt_end (n m : Nat) (h : m = 0 → n = 0) : cutAt n m m = n := by
  unfold cutAt
  rcases Nat.eq_zero_or_pos m with h0 | h0
  · rw [h h0, h0]
  · rw [Nat.mul_div_cancel_left _ h0]
/-- What leaves and branches answer: nodes so high, that have those items. -/
def Made (w : World) (h n : Nat) (l : List I7) (v : Value) : Prop :=
  ∃ ks R cp, v = .slice R ks.length cp ∧ VsAt w R (kvs ks) ∧ Caps R ks.length cp ∧ Row h w ks ∧ fl ks = l ∧ ks.length = (n + 7) / 8 ∧ (2 ≤ ks.length → Wd ks) ∧ (n ≤ 8 → 0 < n → (kth ks 0).c = n)
theorem vth_map (f : Nat → Value) (m j : Nat) (h : j < m) : vth ((List.range m).map f) j = f j := by simp [vth, List.getD, h]
theorem cnts_kth {ks : List Kd} {f : Nat → Nat} {m : Nat} (hl : ks.length = m) (h : ks.map Kd.c = (List.range m).map f) (j : Nat) (hj : j < m) : (kth ks j).c = f j := by
  have e := congrArg (fun l => l[j]?) h
  simp only [List.getElem?_map, List.getElem?_range hj, Option.map_some] at e
  rw [kth_get ks (by omega)]
  rw [List.getElem?_eq_getElem (by omega), Option.map_some] at e
  exact Option.some.inj e
theorem made_of {w : World} {h n : Nat} {l : List I7} {R : Option Addr} {cp m : Nat} {ks : List Kd} (hm : m = (n + 7) / 8) (hV : VsAt w R (kvs ks)) (hC : Caps R m cp) (hr : Row h w ks) (hf : fl ks = l) (hl : ks.length = m)
    (hc : ks.map Kd.c = (List.range m).map fun i => cutAt n m (i + 1) - cutAt n m i) : Made w h n l (.slice R m cp) := by
  refine ⟨ks, R, cp, by rw [hl], hV, by rw [hl]; exact hC, hr, hf, by rw [hl, hm], fun h2 x hx => ?_, fun h8 h0 => ?_⟩
  · obtain ⟨j, hj, rfl⟩ := List.mem_iff_getElem.1 hx
    have e := cnts_kth hl hc j (by omega)
    rw [kth_get ks hj] at e
    rw [e]
    have := cutAt_lo n m j (by omega) (by omega)
    omega
  · have e := cnts_kth hl hc 0 (by omega)
    have hm1 : m = 1 := by omega
    rw [e, hm1]
    simp [cutAt]
theorem wpList_append_node1 {w : World} {ops : Array Oper} {rest : List Oper} {o : Oper} {a : Act} {Q : Exit → Act → World → Prop} (hgd : o.guard = none) (s x : Operand)
    (ho : o.op = .call { callee := .builtin .append, args := #[s, x], argTypes := #[168, 168] })
    (base : Nat) (v : Value) (n : Nat) (xs : List Value) (hs : a.eval s = v) (hown : w.ownsRow base 135 1 v n xs)
    (g : Nat) (u : Value) (hx : a.eval x = .slice (some ⟨g, 0, none⟩) 1 1) (hg : w.heap[g]? = some (.cells #[u] 135 (0, 0))) (h1 : u.oneCell' = true) (hsz : n + 1 ≤ 1000000000) (hbase : base ≤ w.heap.size)
    (h : ∀ v' w', w'.ownsRow base 135 1 v' (n + 1) (xs ++ [u]) → w.grownBy w' v.ownBlock → (v'.ownBlock = v.ownBlock ∨ v'.ownBlock = some w.heap.size) → wpList Try.prog ops Q rest (a.put o.dst v') w') : wpList Try.prog ops Q (o :: rest) a w := by
  obtain ⟨i0, hi0, hz0, hz1, hz2⟩ := info_parts node_info
  exact wpList_append_own_at w hgd s x _ ho base 135 i0 _ 1 16 Try.underlying168 hi0 hz0 hz1 hz2 rfl (by omega) v n xs hs hown ⟨g, 0, none⟩ 1 1 [u] hx rfl
    (fun j u' hu => by
      have hj : j = 0 := by have := (List.getElem?_eq_some_iff.1 hu).1; simpa using this
      subst hj
      rw [Go.WideShapes.add_plain, cell_of_row w g _ _ _ _ hg]
      simpa using hu)
    (fun v hv => by rw [List.mem_singleton.1 hv]; exact h1) (by simp only [maxLen]; omega) (by omega) hbase (fun v' w' h1 h2 _ h3 => h v' w' h1 h2 h3)
/-- A world that agrees with another one from some block on, but on a row. -/
def Kp (base : Nat) (w : World) (v : Value) (W : World) : Prop := w.heap.size ≤ W.heap.size ∧ ∀ b, base ≤ b → b < w.heap.size → some b ≠ v.ownBlock → W.heap[b]? = w.heap[b]?
theorem Kp.self (base : Nat) (w : World) (v : Value) : Kp base w v w := ⟨Nat.le_refl _, fun _ _ _ _ => rfl⟩
theorem kp_step {base : Nat} {wr w2 w4 : World} {v v4 : Value} {o : Obj} (hb : Below wr.heap.size wr w2) (hown : ∀ k, v.ownBlock = some k → base ≤ k ∧ k < wr.heap.size) (hbase : base ≤ wr.heap.size)
    (hg : (w2.alloc o).grownBy w4 v.ownBlock) (h4 : v4.ownBlock = v.ownBlock ∨ v4.ownBlock = some (w2.alloc o).heap.size) {W : World} (hW : Kp base w4 v4 W) : Kp base wr v W ∧ Agr wr.heap.size w2.heap.size w2 W := by
  have s1 := hb.size
  have s2 : (w2.alloc o).heap.size = w2.heap.size + 1 := by simp
  have s3 := hg.size
  have s4 := hW.1
  have al : ∀ b, b < w2.heap.size → (w2.alloc o).heap[b]? = w2.heap[b]? := fun b hb => ((Below.refl w2.heap.size w2).alloc (Nat.le_refl _) o).block b hb
  have key : ∀ b, base ≤ b → b < w2.heap.size → some b ≠ v.ownBlock → W.heap[b]? = w2.heap[b]? := fun b h1 h2 h3 => by
    have h5 : some b ≠ v4.ownBlock := by
      rcases h4 with e | e
      · rw [e]; exact h3
      · rw [e]; intro e2; injection e2 with e2; omega
    rw [hW.2 b h1 (by omega) h5, hg.block b (by omega) h3, al b h2]
  exact ⟨⟨by omega, fun b h1 h2 h3 => (key b h1 (by omega) h3).trans (hb.block b h2)⟩, ⟨by omega, fun b h1 h2 => key b (by omega) h2 (fun e => by have := (hown b e.symm).2; omega)⟩⟩
set_option maxHeartbeats 4000000 in
set_option maxRecDepth 100000 in
theorem leaves_any (A : Option Addr) (n c : Nat) (l : List I7) (w : World) (hA : ItsAt w A l) (hl : l.length = n) (hc : Caps A n c) (hn : n ≤ 100000) (ho : Okl l) :
    Calls Try.prog 111 #[.slice A n c] w fun e w' => ∃ v, e = .returned v ∧ Made w' 1 n l v ∧ Below w.heap.size w w' := by
  obtain ⟨m, hm⟩ : ∃ m, m = (n + 7) / 8 := ⟨_, rfl⟩
  have C0 := Lib.hid (spreadI_any A n c m w hc hn hm)
  have HA := Lib.hid hA
  have HL := Lib.hid hl
  have HC := Lib.hid hc
  have HO := Lib.hid ho
  have HM := Lib.hid hm
  have hm1 : m ≤ 100000 := by omega
  have hmn : m ≤ n := by omega
  clear hA hl hc ho hm
  go_enter Try.func111, Try.ntmps111
  go_wp2_with fail
  refine C0.out.mono ?_
  rintro e w1 ⟨P, cp, rfl, hb1, hP, hcP⟩
  have HP := Lib.hid hP; clear hP hcP
  go_wp2
  go_loopg [3, 9] m (fun k v i wr => ∃ (j : Nat) (kj : List Kd), i = .int .i64 j ∧ j ≤ m ∧ m - j ≤ k ∧ Below w1.heap.size w1 wr ∧ Hid (wr.ownsRow w1.heap.size 135 1 v j (kvs kj)) ∧ Hid (kj.length = j ∧ fl kj = l.take (cutAt n m j) ∧ kj.map Kd.c = (List.range j).map fun i => cutAt n m (i + 1) - cutAt n m i) ∧ Hid (∀ W, Below w.heap.size w W → Kp w1.heap.size wr v W → Row 1 W kj))
  case atStart => exact ⟨0, [], rfl, by omega, by omega, Below.refl _ _, World.ownsRow_nil _ _ _ _, ⟨rfl, by simp [fl, cutAt], rfl⟩, fun W _ _ x hx => absurd hx (by simp)⟩
  case round =>
    obtain ⟨j, kj, rfl, h1, h2, hb, hown, hk, hR⟩ := hrel
    have hsz := hb.size
    by_cases hlt : j < m
    · obtain ⟨b, off, rfl, hbs, hcell⟩ := HP.out (by simp; omega)
      have e0 := hcell j (by simp; exact hlt)
      rw [vth_map _ _ _ hlt] at e0
      have k1 := cutAt_lt n m j (by omega) hmn
      have k2 := cutAt_le n m (j + 1) hlt
      have k3 := cutAt_hi n m j (by omega) (by have := HM.out; omega)
      have HI0 := Lib.hid (HA.out.cut HL.out HC.out.1 (cutAt n m j) (cutAt n m (j + 1) - cutAt n m j) (by omega))
      have HCap := Lib.hid (HC.out.cut (cutAt n m j) (cutAt n m (j + 1) - cutAt n m j) (by omega))
      have hne : ¬ c = cutAt n m j := by have := HC.out.1; omega
      simp only [cutI, if_neg hne] at HI0 HCap
      have HLn := Lib.hid (show ((l.drop (cutAt n m j)).take (cutAt n m (j + 1) - cutAt n m j)).length = cutAt n m (j + 1) - cutAt n m j by rw [List.length_take, List.length_drop, HL.out]; omega)
      have HOk := Lib.hid (show Okl ((l.drop (cutAt n m j)).take (cutAt n m (j + 1) - cutAt n m j)) from fun i hi => HO.out i (List.mem_of_mem_drop (List.mem_of_mem_take hi)))
      have HTk := Lib.hid (show l.take (cutAt n m (j + 1)) = l.take (cutAt n m j) ++ (l.drop (cutAt n m j)).take (cutAt n m (j + 1) - cutAt n m j) by
        rw [show cutAt n m (j + 1) = cutAt n m j + (cutAt n m (j + 1) - cutAt n m j) by omega, List.take_add]
        congr 2; omega)
      obtain ⟨H1, H2⟩ := old_cells hb
      clear hcell
      unfold part7 at e0
      have HRg := Lib.hid (show (List.range (j + 1)).map (fun i => cutAt n m (i + 1) - cutAt n m i) = (List.range j).map (fun i => cutAt n m (i + 1) - cutAt n m i) ++ [cutAt n m (j + 1) - cutAt n m j] by rw [List.range_succ, List.map_append]; rfl)
      generalize hx : (l.drop (cutAt n m j)).take (cutAt n m (j + 1) - cutAt n m j) = x at *
      generalize hq : cutAt n m (j + 1) - cutAt n m j = q at *
      generalize hcc : c - cutAt n m j = cc at *
      generalize hAA : A.map (·.add (cutAt n m j * 7)) = AA at *
      clear hx hcc hAA
      have HQ := Lib.hid hq
      have hq0 : 0 < q := by omega
      have hq8 : q ≤ 8 := by omega
      clear hq k1 k2 k3 hne
      have CL := Lib.hid fun (W : World) (hW : Below w.heap.size w W) => newLeaf_any AA q cc x W (HI0.out.below hW) HLn.out hq0 hq8 HCap.out HOk.out
      go_wp2_with fail
      refine (CL.out _ (hb1.trans (hb.mono hb1.size))).mono ?_
      rintro e w2 ⟨b2, rfl, hN, hb2⟩
      have a2 := hb.trans (hb2.mono hsz)
      have hz2 : w1.heap.size ≤ w2.heap.size := a2.size
      have hown2 := own_below hown.out hb2
      have HN := Lib.hid hN; clear hN
      go_wp2_with (at_builtin; refine wpList_append_node1 rfl (.tmp 13) (.tmp 17) rfl w1.heap.size _ j (kvs kj) rfl (hown2.alloc _) w2.heap.size (lfv b2) rfl (heap_alloc_new w2 _) rfl (by omega) (by simp; omega) ?_; intro v4 w4 hown4 hg4 hat4)
      have hb4 : Below w1.heap.size w1 w4 := (a2.alloc hz2 _).grown hg4 (by simp; omega) (fun k hk => (hown2.lt k hk).1)
      have HKP : Hid (∀ W, Kp w1.heap.size w4 v4 W → Kp w1.heap.size wr _ W ∧ Agr wr.heap.size w2.heap.size w2 W) := fun W hW => kp_step hb2 (fun k hk => hown.out.lt k hk) hsz hg4 hat4 hW
      have HO4 := Lib.hid hown4
      clear hown2 hg4 hat4 hown4
      go_wp2
      go_roundg (gk - 1)
      case measure => omega
      case rel => exact ⟨j + 1, kj ++ [⟨lfv b2, x, q⟩], by go_num, by omega, by omega, hb4, by rw [kvs_append]; exact HO4, ⟨by rw [List.length_append, hk.out.1]; rfl, by rw [fl_append, fl_one, hk.out.2.1, HTk.out], by rw [List.map_append, hk.out.2.2, HRg.out]; rfl⟩, fun W hW hKW => (hR.out W hW (HKP.out W hKW).1).append (fun y hy => by rw [List.mem_singleton.1 hy]; exact HN.out W (HKP.out W hKW).2)⟩
    · have hj : j = m := by omega
      subst hj
      obtain ⟨A2, c2, rfl, hI, hl2, hcap⟩ := vs_of_own hown.out
      have HE : Hid (Made wr 1 n l (.slice A2 j c2)) := made_of HM.out hI hcap (hR.out wr (hb1.trans (hb.mono hb1.size)) (Kp.self _ _ _)) (by rw [hk.out.2.1, cutAt_end n j (by have := HM.out; omega), List.take_of_length_le (by rw [HL.out]; omega)]) hk.out.1 hk.out.2.2
      clear hI hcap hown hl2 hR
      go_wp2
      go_ret
      exact ⟨_, rfl, HE.out, hb1.trans (hb.mono hb1.size)⟩
theorem VsAt.cutK {w : World} {A : Option Addr} {ks : List Kd} {n : Nat} (h : VsAt w A (kvs ks)) (hl : ks.length = n) (k m : Nat) (hk : k + m ≤ n) : VsAt w (A.map (·.add k)) (kvs ((ks.drop k).take m)) := by
  intro hp
  have hlen : ((ks.drop k).take m).length = m := by rw [List.length_take, List.length_drop]; omega
  rw [kvs_length, hlen] at hp
  obtain ⟨b, off, rfl, hb, hc⟩ := h (by rw [kvs_length]; omega)
  refine ⟨b, off + k, by simp only [Option.map_some, Go.WideShapes.add_plain], hb, fun j hj => ?_⟩
  rw [kvs_length, hlen] at hj
  have e := hc (k + j) (by rw [kvs_length]; omega)
  rw [vth_kvs ks (by omega)] at e
  rw [vth_kvs _ (by omega), Nat.add_assoc, e]
  congr 2
  rw [kth_get ks (by omega), kth_get _ (by omega)]
  simp
theorem Caps.cutK {A : Option Addr} {n c : Nat} (h : Caps A n c) (k m : Nat) (hk : k + m ≤ n) : Caps (A.map (·.add k)) m (c - k) := by
  obtain ⟨h1, h2⟩ := h
  refine ⟨by omega, fun e => ?_⟩
  have := h2 (by simpa using e)
  omega
set_option maxHeartbeats 4000000 in
set_option maxRecDepth 100000 in
theorem branches_any (h : Nat) (A : Option Addr) (n c : Nat) (ks : List Kd) (w : World) (hA : VsAt w A (kvs ks)) (hl : ks.length = n) (hc : Caps A n c) (hn : n ≤ 100000) (hr : Row (h + 1) w ks) (hw : Wd ks) (hz : (fl ks).length ≤ 100000) :
    Calls Try.prog 112 #[.slice A n c] w fun e w' => ∃ v, e = .returned v ∧ Made w' (h + 2) n (fl ks) v ∧ Below w.heap.size w w' := by
  obtain ⟨m, hm⟩ : ∃ m, m = (n + 7) / 8 := ⟨_, rfl⟩
  have C0 := Lib.hid (spreadV_any A n c m w hc hn hm)
  have HA := Lib.hid hA
  have HL := Lib.hid hl
  have HC := Lib.hid hc
  have HR := Lib.hid hr
  have HW := Lib.hid hw
  have HZ := Lib.hid hz
  have HM := Lib.hid hm
  have hm1 : m ≤ 100000 := by omega
  have hmn : m ≤ n := by omega
  clear hA hl hc hr hw hz hm
  go_enter Try.func112, Try.ntmps112
  go_wp2_with fail
  refine C0.out.mono ?_
  rintro e w1 ⟨P, cp, rfl, hb1, hP, hcP⟩
  have HP := Lib.hid hP; clear hP hcP
  go_wp2
  go_loopg [3, 9] m (fun k v i wr => ∃ (j : Nat) (kj : List Kd), i = .int .i64 j ∧ j ≤ m ∧ m - j ≤ k ∧ Below w1.heap.size w1 wr ∧ Hid (wr.ownsRow w1.heap.size 135 1 v j (kvs kj)) ∧ Hid (kj.length = j ∧ fl kj = fl (ks.take (cutAt n m j)) ∧ kj.map Kd.c = (List.range j).map fun i => cutAt n m (i + 1) - cutAt n m i) ∧ Hid (∀ W, Below w.heap.size w W → Kp w1.heap.size wr v W → Row (h + 2) W kj))
  case atStart => exact ⟨0, [], rfl, by omega, by omega, Below.refl _ _, World.ownsRow_nil _ _ _ _, ⟨rfl, by simp [fl, cutAt], rfl⟩, fun W _ _ x hx => absurd hx (by simp)⟩
  case round =>
    obtain ⟨j, kj, rfl, h1, h2, hb, hown, hk, hR⟩ := hrel
    have hsz := hb.size
    by_cases hlt : j < m
    · obtain ⟨b, off, rfl, hbs, hcell⟩ := HP.out (by simp; omega)
      have e0 := hcell j (by simp; exact hlt)
      rw [vth_map _ _ _ hlt] at e0
      have k1 := cutAt_lt n m j (by omega) hmn
      have k2 := cutAt_le n m (j + 1) hlt
      have k3 := cutAt_hi n m j (by omega) (by have := HM.out; omega)
      have HI0 := Lib.hid (HA.out.cutK HL.out (cutAt n m j) (cutAt n m (j + 1) - cutAt n m j) (by omega))
      have HCap := Lib.hid (HC.out.cutK (cutAt n m j) (cutAt n m (j + 1) - cutAt n m j) (by omega))
      have HLn := Lib.hid (show ((ks.drop (cutAt n m j)).take (cutAt n m (j + 1) - cutAt n m j)).length = cutAt n m (j + 1) - cutAt n m j by rw [List.length_take, List.length_drop, HL.out]; omega)
      have HSub := Lib.hid (show ∀ y ∈ (ks.drop (cutAt n m j)).take (cutAt n m (j + 1) - cutAt n m j), y ∈ ks from fun i hi => List.mem_of_mem_drop (List.mem_of_mem_take hi))
      have HTk := Lib.hid (show ks.take (cutAt n m (j + 1)) = ks.take (cutAt n m j) ++ (ks.drop (cutAt n m j)).take (cutAt n m (j + 1) - cutAt n m j) by
        rw [show cutAt n m (j + 1) = cutAt n m j + (cutAt n m (j + 1) - cutAt n m j) by omega, List.take_add]
        congr 2; omega)
      have HZx := Lib.hid (show (fl ((ks.drop (cutAt n m j)).take (cutAt n m (j + 1) - cutAt n m j))).length ≤ 100000 by
        have := HZ.out
        rw [← List.take_append_drop (cutAt n m (j + 1)) ks, fl_append, List.length_append, HTk.out, fl_append, List.length_append] at this
        omega)
      obtain ⟨H1, H2⟩ := old_cells hb
      clear hcell
      unfold part1 at e0
      have HRg := Lib.hid (show (List.range (j + 1)).map (fun i => cutAt n m (i + 1) - cutAt n m i) = (List.range j).map (fun i => cutAt n m (i + 1) - cutAt n m i) ++ [cutAt n m (j + 1) - cutAt n m j] by rw [List.range_succ, List.map_append]; rfl)
      generalize hx : (ks.drop (cutAt n m j)).take (cutAt n m (j + 1) - cutAt n m j) = x at *
      generalize hq : cutAt n m (j + 1) - cutAt n m j = q at *
      generalize hcc : c - cutAt n m j = cc at *
      generalize hAA : A.map (·.add (cutAt n m j)) = AA at *
      clear hx hcc hAA
      have HQ := Lib.hid hq
      have hq0 : 0 < q := by omega
      have hq8 : q ≤ 8 := by omega
      clear hq k1 k2 k3
      have HRx := Lib.hid (show ∀ W, Below w.heap.size w W → Row (h + 1) W x from fun W hW y hy => (HR.out y (HSub.out y hy)).below hW)
      have HWx := Lib.hid (show Wd x from fun y hy => HW.out y (HSub.out y hy))
      have CL := Lib.hid fun (W : World) (hW : Below w.heap.size w W) => newBranch_any h AA q cc x W (HI0.out.below hW) HLn.out hq0 hq8 HCap.out (HRx.out W hW) HWx.out HZx.out
      go_wp2_with fail
      refine (CL.out _ (hb1.trans (hb.mono hb1.size))).mono ?_
      rintro e w2 ⟨b2, rfl, hN, hb2⟩
      have a2 := hb.trans (hb2.mono hsz)
      have hz2 : w1.heap.size ≤ w2.heap.size := a2.size
      have hown2 := own_below hown.out hb2
      have HN := Lib.hid hN; clear hN
      go_wp2_with (at_builtin; refine wpList_append_node1 rfl (.tmp 13) (.tmp 17) rfl w1.heap.size _ j (kvs kj) rfl (hown2.alloc _) w2.heap.size (brv b2) rfl (heap_alloc_new w2 _) rfl (by omega) (by simp; omega) ?_; intro v4 w4 hown4 hg4 hat4)
      have hb4 : Below w1.heap.size w1 w4 := (a2.alloc hz2 _).grown hg4 (by simp; omega) (fun k hk => (hown2.lt k hk).1)
      have HKP : Hid (∀ W, Kp w1.heap.size w4 v4 W → Kp w1.heap.size wr _ W ∧ Agr wr.heap.size w2.heap.size w2 W) := fun W hW => kp_step hb2 (fun k hk => hown.out.lt k hk) hsz hg4 hat4 hW
      have HO4 := Lib.hid hown4
      clear hown2 hg4 hat4 hown4
      go_wp2
      go_roundg (gk - 1)
      case measure => omega
      case rel => exact ⟨j + 1, kj ++ [⟨brv b2, fl x, q⟩], by go_num, by omega, by omega, hb4, by rw [kvs_append]; exact HO4, ⟨by rw [List.length_append, hk.out.1]; rfl, by rw [fl_append, fl_one, hk.out.2.1, HTk.out, fl_append], by rw [List.map_append, hk.out.2.2, HRg.out]; rfl⟩, fun W hW hKW => (hR.out W hW (HKP.out W hKW).1).append (fun y hy => by rw [List.mem_singleton.1 hy]; exact HN.out W (HKP.out W hKW).2 (HRx.out W hW))⟩
    · have hj : j = m := by omega
      subst hj
      obtain ⟨A2, c2, rfl, hI, hl2, hcap⟩ := vs_of_own hown.out
      have HE : Hid (Made wr (h + 2) n (fl ks) (.slice A2 j c2)) := made_of HM.out hI hcap (hR.out wr (hb1.trans (hb.mono hb1.size)) (Kp.self _ _ _)) (by rw [hk.out.2.1, cutAt_end n j (by have := HM.out; omega), List.take_of_length_le (by rw [HL.out]; omega)]) hk.out.1 hk.out.2.2
      clear hI hcap hown hl2 hR
      go_wp2
      go_ret
      exact ⟨_, rfl, HE.out, hb1.trans (hb.mono hb1.size)⟩
end Go.Proofs.Ytnfjleobcfhpnaa
