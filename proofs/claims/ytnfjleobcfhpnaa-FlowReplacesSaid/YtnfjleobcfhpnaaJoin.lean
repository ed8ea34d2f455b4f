/- Trees one behind the other: the contracts of tree.crown, join, concat. -/
import Derived.Test.YtnfjleobcfhpnaaLeaves
import Derived.Test.YtnfjleobcfhpnaaConcat
import Derived.Deep.RegionHeld3
namespace Go.Proofs.Ytnfjleobcfhpnaa
open Go.RowKit
/-- A topmost node, or none. -/
def Top (w : World) (v : Value) (l : List I7) (h : Nat) : Prop := (h = 0 ∧ v = .nilIface ∧ l = []) ∨ (∃ c, NodeAt h w ⟨v, l, c⟩ ∧ (2 ≤ h → 2 ≤ c))
theorem Top.below {w w' : World} {v : Value} {l : List I7} {h : Nat} (ht : Top w v l h) (hb : Below w.heap.size w w') : Top w' v l h := by
  rcases ht with h1 | ⟨c, h1, h2⟩
  · exact .inl h1
  · exact .inr ⟨c, h1.below hb, h2⟩
set_option maxHeartbeats 4000000 in
set_option maxRecDepth 100000 in
theorem crown_nil (A : Option Addr) (c : Nat) (w : World) : Calls Try.prog 99 #[.slice A 0 c] w fun e w' => e = .returned .nilIface ∧ w' = w := by
  go_enter Try.func99, Try.ntmps99
  go_wp2
  go_ret
  exact ⟨rfl, rfl⟩
set_option maxHeartbeats 4000000 in
set_option maxRecDepth 100000 in
theorem crown_one (b off c : Nat) (v : Value) (w : World) (h : w.cell? ⟨b, off, none⟩ = some v) : Calls Try.prog 99 #[.slice (some ⟨b, off, none⟩) 1 c] w fun e w' => e = .returned v ∧ w' = w := by
  go_enter Try.func99, Try.ntmps99
  go_wp2
  go_ret
  exact ⟨rfl, rfl⟩
set_option maxHeartbeats 4000000 in
set_option maxRecDepth 100000 in
theorem crown_more (h : Nat) (A : Option Addr) (n c : Nat) (ks : List Kd) (w : World) (hA : VsAt w A (kvs ks)) (hl : ks.length = n) (hp : 2 ≤ n) (hn : n ≤ 8) (hc : Caps A n c) (hr : Row (h + 1) w ks) (hw : Wd ks) (hz : (fl ks).length ≤ 100000) :
    Calls Try.prog 99 #[.slice A n c] w fun e w' => ∃ b, e = .returned (brv b) ∧ NodeAt (h + 2) w' ⟨brv b, fl ks, n⟩ ∧ Below w.heap.size w w' := by
  have C1 := Lib.hid (newBranch_any h A n c ks w hA hl (by omega) hn hc hr hw hz)
  have HR := Lib.hid hr
  clear hA hl hc hr hw hz
  have n0 : ¬ n = 0 := by omega
  have n1 : ¬ n = 1 := by omega
  go_enter Try.func99, Try.ntmps99
  go_wp2_with fail
  refine C1.out.mono ?_
  rintro e w1 ⟨b, rfl, hN, hb⟩
  have HN := Lib.hid (hN w1 (Agr.self _ _) (HR.out.below hb)); clear hN
  go_wp2
  go_ret
  exact ⟨b, rfl, HN.out, hb⟩
theorem crown_any (h : Nat) (A : Option Addr) (n c : Nat) (ks : List Kd) (w : World) (hA : VsAt w A (kvs ks)) (hl : ks.length = n) (hn : n ≤ 8) (hc : Caps A n c) (hr : Row (h + 1) w ks) (hw : 2 ≤ n → Wd ks) (hz : (fl ks).length ≤ 100000) (h1 : n = 1 → 2 ≤ h + 1 → 2 ≤ (kth ks 0).c) :
    Calls Try.prog 99 #[.slice A n c] w fun e w' => ∃ v h', e = .returned v ∧ Top w' v (fl ks) h' ∧ Below w.heap.size w w' := by
  rcases Nat.eq_zero_or_pos n with h0 | hp
  · subst h0
    refine (crown_nil A c w).mono ?_
    rintro e w' ⟨rfl, rfl⟩
    exact ⟨_, 0, rfl, .inl ⟨rfl, rfl, by rw [List.eq_nil_of_length_eq_zero hl]; rfl⟩, Below.refl _ _⟩
  · by_cases hn1 : n = 1
    · subst hn1
      obtain ⟨b, off, rfl, hbs, hcell⟩ := hA (by rw [kvs_length]; omega)
      have e0 := hcell 0 (by rw [kvs_length]; omega)
      rw [vth_kvs ks (by omega)] at e0
      refine (crown_one b off c _ w e0).mono ?_
      rintro e w' ⟨rfl, rfl⟩
      obtain ⟨k, rfl⟩ : ∃ k, ks = [k] := by
        match ks, hl with
        | [k], _ => exact ⟨k, rfl⟩
      exact ⟨_, h + 1, rfl, .inr ⟨k.c, by rw [fl_one]; exact hr k (by simp), h1 rfl⟩, Below.refl _ _⟩
    · refine (crown_more h A n c ks w hA hl (by omega) hn hc hr (hw (by omega)) hz).mono ?_
      rintro e w' ⟨b, rfl, hN, hb⟩
      exact ⟨_, h + 2, rfl, .inr ⟨n, hN, fun _ => by omega⟩, hb⟩
/-- What join answers. -/
def Joined (w : World) (ha hb : Nat) (a b : Kd) (v : Value) : Prop :=
  ∃ ks R cp, v = .slice R ks.length cp ∧ VsAt w R (kvs ks) ∧ Caps R ks.length cp ∧ Row (max ha hb) w ks ∧ fl ks = a.l ++ b.l ∧ 1 ≤ ks.length ∧ ks.length ≤ 2 ∧ (2 ≤ ks.length → Wd ks) ∧ (ks.length = 1 → (hb ≤ ha → a.c ≤ (kth ks 0).c) ∧ (ha ≤ hb → b.c ≤ (kth ks 0).c))
theorem joined_of_made {w : World} {ha hb n : Nat} {a b : Kd} {v : Value} {l : List I7} (hm : Made w (max ha hb) n l v) (hl : l = a.l ++ b.l) (h1 : 1 ≤ n) (h2 : n ≤ 16) (h3 : hb ≤ ha → a.c ≤ n) (h4 : ha ≤ hb → b.c ≤ n) : Joined w ha hb a b v := by
  obtain ⟨ks, R, cp, rfl, hV, hC, hR, hF, hL, hW, hK⟩ := hm
  refine ⟨ks, R, cp, rfl, hV, hC, hR, hF.trans hl, by omega, by omega, hW, fun h => ⟨fun h5 => ?_, fun h5 => ?_⟩⟩
  · rw [hK (by omega) (by omega)]; exact h3 h5
  · rw [hK (by omega) (by omega)]; exact h4 h5
theorem kth_len (ks : List Kd) {j : Nat} (h : j < ks.length) : (kth ks j).l.length ≤ (fl ks).length := by
  have e := fl_take ks h
  have e2 : fl ks = fl (ks.take (j + 1)) ++ fl (ks.drop (j + 1)) := by rw [← fl_append, List.take_append_drop]
  rw [e2, e, List.length_append, List.length_append]
  omega
theorem VsAt.front {w : World} {A : Option Addr} {ks : List Kd} (h : VsAt w A (kvs ks)) (k : Nat) : VsAt w A (kvs (ks.take k)) := by
  intro hp
  rw [kvs_length, List.length_take] at hp
  obtain ⟨b, off, rfl, hb, hc⟩ := h (by rw [kvs_length]; omega)
  refine ⟨b, off, rfl, hb, fun j hj => ?_⟩
  rw [kvs_length, List.length_take] at hj
  have e := hc j (by rw [kvs_length]; omega)
  rw [vth_kvs ks (by omega)] at e
  rw [vth_kvs _ (by rw [List.length_take]; omega), e]
  congr 2
  rw [kth_get ks (by omega), kth_get _ (by rw [List.length_take]; omega)]
  simp
theorem wd_one {k2 : List Kd} (h : k2.length = 1) (h4 : 4 ≤ (kth k2 0).c) : Wd k2 := by
  match k2, h with
  | [k], _ => intro x hx; rw [List.mem_singleton.1 hx]; exact h4
theorem wd_two {k2 : List Kd} (h1 : 1 ≤ k2.length) (h2 : k2.length ≤ 2) (h3 : 2 ≤ k2.length → Wd k2) (h4 : k2.length = 1 → 4 ≤ (kth k2 0).c) : Wd k2 := by
  by_cases h : 2 ≤ k2.length
  · exact h3 h
  · exact wd_one (by omega) (h4 (by omega))
theorem two_vs {w : World} {b : Nat} {x y : Value} {t : TypeId} (h : w.heap[b]? = some (.cells #[x, y] t (0, 0))) : VsAt w (some ⟨b, 0, none⟩) [x, y] := by
  intro _
  refine ⟨b, 0, rfl, block_lt h, fun k hk => ?_⟩
  rw [cell_of_row w b _ _ _ _ h, Nat.zero_add]
  obtain rfl | rfl : k = 0 ∨ k = 1 := by simp at hk; omega
  · rfl
  · rfl
set_option maxHeartbeats 4000000 in
set_option maxRecDepth 100000 in
theorem join_gt (ha hb : Nat) (a b : Kd) (w : World) (hA : NodeAt (ha + 2) w a) (hB : NodeAt hb w b) (hz : a.l.length + b.l.length ≤ 100000) (hgt : hb < ha + 2)
    (IH : ∀ (x : Kd) (W : World), NodeAt (ha + 1) W x → NodeAt hb W b → x.l.length + b.l.length ≤ 100000 → Calls Try.prog 100 #[x.v, b.v] W fun e w' => ∃ v, e = .returned v ∧ Joined w' (ha + 1) hb x b v ∧ Below W.heap.size W w') :
    Calls Try.prog 100 #[a.v, b.v] w fun e w' => ∃ v, e = .returned v ∧ Joined w' (ha + 2) hb a b v ∧ Below w.heap.size w w' := by
  have CA := Lib.hid (heightOf_any (ha + 2) w a hA)
  have CB := Lib.hid (heightOf_any hb w b hB)
  obtain ⟨ba, A, c, ks, q, hk⟩ := hA
  rw [q.v] at CA ⊢
  obtain ⟨e0, _⟩ := raw_bcs q.raw
  have hgt' : (hb : Int) < (ha : Int) + 2 := by omega
  have t2 := tp_b
  obtain ⟨p, hp⟩ : ∃ p, a.c = p + 1 := ⟨a.c - 1, by have := q.pos; omega⟩
  rw [hp] at e0
  have hp8 : p + 1 ≤ 8 := by have := q.most; omega
  have hlen := q.len
  have hmem : kth ks p ∈ ks := kth_mem ks (by omega)
  obtain ⟨bA, off, hAe, hbA, hcell⟩ := q.kids (by rw [kvs_length]; omega)
  have eP := hcell p (by rw [kvs_length]; omega)
  rw [vth_kvs ks (by omega)] at eP
  have hcap := q.caps
  rw [hp] at hcap
  have hcp : p + 1 ≤ c := hcap.1
  have hpc : p ≤ c := by omega
  have CJ := Lib.hid fun (W : World) (hW : Below w.heap.size w W) => IH (kth ks p) W ((hk _ hmem).1.below hW) (hB.below hW) (by have := kth_len ks (show p < ks.length by omega); rw [q.fl] at this; omega)
  have E := Lib.hid fun (W : World) (hW : Below w.heap.size w W) => ((old_cells hW).1 _ _ hbA).trans eP
  have HF := Lib.hid fun (W : World) (hW : Below w.heap.size w W) => (q.kids.front p).below hW
  have HR := Lib.hid fun (W : World) (hW : Below w.heap.size w W) => (show Row (ha + 1) W (ks.take p) from fun x hx => (hk x (List.mem_of_mem_take hx)).1.below hW)
  have HWd := Lib.hid (show Wd (ks.take p) from fun x hx => (hk x (List.mem_of_mem_take hx)).2)
  have HC := Lib.hid (show Caps A p c from ⟨hpc, hcap.2⟩)
  have HLp := Lib.hid (show (kvs (ks.take p)).length = p by rw [kvs_length, List.length_take]; omega)
  have HFl := Lib.hid (show fl (ks.take p) ++ (kth ks p).l = a.l by rw [← q.fl, ← fl_take ks (by omega), List.take_of_length_le (by omega)])
  have Hc4 := Lib.hid (hk _ hmem).2
  have HP := Lib.hid hp
  subst hAe
  have Hgt := Lib.hid hgt
  clear hcell hk hlen q hp hcap IH hmem hB hgt
  generalize kth ks p = x at *
  unfold brv at *
  obtain ⟨i1, hi1, _, _, _⟩ := info_parts node_info
  have s1 := fun W : World => cut_front (P := Try.prog) Try.underlying168 hi1 (some ⟨bA, off, none⟩) (p + 1) c p hpc W
  go_enter Try.func100, Try.ntmps100
  go_wp2_with fail
  refine CA.out.mono ?_
  rintro e w1 ⟨rfl, rfl⟩
  go_wp2_with fail
  refine CB.out.mono ?_
  rintro e w1 ⟨rfl, rfl⟩
  go_wp2_with fail
  have hq1 : IntKind.i64.wrap (p : Int) = (p : Int) := IntWalk.i64_in _ (by omega)
  have hq2 : IntKind.i64.wrap ((p : Int) + 1 - 1) = (p : Int) := by rw [show (p : Int) + 1 - 1 = (p : Int) from by omega]; exact hq1
  have hq3 : (0 : Int) ≤ (p : Int) := by omega
  have hq4 : (p : Int) < (p : Int) + 1 := by omega
  have hq5 : (p : Int) ≤ (c : Int) := by omega
  have hW2 : Below w1.heap.size w1 w1.drew := (Below.refl _ _).drew
  have MK := Lib.hid fun (W : World) (hW : Below w1.heap.size w1 W) => (⟨E.out W hW, hW⟩ : W.cell? ⟨bA, off + p, none⟩ = some x.v ∧ Below w1.heap.size w1 W)
  go_region_held3 (fun W => W.cell? ⟨bA, off + p, none⟩ = some x.v ∧ Below w1.heap.size w1 W) (first | (with_reducible exact MK.out _ hW2) | (with_reducible exact MK.out _ (Below.refl _ _)) | (exact MK.out _ (hW2.alloc hW2.size _)) | go_keep)
    (first
      | (go_at_call 100; ((with_reducible refine (CJ.out _ hW2).mono ?_); rintro e w2 ⟨v2, rfl, ⟨k2, R2, p2, rfl, hV2, hC2, hR2, hF2, hl2, hm2, hw2, hk2⟩, hb2⟩); have hW2 := hW2.trans (hb2.mono hW2.size); have hk4 : Wd k2 := wd_two hl2 hm2 hw2 (fun h => Nat.le_trans Hc4.out ((hk2 h).1 (by have := Hgt.out; omega))); rw [show max (ha + 1) hb = ha + 1 from Nat.max_eq_left (by have := Hgt.out; omega)] at hR2; have hzz : (fl (ks.take p ++ k2)).length ≤ 100000 := (by rw [fl_append, hF2, ← List.append_assoc, HFl.out, List.length_append]; exact hz))
      | (go_at_call 116; have a3 := hW2.alloc hW2.size (.cells #[.slice (some ⟨bA, off, none⟩) p c, .slice R2 k2.length p2] 168); have q3 : Below w2.heap.size w2 (w2.alloc (.cells #[.slice (some ⟨bA, off, none⟩) p c, .slice R2 k2.length p2] 168)) := (Below.refl _ _).alloc (Nat.le_refl _) _; ((with_reducible refine (concatV_any _ _ _ p c k2.length p2 (kvs (ks.take p)) (kvs k2) _ (two_vs (heap_alloc_new w2 _)) (HF.out _ a3) HLp.out HC.out (hV2.below q3) (kvs_length k2) hC2 (by omega) (by omega) (by rw [← kvs_append]; exact ((HR.out _ hW2).append hR2).one)).mono ?_); rintro e w3 ⟨A4, c4, rfl, hb3, hV3, hC3⟩); have hW2 := a3.trans (hb3.mono a3.size); rw [← kvs_append] at hV3; have hR3 := hR2.below (q3.trans (hb3.mono q3.size)))
      | (go_at_call 112; ((with_reducible refine (branches_any ha A4 (p + k2.length) c4 (ks.take p ++ k2) _ hV3 (by rw [List.length_append, ← kvs_length (ks.take p), HLp.out]) hC3 (by omega) ((HR.out _ hW2).append hR3) (HWd.out.append hk4) hzz).mono ?_); rintro e w4 ⟨v4, rfl, hM4, hb4⟩); have hW2 := hW2.trans (hb4.mono hW2.size)))
  have HX : Hid (Joined w4 (ha + 2) hb a b v4) := joined_of_made (by rw [Nat.max_eq_left (by have := Hgt.out; omega)]; exact hM4) (by rw [fl_append, hF2, ← List.append_assoc, HFl.out]) (by omega) (by omega) (fun _ => by rw [HP.out]; omega) (fun h => by have := Hgt.out; omega)
  clear hM4
  go_wp2
  go_ret
  exact ⟨_, rfl, HX.out, hW2⟩
theorem cut_back1 {P : Program} {t e : TypeId} (ht : P.underlying t = some (.slice e)) {i : TypeInfo} (hi : P.info? e = some i) (h1 : P.cellsOf e = 1) (A : Option Addr) (n c k : Nat) (hk : k ≤ n) (w : World) :
    (Instr.slice t (.slice A n c) (some (.int .i64 k)) none none).run P w = .ok (.slice (if c = k then A else A.map (·.add k)) (n - k) (c - k)) w := by
  have he : P.elem t = e := by simp [Program.elem, ht]
  subst he
  rw [run_slice_l _ _ _ _ _ ht _ _ (by omega) (by omega), run_sizeOf _ hi, h1]
  simp [Result.andThen, sliced]
theorem VsAt.back {w : World} {A : Option Addr} {ks : List Kd} {n c : Nat} (h : VsAt w A (kvs ks)) (hl : ks.length = n) (hc : Caps A n c) (k : Nat) (hk : k ≤ n) : VsAt w (if c = k then A else A.map (·.add k)) (kvs (ks.drop k)) ∧ Caps (if c = k then A else A.map (·.add k)) (n - k) (c - k) := by
  by_cases hck : c = k
  · rw [if_pos hck]
    refine ⟨fun hp => ?_, ?_⟩
    · rw [kvs_length, List.length_drop] at hp
      have := hc.1
      omega
    · exact ⟨by have := hc.1; omega, fun e => by have := hc.2 e; omega⟩
  · rw [if_neg hck]
    refine ⟨?_, hc.cutK k (n - k) (by omega)⟩
    have := h.cutK hl k (n - k) (by omega)
    rwa [show (ks.drop k).take (n - k) = ks.drop k from List.take_of_length_le (by rw [List.length_drop]; omega)] at this
theorem fl_drop (ks : List Kd) (h : 0 < ks.length) : (kth ks 0).l ++ fl (ks.drop 1) = fl ks := by
  match ks, h with
  | k :: r, _ => simp [fl, kth]
set_option maxHeartbeats 4000000 in
set_option maxRecDepth 100000 in
theorem join_lt (ha hb : Nat) (a b : Kd) (w : World) (hA : NodeAt ha w a) (hB : NodeAt (hb + 2) w b) (hz : a.l.length + b.l.length ≤ 100000) (hgt : ha < hb + 2)
    (IH : ∀ (x : Kd) (W : World), NodeAt ha W a → NodeAt (hb + 1) W x → a.l.length + x.l.length ≤ 100000 → Calls Try.prog 100 #[a.v, x.v] W fun e w' => ∃ v, e = .returned v ∧ Joined w' ha (hb + 1) a x v ∧ Below W.heap.size W w') :
    Calls Try.prog 100 #[a.v, b.v] w fun e w' => ∃ v, e = .returned v ∧ Joined w' ha (hb + 2) a b v ∧ Below w.heap.size w w' := by
  have CA := Lib.hid (heightOf_any ha w a hA)
  have CB := Lib.hid (heightOf_any (hb + 2) w b hB)
  obtain ⟨ba, A, c, ks, q, hk⟩ := hB
  rw [q.v] at CB ⊢
  obtain ⟨e0, _⟩ := raw_bcs q.raw
  have hgt1 : ¬ ((hb : Int) + 2 < (ha : Int)) := by omega
  have hgt' : (ha : Int) < (hb : Int) + 2 := by omega
  have t2 := tp_b
  obtain ⟨p, hp⟩ : ∃ p, b.c = p + 1 := ⟨b.c - 1, by have := q.pos; omega⟩
  rw [hp] at e0
  have hp8 : p + 1 ≤ 8 := by have := q.most; omega
  have hlen := q.len
  have hmem : kth ks 0 ∈ ks := kth_mem ks (by omega)
  obtain ⟨bA, off, hAe, hbA, hcell⟩ := q.kids (by rw [kvs_length]; omega)
  have eP := hcell 0 (by rw [kvs_length]; omega)
  rw [vth_kvs ks (by omega), Nat.add_zero] at eP
  have hcap := q.caps
  rw [hp] at hcap
  have hcp : p + 1 ≤ c := hcap.1
  have CJ := Lib.hid fun (W : World) (hW : Below w.heap.size w W) => IH (kth ks 0) W (hA.below hW) ((hk _ hmem).1.below hW) (by have := kth_len ks (show 0 < ks.length by omega); rw [q.fl] at this; omega)
  have E := Lib.hid fun (W : World) (hW : Below w.heap.size w W) => ((old_cells hW).1 _ _ hbA).trans eP
  have hbk := q.kids.back (show ks.length = p + 1 by omega) hcap 1 (by omega)
  have hbk2 := hbk.2
  rw [show p + 1 - 1 = p from rfl] at hbk2
  have HF := Lib.hid fun (W : World) (hW : Below w.heap.size w W) => hbk.1.below hW
  have HR := Lib.hid fun (W : World) (hW : Below w.heap.size w W) => (show Row (hb + 1) W (ks.drop 1) from fun x hx => (hk x (List.mem_of_mem_drop hx)).1.below hW)
  have HWd := Lib.hid (show Wd (ks.drop 1) from fun x hx => (hk x (List.mem_of_mem_drop hx)).2)
  have HC := Lib.hid hbk2
  have HLp := Lib.hid (show (kvs (ks.drop 1)).length = p by rw [kvs_length, List.length_drop]; omega)
  have HFl := Lib.hid (show (kth ks 0).l ++ fl (ks.drop 1) = b.l by rw [fl_drop ks (by omega), q.fl])
  have Hc4 := Lib.hid (hk _ hmem).2
  have HP := Lib.hid hp
  subst hAe
  have Hgt := Lib.hid hgt
  obtain ⟨i1, hi1, _, _, _⟩ := info_parts node_info
  have s1 : ∀ W : World, (Instr.slice 168 (.slice (some ⟨bA, off, none⟩) (p + 1) c) (some (.int .i64 1)) none none).run Try.prog W = .ok (.slice (if c = 1 then (some ⟨bA, off, none⟩ : Option Addr) else (some (⟨bA, off, none⟩ : Addr)).map (·.add 1)) (p + 1 - 1) (c - 1)) W := fun W : World => cut_back1 (P := Try.prog) Try.underlying168 hi1 (by kernel_rfl) (some ⟨bA, off, none⟩) (p + 1) c 1 (by omega) W
  rw [show p + 1 - 1 = p from rfl] at s1
  clear hcell hk hlen q hp hcap IH hmem hA hgt hbk hbk2
  generalize kth ks 0 = x at *
  have hA1 : ∃ AA, AA = (if c = 1 then (some ⟨bA, off, none⟩ : Option Addr) else (some (⟨bA, off, none⟩ : Addr)).map (·.add 1)) := ⟨_, rfl⟩
  obtain ⟨AA, hAA⟩ := hA1
  rw [← hAA] at s1 HF HC
  have HAA := Lib.hid hAA; clear hAA
  have hD1 : ∃ cc, cc = c - 1 := ⟨_, rfl⟩
  obtain ⟨cc, hcc⟩ := hD1
  rw [← hcc] at s1 HC
  have HCC := Lib.hid hcc; clear hcc
  unfold brv at *
  go_enter Try.func100, Try.ntmps100
  go_wp2_with fail
  refine CA.out.mono ?_
  rintro e w1 ⟨rfl, rfl⟩
  go_wp2_with fail
  refine CB.out.mono ?_
  rintro e w1 ⟨rfl, rfl⟩
  go_wp2_with fail
  have hq3 : (0 : Int) < (p : Int) + 1 := by omega
  have hW2 : Below w1.heap.size w1 w1.drew := (Below.refl _ _).drew
  have MK := Lib.hid fun (W : World) (hW : Below w1.heap.size w1 W) => (⟨E.out W hW, hW⟩ : W.cell? ⟨bA, off, none⟩ = some x.v ∧ Below w1.heap.size w1 W)
  go_region_held3 (fun W => W.cell? ⟨bA, off, none⟩ = some x.v ∧ Below w1.heap.size w1 W) (first | (with_reducible exact MK.out _ hW2) | (with_reducible exact MK.out _ (Below.refl _ _)) | (exact MK.out _ (hW2.alloc hW2.size _)) | go_keep)
    (first
      | (go_at_call 100; ((with_reducible refine (CJ.out _ hW2).mono ?_); rintro e w2 ⟨v2, rfl, ⟨k2, R2, p2, rfl, hV2, hC2, hR2, hF2, hl2, hm2, hw2, hk2⟩, hb2⟩); have hW2 := hW2.trans (hb2.mono hW2.size); have hk4 : Wd k2 := wd_two hl2 hm2 hw2 (fun h => Nat.le_trans Hc4.out ((hk2 h).2 (by have := Hgt.out; omega))); rw [show max ha (hb + 1) = hb + 1 from Nat.max_eq_right (by have := Hgt.out; omega)] at hR2; have hzz : (fl (k2 ++ ks.drop 1)).length ≤ 100000 := (by rw [fl_append, hF2, List.append_assoc, HFl.out, List.length_append]; exact hz))
      | (go_at_call 116; have a3 := hW2.alloc hW2.size (.cells #[.slice R2 k2.length p2, .slice AA p cc] 168); have q3 : Below w2.heap.size w2 (w2.alloc (.cells #[.slice R2 k2.length p2, .slice AA p cc] 168)) := (Below.refl _ _).alloc (Nat.le_refl _) _; ((with_reducible refine (concatV_any _ _ _ k2.length p2 p cc (kvs k2) (kvs (ks.drop 1)) _ (two_vs (heap_alloc_new w2 _)) (hV2.below q3) (kvs_length k2) hC2 (HF.out _ a3) HLp.out HC.out (by omega) (by omega) (by rw [← kvs_append]; exact (hR2.append (HR.out _ hW2)).one)).mono ?_); rintro e w3 ⟨A4, c4, rfl, hb3, hV3, hC3⟩); have hW2 := a3.trans (hb3.mono a3.size); rw [← kvs_append] at hV3; have hR3 := hR2.below (q3.trans (hb3.mono q3.size)))
      | (go_at_call 112; ((with_reducible refine (branches_any hb A4 (k2.length + p) c4 (k2 ++ ks.drop 1) _ hV3 (by rw [List.length_append, ← kvs_length (ks.drop 1), HLp.out]) hC3 (by omega) (hR3.append (HR.out _ hW2)) (hk4.append HWd.out) hzz).mono ?_); rintro e w4 ⟨v4, rfl, hM4, hb4⟩); have hW2 := hW2.trans (hb4.mono hW2.size)))
  have HX : Hid (Joined w4 ha (hb + 2) a b v4) := joined_of_made (by rw [Nat.max_eq_right (by have := Hgt.out; omega)]; exact hM4) (by rw [fl_append, hF2, List.append_assoc, HFl.out]) (by omega) (by omega) (fun h => by have := Hgt.out; omega) (fun _ => by rw [HP.out]; omega)
  clear hM4
  go_wp2
  go_ret
  exact ⟨_, rfl, HX.out, hW2⟩
theorem NodeAt.ifc {h : Nat} {w : World} {k : Kd} (hk : NodeAt h w k) : ∃ t v, k.v = .iface t v := by
  match h, hk with
  | 1, ⟨b, A, c, q⟩ => exact ⟨_, _, q.v⟩
  | h + 2, ⟨b, A, c, ks, q, _⟩ => exact ⟨_, _, q.v⟩
set_option maxHeartbeats 4000000 in
set_option maxRecDepth 100000 in
theorem join_two (h : Nat) (a b : Kd) (w : World) (hA : NodeAt h w a) (hB : NodeAt h w b) (h1 : 4 ≤ a.c) (h2 : 4 ≤ b.c) (h3 : 8 < a.c + b.c) :
    Calls Try.prog 100 #[a.v, b.v] w fun e w' => ∃ v, e = .returned v ∧ Joined w' h h a b v ∧ Below w.heap.size w w' := by
  have CA := Lib.hid (heightOf_any h w a hA)
  have CB := Lib.hid (heightOf_any h w b hB)
  have DA := Lib.hid (countOf_any h w a hA)
  have DB := Lib.hid (countOf_any h w b hB)
  have hq1 : IntKind.i64.wrap ((a.c : Int) + (b.c : Int)) = (a.c : Int) + (b.c : Int) := IntWalk.i64_in _ (by have := hA.cnt; have := hB.cnt; omega)
  have i1 : (4 : Int) ≤ (a.c : Int) := by omega
  have i2 : (4 : Int) ≤ (b.c : Int) := by omega
  have i3 : (8 : Int) < (a.c : Int) + (b.c : Int) := by omega
  have HX : Hid (Joined (w.alloc (.cells #[a.v, b.v] 135)) h h a b (.slice (some ⟨w.heap.size, 0, none⟩) 2 2)) := by
    have hb : Below w.heap.size w (w.alloc (.cells #[a.v, b.v] 135)) := (Below.refl _ _).alloc (Nat.le_refl _) _
    refine ⟨[a, b], _, 2, rfl, two_vs (heap_alloc_new w _), ⟨Nat.le_refl _, fun e => by cases e⟩, fun x hx => ?_, by simp [fl], by simp, by simp, fun _ x hx => ?_, fun e => by simp at e⟩
    · rw [Nat.max_self]
      rcases List.mem_cons.1 hx with rfl | hx
      · exact hA.below hb
      · rw [List.mem_singleton.1 hx]; exact hB.below hb
    · rcases List.mem_cons.1 hx with rfl | hx
      · exact h1
      · rw [List.mem_singleton.1 hx]; exact h2
  obtain ⟨t1, v1, ea⟩ := hA.ifc
  obtain ⟨t2, v2, eb⟩ := hB.ifc
  rw [ea] at CA DA HX ⊢
  rw [eb] at CB DB HX ⊢
  clear hA hB
  go_enter Try.func100, Try.ntmps100
  go_wp2_with fail
  refine CA.out.mono ?_
  rintro e w1 ⟨rfl, rfl⟩
  go_wp2_with fail
  refine CB.out.mono ?_
  rintro e w1 ⟨rfl, rfl⟩
  go_wp2_with fail
  refine DA.out.mono ?_
  rintro e w1 ⟨rfl, rfl⟩
  go_wp2_with fail
  refine DB.out.mono ?_
  rintro e w1 ⟨rfl, rfl⟩
  go_wp2_with fail
  go_ret
  exact ⟨_, rfl, HX.out, (Below.refl _ _).alloc (Nat.le_refl _) _⟩
theorem VsAt.drew_ {w : World} {A : Option Addr} {l : List Value} (h : VsAt w A l) : VsAt w.drew A l := h
set_option maxHeartbeats 8000000 in
set_option maxRecDepth 100000 in
theorem join_leaves (a b : Kd) (w : World) (hA : NodeAt 1 w a) (hB : NodeAt 1 w b) (_hz : a.l.length + b.l.length ≤ 100000) (hc : a.c < 4 ∨ (4 ≤ a.c ∧ b.c < 4) ∨ (4 ≤ a.c ∧ 4 ≤ b.c ∧ a.c + b.c ≤ 8)) :
    Calls Try.prog 100 #[a.v, b.v] w fun e w' => ∃ v, e = .returned v ∧ Joined w' (1) (1) a b v ∧ Below w.heap.size w w' := by
  have CA := Lib.hid (heightOf_any _ w a hA)
  have CB := Lib.hid (heightOf_any _ w b hB)
  have DA := Lib.hid (countOf_any _ w a hA)
  have DB := Lib.hid (countOf_any _ w b hB)
  have hq1 : IntKind.i64.wrap ((a.c : Int) + (b.c : Int)) = (a.c : Int) + (b.c : Int) := IntWalk.i64_in _ (by have := hA.cnt; have := hB.cnt; omega)
  have hn1 := hA.cnt
  have hn2 := hB.cnt
  obtain ⟨ba, A, c, qa⟩ := hA
  obtain ⟨bb, B, d, qb⟩ := hB
  rw [qa.v] at CA DA ⊢
  rw [qb.v] at CB DB ⊢
  have t1 := ta_ll
  have t2 := tp_l
  have ea := fun (W : World) (hW : Below w.heap.size w W) => (raw_lcs (qa.raw.below hW qa.raw.lt)).1
  have eb := fun (W : World) (hW : Below w.heap.size w W) => (raw_lcs (qb.raw.below hW qb.raw.lt)).1
  have EA := Lib.hid ea
  have EB := Lib.hid eb
  have HIA := Lib.hid fun (W : World) (hW : Below w.heap.size w W) => qa.its.below hW
  have HIB := Lib.hid fun (W : World) (hW : Below w.heap.size w W) => qb.its.below hW
  have HLA := Lib.hid qa.len
  have HLB := Lib.hid qb.len
  have HCA := Lib.hid qa.caps
  have HCB := Lib.hid qb.caps
  have HOk := Lib.hid (qa.ok.append_ qb.ok)
  have HLL := Lib.hid (show (a.l ++ b.l).length = a.c + b.c by rw [List.length_append, qa.len, qb.len])
  have HJ : Hid (∀ W v, Made W 1 (a.c + b.c) (a.l ++ b.l) v → Joined W 1 1 a b v) := fun W v hm => joined_of_made (by rw [Nat.max_self]; exact hm) rfl (by omega) (by omega) (fun _ => by omega) (fun _ => by omega)
  clear qa qb ea eb
  generalize a.c = na at *
  generalize b.c = nb at *
  unfold lfv at *
  have hc' : (na : Int) < 4 ∨ ((4 : Int) ≤ (na : Int) ∧ (nb : Int) < 4) ∨ ((4 : Int) ≤ (na : Int) ∧ (4 : Int) ≤ (nb : Int) ∧ (na : Int) + (nb : Int) ≤ 8) := by omega
  clear hc
  rcases hc' with j1 | ⟨j1, j2⟩ | ⟨j1, j2, j3⟩
  all_goals
    go_enter Try.func100, Try.ntmps100
    go_wp2_with fail
    refine CA.out.mono ?_
    rintro e w1 ⟨rfl, rfl⟩
    go_wp2_with fail
    refine CB.out.mono ?_
    rintro e w1 ⟨rfl, rfl⟩
    go_wp2_with fail
    refine DA.out.mono ?_
    rintro e w1 ⟨rfl, rfl⟩
    go_wp2_with fail
    refine DB.out.mono ?_
    rintro e w1 ⟨rfl, rfl⟩
    go_wp2_with fail
    have hW2 : Below w1.heap.size w1 w1.drew := (Below.refl _ _).drew
    have MK := Lib.hid fun (W : World) (hW : Below w1.heap.size w1 W) => (⟨EA.out W hW, EB.out W hW, hW⟩ : W.cell? ⟨ba, 0, none⟩ = some (.slice A na c) ∧ W.cell? ⟨bb, 0, none⟩ = some (.slice B nb d) ∧ Below w1.heap.size w1 W)
    go_region_held3 (fun W => W.cell? ⟨ba, 0, none⟩ = some (.slice A na c) ∧ W.cell? ⟨bb, 0, none⟩ = some (.slice B nb d) ∧ Below w1.heap.size w1 W) (first | (with_reducible exact MK.out _ hW2) | (with_reducible exact MK.out _ (Below.refl _ _)) | (exact MK.out _ (hW2.alloc hW2.size _)) | go_keep)
      (first
        | (go_at_call 118; have a3 : Below w1.heap.size w1 (w1.alloc (.cells #[.slice A na c, .slice B nb d] 106)).drew := ((Below.refl _ _).alloc (Nat.le_refl _) _).drew; ((with_reducible refine (concatI_any _ A B na c nb d a.l b.l _ (two_vs (heap_alloc_new w1 _)).drew_ (HIA.out _ a3) HLA.out HCA.out (HIB.out _ a3) HLB.out HCB.out (by omega) (by omega)).mono ?_); rintro e w3 ⟨A4, c4, rfl, hb3, hV3, hC3⟩); have hW2 := a3.trans (hb3.mono a3.size))
        | (go_at_call 111; ((with_reducible refine (leaves_any A4 (na + nb) c4 (a.l ++ b.l) _ hV3 HLL.out hC3 (by omega) HOk.out).mono ?_); rintro e w4 ⟨v4, rfl, hM4, hb4⟩); have hW2 := hW2.trans (hb4.mono hW2.size)))
    all_goals
      have HX := Lib.hid (HJ.out w4 v4 hM4)
      clear hM4
      go_wp2
      go_ret
      exact ⟨_, rfl, HX.out, hW2⟩
set_option maxHeartbeats 8000000 in
set_option maxRecDepth 100000 in
theorem join_branches (h : Nat) (a b : Kd) (w : World) (hA : NodeAt (h + 2) w a) (hB : NodeAt (h + 2) w b) (hz : a.l.length + b.l.length ≤ 100000) (hc : a.c < 4 ∨ (4 ≤ a.c ∧ b.c < 4) ∨ (4 ≤ a.c ∧ 4 ≤ b.c ∧ a.c + b.c ≤ 8)) :
    Calls Try.prog 100 #[a.v, b.v] w fun e w' => ∃ v, e = .returned v ∧ Joined w' ((h + 2)) ((h + 2)) a b v ∧ Below w.heap.size w w' := by
  have CA := Lib.hid (heightOf_any _ w a hA)
  have CB := Lib.hid (heightOf_any _ w b hB)
  have DA := Lib.hid (countOf_any _ w a hA)
  have DB := Lib.hid (countOf_any _ w b hB)
  have hq1 : IntKind.i64.wrap ((a.c : Int) + (b.c : Int)) = (a.c : Int) + (b.c : Int) := IntWalk.i64_in _ (by have := hA.cnt; have := hB.cnt; omega)
  have hn1 := hA.cnt
  have hn2 := hB.cnt
  obtain ⟨ba, A, c, ka, qa, ra⟩ := hA
  obtain ⟨bb, B, d, kb, qb, rb⟩ := hB
  rw [qa.v] at CA DA ⊢
  rw [qb.v] at CB DB ⊢
  have t1 := ta_bl
  have t2 := tp_b
  have ea := fun (W : World) (hW : Below w.heap.size w W) => (raw_bcs (qa.raw.below hW qa.raw.lt)).1
  have eb := fun (W : World) (hW : Below w.heap.size w W) => (raw_bcs (qb.raw.below hW qb.raw.lt)).1
  have EA := Lib.hid ea
  have EB := Lib.hid eb
  have HIA := Lib.hid fun (W : World) (hW : Below w.heap.size w W) => qa.kids.below hW
  have HIB := Lib.hid fun (W : World) (hW : Below w.heap.size w W) => qb.kids.below hW
  have HLA := Lib.hid (show (kvs ka).length = a.c by rw [kvs_length, qa.len])
  have HLB := Lib.hid (show (kvs kb).length = b.c by rw [kvs_length, qb.len])
  have HCA := Lib.hid qa.caps
  have HCB := Lib.hid qb.caps
  have HR := Lib.hid fun (W : World) (hW : Below w.heap.size w W) => (show Row (h + 1) W (ka ++ kb) from Row.append (fun x hx => (ra x hx).1.below hW) (fun x hx => (rb x hx).1.below hW))
  have HWd := Lib.hid (show Wd (ka ++ kb) from Wd.append (fun x hx => (ra x hx).2) (fun x hx => (rb x hx).2))
  have HFl := Lib.hid (show fl (ka ++ kb) = a.l ++ b.l by rw [fl_append, qa.fl, qb.fl])
  have HLL := Lib.hid (show (ka ++ kb).length = a.c + b.c by rw [List.length_append, qa.len, qb.len])
  have HZ := Lib.hid (show (fl (ka ++ kb)).length ≤ 100000 by rw [fl_append, qa.fl, qb.fl, List.length_append]; exact hz)
  have HJ : Hid (∀ W v, Made W (h + 2) (a.c + b.c) (fl (ka ++ kb)) v → Joined W (h + 2) (h + 2) a b v) := fun W v hm => joined_of_made (by rw [Nat.max_self]; exact hm) (by rw [fl_append, qa.fl, qb.fl]) (by omega) (by omega) (fun _ => by omega) (fun _ => by omega)
  clear qa qb ea eb ra rb
  generalize a.c = na at *
  generalize b.c = nb at *
  unfold brv at *
  have hc' : (na : Int) < 4 ∨ ((4 : Int) ≤ (na : Int) ∧ (nb : Int) < 4) ∨ ((4 : Int) ≤ (na : Int) ∧ (4 : Int) ≤ (nb : Int) ∧ (na : Int) + (nb : Int) ≤ 8) := by omega
  clear hc
  rcases hc' with j1 | ⟨j1, j2⟩ | ⟨j1, j2, j3⟩
  all_goals
    go_enter Try.func100, Try.ntmps100
    go_wp2_with fail
    refine CA.out.mono ?_
    rintro e w1 ⟨rfl, rfl⟩
    go_wp2_with fail
    refine CB.out.mono ?_
    rintro e w1 ⟨rfl, rfl⟩
    go_wp2_with fail
    refine DA.out.mono ?_
    rintro e w1 ⟨rfl, rfl⟩
    go_wp2_with fail
    refine DB.out.mono ?_
    rintro e w1 ⟨rfl, rfl⟩
    go_wp2_with fail
    have hW2 : Below w1.heap.size w1 w1.drew := (Below.refl _ _).drew
    have MK := Lib.hid fun (W : World) (hW : Below w1.heap.size w1 W) => (⟨EA.out W hW, EB.out W hW, hW⟩ : W.cell? ⟨ba, 0, none⟩ = some (.slice A na c) ∧ W.cell? ⟨bb, 0, none⟩ = some (.slice B nb d) ∧ Below w1.heap.size w1 W)
    go_region_held3 (fun W => W.cell? ⟨ba, 0, none⟩ = some (.slice A na c) ∧ W.cell? ⟨bb, 0, none⟩ = some (.slice B nb d) ∧ Below w1.heap.size w1 W) (first | (with_reducible exact MK.out _ hW2) | (with_reducible exact MK.out _ (Below.refl _ _)) | (exact MK.out _ (hW2.alloc hW2.size _)) | go_keep)
      (first
        | (go_at_call 116; have a3 : Below w1.heap.size w1 (w1.alloc (.cells #[.slice A na c, .slice B nb d] 168)).drew := ((Below.refl _ _).alloc (Nat.le_refl _) _).drew; ((with_reducible refine (concatV_any _ A B na c nb d (kvs ka) (kvs kb) _ (two_vs (heap_alloc_new w1 _)).drew_ (HIA.out _ a3) HLA.out HCA.out (HIB.out _ a3) HLB.out HCB.out (by omega) (by omega) (by rw [← kvs_append]; exact (HR.out _ a3).one)).mono ?_); rintro e w3 ⟨A4, c4, rfl, hb3, hV3, hC3⟩); have hW2 := a3.trans (hb3.mono a3.size); rw [← kvs_append] at hV3)
        | (go_at_call 112; ((with_reducible refine (branches_any h A4 (na + nb) c4 (ka ++ kb) _ hV3 HLL.out hC3 (by omega) (HR.out _ hW2) HWd.out HZ.out).mono ?_); rintro e w4 ⟨v4, rfl, hM4, hb4⟩); have hW2 := hW2.trans (hb4.mono hW2.size)))
    all_goals
      have HX := Lib.hid (HJ.out w4 v4 hM4)
      clear hM4
      go_wp2
      go_ret
      exact ⟨_, rfl, HX.out, hW2⟩
end Go.Proofs.Ytnfjleobcfhpnaa
