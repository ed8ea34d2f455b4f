/- utf.Decode: the row that it hands back is new. Source: runes: hands the runes of a stretch of the buffer to a function. Source: spots: hands the spots from a line's beginning on to a function. -/
import Derived.Test.YtpnjokhhbjpciaaGreatDoorBase
import Derived.Test.YtpnjokhhbjpciaaGreatDoorSep
import Derived.Test.YtpnjokhhbjpciaaGreatDoorSoT
import Derived.Test.YtpnjokhhbjpciaaGreatDoorRopePure
import Derived.Test.YtpnjokhhbjpciaaGreatDoorPtv
import Derived.Test.YtpnjokhhbjpciaaGreatDoorRtR
namespace Go.Proofs.YtpnjokhhbjpciaaGreatDoor
section
open Go.RowKit
set_option linter.unusedVariables false
set_option maxHeartbeats 1000000 in
theorem decode_own (s : ByteArray) (w : World) (hs : s.size ≤ 1000000000) :
    Calls Tryz.prog 75 #[.string s] w fun e w' => ∃ A c, e = .returned (.slice A (dec s).length c) ∧ Below w.heap.size w w' ∧ w'.ownsRow w.heap.size 21 1 (.slice A (dec s).length c) (dec s).length ((dec s).map (.int .i32)) := by
  obtain ⟨i0, hi0, hz0, hz1, hz2⟩ := info_parts i32_info
  have hlen := dec_len s
  have hct := fun W => count_any s W hs
  obtain ⟨D, hD⟩ : ∃ D, D = dec s := ⟨_, rfl⟩
  rw [← hD] at hlen ⊢
  simp only [← hD] at hct
  have HC := Lib.hid hct; clear hct
  have HD := Lib.hid hD; clear hD
  obtain ⟨N, hN⟩ : ∃ N, N = D.length := ⟨_, rfl⟩
  rw [← hN] at hlen ⊢
  simp only [← hN] at HC
  have HN := Lib.hid hN; clear hN
  go_enter Tryz.func75, Tryz.ntmps75
  go_wp2_with fail
  refine (HC.out _).mono ?_
  rintro e w1 ⟨rfl, hb1⟩
  go_wp2_with (at_make; refine wpList_make_own _ rfl _ _ 30 rfl w.heap.size 21 i0 (.int .i32 0) 1 Tryz.underlying30 hi0 hz0 hz1 .i64 .i64 _ N rfl rfl (by omega) (by rw [hz2]; omega) (by unfold maxLen; omega) hb1.size ?_; intro w2 hown2 hgrow2)
  have hb2 : Below w.heap.size w w2 := hb1.grown hgrow2 hb1.size (fun k hk => by cases hk)
  clear hb1
  go_loopg [3] (s.size + 1) (fun k v wr => ∃ (pos f : Nat) (acc : List Int), wr.ownsRow w.heap.size 21 1 v acc.length (acc.map (.int .i32)) ∧ wr.heap[w2.heap.size]? = some (.stringIter s pos) ∧ Below w.heap.size w wr ∧ s.size ≤ pos + f ∧ f < k ∧ Hid (D = acc ++ decF s f pos) ∧ acc.length + (decF s f pos).length ≤ s.size)
  case atStart => exact ⟨0, s.size, [], hown2.alloc _, World.iter_heap w2 s 0, hb2.alloc hb2.size _, by omega, by omega, HD.out, by have := dec_len s; unfold dec at this; simpa using this⟩
  case round =>
    obtain ⟨pos, f, acc, hown, hit, hb, h1, h2, h3, h4⟩ := hrel
    have hw2 := hb2.size
    by_cases hp : pos < s.size
    · have hnx : ∀ ty, (Instr.next (.pointer (some ⟨w2.heap.size, 0, none⟩)) true ty).run Tryz.prog wr = _ := fun ty => Lib.run_next_any_at wr w2.heap.size s pos ty hit hp
      have hwd := width_ge s pos
      obtain ⟨f, rfl⟩ : ∃ f', f = f' + 1 := ⟨f - 1, by omega⟩
      rw [decF_step hp] at h3 h4
      simp only [List.length_cons] at h4
      have hit2 := Lib.iterAt_heap wr w2.heap.size s pos (pos + (Utf8.decode s pos).2) hit
      have hb3 := Lib.below_iterAt hb (k := w2.heap.size) hw2 s (pos + (Utf8.decode s pos).2)
      have hown3 := own_iter hown hit (pos + (Utf8.decode s pos).2)
      obtain ⟨W1, hW1⟩ : ∃ W1, W1 = wr.iterAt w2.heap.size s (pos + (Utf8.decode s pos).2) := ⟨_, rfl⟩
      rw [← hW1] at hnx hit2 hb3 hown3
      have hne := own_not_iter hown3 hit2
      have hltt := block_lt hit2
      clear hW1 hit hb hown
      go_wp2_with (at_builtin; refine wpList_append_own _ rfl (.tmp 14) (.tmp 16) _ rfl w.heap.size 21 i0 (.int .i32 0) 1 4 Tryz.underlying30 hi0 hz0 hz1 hz2 rfl (by omega) _ acc.length (acc.map (.int .i32)) rfl (hown3.alloc _) ⟨W1.heap.size, 0, none⟩ 1 1 [.int .i32 ((Utf8.decode s pos).1 : Int)] rfl rfl (one_new _ _ _) (fun u hu => by simp at hu; subst hu; rfl) (by simp only [maxLen]; omega) (by omega) (by have := hb3.size; simp; omega) ?_; intro v4 w4 hown4 hg4 hnil4; clear hnil4)
      have hit4 : w4.heap[w2.heap.size]? = some (.stringIter s (pos + (Utf8.decode s pos).2)) := by
        rw [hg4.block w2.heap.size (by simp; omega) hne, Below.heap_alloc _ _ _ hltt]
        exact hit2
      have hb4 : Below w.heap.size w w4 := (hb3.alloc hb3.size _).grown hg4 (by have := hb3.size; simp; omega) (fun k hk => (hown3.lt k hk).1)
      go_roundg (gk - 1)
      case measure => omega
      case rel => exact ⟨_, f, acc ++ [((Utf8.decode s pos).1 : Int)], by simpa using hown4, hit4, hb4, by omega, by omega, by show D = _; rw [List.append_assoc]; exact h3, by simp; omega⟩
    · have hnx : ∀ ty, (Instr.next (.pointer (some ⟨w2.heap.size, 0, none⟩)) true ty).run Tryz.prog wr = _ := fun ty => Lib.run_next_end_at wr w2.heap.size s pos ty hit hp
      rw [decF_end hp, List.append_nil] at h3
      go_wp2
      go_ret
      obtain ⟨A, c, e, hI, hl, hcap⟩ := IntsAt.of_own hown
      have hD' : D = acc := h3
      rw [HN.out, hD']
      exact ⟨A, c, by rw [← e]; rfl, hb, by rw [← e]; exact hown⟩
end
section
open Go.RowKit Go.Shelf
set_option linter.unusedVariables false
attribute [local go_sem] Oper.semAt_some
def encSp (x : Spot) : Value := .agg #[.int .i64 (x.at_ : Int), .int .i64 (x.has : Int), .int .i32 x.own]
/-- What a round that takes a spot says. -/
def SpY (lp N : Nat) (n₀ : Nat) (J Jx : Bk → List Spot → World → Prop) : Prop := ∀ S pre x V, J S pre V → pre.length < N → n₀ ≤ V.heap.size → x.has ≤ 2 ∧ x.at_ ≤ 20000 → YieldAt Fence.wide 0 Tryz.prog lp #[encSp x] V fun e V' =>
  (e = .returned (.bool true) ∧ KeptS S V V' ∧ ∃ S', (∀ k, S' k → S k ∨ V.heap.size ≤ k) ∧ J S' (pre ++ [x]) V') ∨ (e = .returned (.bool false) ∧ KeptS S V V' ∧ ∃ S', (∀ k, S' k → S k ∨ V.heap.size ≤ k) ∧ Jx S' (pre ++ [x]) V')
theorem own_at {W : World} {base : Nat} {A : Option Addr} {m c : Nat} {l : List Int} (h : W.ownsRow base 21 1 (.slice A m c) m (l.map (.int .i32))) {j : Nat} (hj : j < m) : ∃ g, A = some ⟨g, 0, none⟩ ∧ (Value.slice A m c).ownBlock = some g ∧ W.cell? ⟨g, j, none⟩ = some (.int .i32 (nth l j)) := by
  have hl : l.length = m := by have := h.1; rw [List.length_map] at this; omega
  rcases h.2 with ⟨_, h2⟩ | ⟨g, cap, cur, hv, hbg, hh, hnc, _, hsz, htake⟩
  · omega
  · injection hv with e1 e2 e3
    subst e1
    refine ⟨g, rfl, rfl, ?_⟩
    rw [cell_of_row W g _ cur _ (0, 0) hh, ← Array.getElem?_toList]
    have h2 : (l.map (Value.int .i32))[j]? = some (.int .i32 (nth l j)) := by simp [nth, List.getD, show j < l.length by omega]
    rw [← htake, List.getElem?_take, if_pos (by omega)] at h2
    exact h2
/-- Slice at a rope of the runes R. -/
def SlcC (w0 : World) (p : Option Addr) (R : List Int) : Prop := ∀ (V : World) (x y : Nat), Below w0.heap.size w0 V → x ≤ y → y ≤ R.length → Calls Tryz.prog 73 #[.pointer p, .int .i64 x, .int .i64 y] V fun e w' => e = .returned (.tuple #[.string (txt ((R.take y).drop x)), .int .i64 0]) ∧ Below V.heap.size V w'
theorem spotR_le (R : List Int) {i : Nat} (h : i ≤ 20000) : (spotR R i).has ≤ 2 ∧ (spotR R i).at_ ≤ 20000 := by
  unfold spotR
  split
  · exact ⟨Nat.le_refl _, h⟩
  · exact ⟨Nat.zero_le _, h⟩
theorem seg_app (R : List Int) {a b c : Nat} (h1 : a ≤ b) (h2 : b ≤ c) : seg R a c = seg R a b ++ seg R b c := by
  unfold seg
  rw [← List.map_append]
  congr 1
  rw [show c - a = (b - a) + (c - b) by omega, ← List.range'_append_1 (s := a) (m := b - a) (n := c - b), show a + (b - a) = b by omega]
theorem seg_len (R : List Int) (a b : Nat) : (seg R a b).length = b - a := by simp [seg]
theorem seg_snoc (R : List Int) {a b : Nat} (h : a ≤ b) : seg R a (b + 1) = seg R a b ++ [spotR R b] := by
  rw [seg_app R h (Nat.le_succ b), seg_cons R (Nat.lt_succ_self b), seg_nil]

set_option maxHeartbeats 4000000 in
set_option maxRecDepth 100000 in
theorem soRunes_in (n lp N : Nat) (p ip HA : Option Addr) (hn hc : Nat) (R : List Int) (w0 : World) (hcln : Cln R) (hmost : R.length ≤ 20000) (hcs : SlcC w0 p R) (a b : Nat) (hab : a ≤ b) (hb : b ≤ R.length)
    (J Jx : Bk → List Spot → World → Prop) (hJ : AbS w0.heap.size J) (hJl : LtS J) (hY : SpY lp N w0.heap.size J Jx) (S : Bk) (pre : List Spot) (W : World) (h0w : Below w0.heap.size w0 W) (hS : ∀ k, S k → w0.heap.size ≤ k) (h0 : J S pre W) (hN : pre.length + (b - a) ≤ N) :
    CallsIn Fence.wide n Tryz.prog 92 #[.agg #[.pointer p, .pointer ip, .slice HA hn hc], .int .i64 (a : Int), .int .i64 (b : Int), .func (.yield lp) #[] #[]] W fun e W' =>
      KeptS S W W' ∧ ∃ S', (∀ k, S' k → S k ∨ W.heap.size ≤ k) ∧ ((e = .returned (.bool true) ∧ J S' (pre ++ seg R a b) W') ∨ (e = .returned (.bool false) ∧ ∃ q, q <+: seg R a b ∧ Jx S' (pre ++ q) W')) := by
  have HCLN := Lib.hid hcln
  have CS := Lib.hid hcs
  clear hcs hcln
  have HY := Lib.hid hY
  have HJ := Lib.hid hJ
  have HJL := Lib.hid hJl
  have HS := Lib.hid hS
  have H0W := Lib.hid h0w
  have HN := Lib.hid hN
  have H0 := Lib.hid h0
  have HSL := Lib.hid (hJl _ _ _ h0)
  clear hY hJ hJl hS h0w hN h0
  refine callsIn_of_wp Tryz.func92 rfl trivial ?_ rfl
  simp only [Tryz.ntmps92, List.size_toArray, List.length_cons, List.length_nil, Nat.reduceAdd, Nat.reduceSub, Array.replicate_succ, Array.replicate_zero, List.push_toArray, List.append_toArray, List.nil_append, List.cons_append]
  have hmx : Tryz.prog.follows .mixedOrders = true := by kernel_rfl
  have HK0 : Hid (KeptS S W (W.alloc (.cells #[.pointer p, .pointer ip, .slice HA hn hc] 29))) := Lib.hid (KeptS.of_below ((Below.refl _ _).alloc (Nat.le_refl _) _))
  have HJ0 : Hid (J S pre (W.alloc (.cells #[.pointer p, .pointer ip, .slice HA hn hc] 29))) := Lib.hid (HJ.out.below HJL.out H0.out ((Below.refl _ _).alloc (Nat.le_refl _) _) H0W.out.size)
  have HR0 : Hid (RawAt 29 (W.alloc (.cells #[.pointer p, .pointer ip, .slice HA hn hc] 29)) W.heap.size #[.pointer p, .pointer ip, .slice HA hn hc]) := Lib.hid (heap_alloc_new W _)
  gi_wp2
  gi_loopw [1] (fun p1 wr => ∃ (f : Nat) (S' : Bk), p1 = .int .i64 (f : Int) ∧ a ≤ f ∧ f ≤ b + 64 ∧ Hid (J S' (pre ++ seg R a (min f b)) wr) ∧ Hid (KeptS S W wr) ∧ Hid (∀ k, S' k → S k ∨ W.heap.size < k) ∧ Hid (RawAt 29 wr W.heap.size #[.pointer p, .pointer ip, .slice HA hn hc]))
    (fun p1 _ => b - (intOf p1).toNat)
  case atStart => exact ⟨a, S, rfl, Nat.le_refl _, by omega, Lib.hid (by rw [Nat.min_eq_left hab, seg_nil, List.append_nil]; exact HJ0.out), HK0, Lib.hid (fun k h => .inl h), HR0⟩
  case round =>
    obtain ⟨f, S1, rfl, e1, e2, HJ1, HK1, HS1, HR1⟩ := hrel
    by_cases hlt : f < b
    · have u1 : (f : Int) < b := by omega
      have u2 : IntKind.i64.wrap ((f : Int) + 64) = ((f + 64 : Nat) : Int) := by rw [IntWalk.i64_in _ (by omega)]; omega
      obtain ⟨y, hy⟩ : ∃ y, min (f + 64) b = y := ⟨_, rfl⟩
      have u3 : ((min (f + 64) b : Nat) : Int) = (y : Int) := by omega
      have d0 := HR1.out.cell 0
      have d1 := HR1.out.cell 1
      have d2 := HR1.out.cell 2
      have uy : f < y ∧ y ≤ b ∧ y ≤ f + 64 := by omega
      have CSl := Lib.hid (CS.out wr f y (H0W.out.trans (HK1.out.below (fun k hk => HS.out k hk) H0W.out.size)) (by omega) (by omega))
      obtain ⟨ch, hch⟩ : ∃ ch, (R.take y).drop f = ch := ⟨_, rfl⟩
      have hcl : Cln ch := by rw [← hch]; exact (HCLN.out.take_ y).drop_ f
      have hlen : ch.length = y - f := by rw [← hch, List.length_drop, List.length_take]; omega
      have hel : ∀ k, k < y - f → nth ch k = R.getD (f + k) 0 := fun k hk => by
        rw [← hch]; unfold nth; simp [List.getD, List.getElem?_drop, show f + k < y by omega]
      have hdt := dec_txt hcl
      have hsz : (txt ch).size ≤ 1000000000 := by rw [txt_size]; have := encAll_len ch; omega
      have CD := Lib.hid fun (V : World) => decode_own (txt ch) V hsz
      rw [hdt, hlen] at CD
      rw [hch] at CSl
      have HEL := Lib.hid hel
      have HLEN := Lib.hid hlen
      have HFN : Hid (pre.length + (f - a) + (y - f) ≤ N) := Lib.hid (by have := HN.out; omega)
      rw [show min f b = f by omega] at HJ1
      clear hch hcl hel hlen hdt hsz hy
      generalize txt ch = tx at *
      obtain ⟨m, hm⟩ : ∃ m, y - f = m := ⟨_, rfl⟩
      rw [hm] at CD HEL HLEN HFN
      gi_wp2_with (refine ⟨trivial, fun h => (by cases h), ?_⟩; first | (gi_at_call 73; first | (have hyI : ((y : Nat) : Int) = (f : Int) + 64 := (by omega); have CC := CSl.out; rw [hyI] at CC; refine (callsIn_wide.2 CC).mono ?_; rintro e w1 ⟨rfl, hb1⟩; have HB1 := Lib.hid hb1) | (have hyI : ((y : Nat) : Int) = (b : Int) := (by omega); have CC := CSl.out; rw [hyI] at CC; refine (callsIn_wide.2 CC).mono ?_; rintro e w1 ⟨rfl, hb1⟩; have HB1 := Lib.hid hb1)) | (gi_at_call 75; refine (callsIn_wide.2 (CD.out _)).mono ?_; rintro e w2 ⟨A2, c2, rfl, hb2, ho2⟩; have HB2 := Lib.hid hb2; have HO2 := Lib.hid ho2; clear ho2 hb2))
      all_goals
        have BB := Lib.hid (HB1.out.trans (HB2.out.mono HB1.out.size))
        have HJ2 := Lib.hid (HJ.out.below HJL.out HJ1.out BB.out (Nat.le_trans H0W.out.size HK1.out.zero.size))
        have HK2 : Hid (KeptS S W w2) := Lib.hid (HK1.out.trans (KeptS.of_below (S := S) BB.out) (fun k h => .inl h))
        have HR2 := Lib.hid (HR1.out.below BB.out HR1.out.lt)
        have HN2 : Hid (∀ k, (Value.slice A2 m c2).ownBlock = some k → ¬ S1 k) := Lib.hid (fun k hk hs => by
          have h1 := HJL.out _ _ _ HJ1.out k hs
          have h2 := (own_lt HO2.out hk).1
          have h3 := HB1.out.size
          omega)
        gi_loopw [33] (fun p33 wq => ∃ (j : Nat) (S2 : Bk), p33 = .int .i64 (j : Int) ∧ j ≤ m ∧ Hid (J S2 (pre ++ seg R a (f + j)) wq) ∧ Hid (KeptS S W wq) ∧ Hid (∀ k, S2 k → S k ∨ W.heap.size < k) ∧ Hid (RawAt 29 wq W.heap.size #[.pointer p, .pointer ip, .slice HA hn hc]) ∧ Hid (wq.ownsRow w1.heap.size 21 1 (.slice A2 m c2) m (ch.map (.int .i32))) ∧ Hid (∀ k, (Value.slice A2 m c2).ownBlock = some k → ¬ S2 k))
          (fun p33 _ => m - (intOf p33).toNat)
        case atStart => exact ⟨0, S1, rfl, Nat.zero_le _, HJ2, HK2, HS1, HR2, HO2, HN2⟩
        case round =>
          obtain ⟨j, S2, rfl, g1, HJ3, HK3, HS3, HR3, HO3, HN3⟩ := hrel
          clear HJ2 HK2 HR2 HO2 HN2
          by_cases hlj : j < m
          · obtain ⟨gB, rfl, hgB, dc⟩ := own_at HO3.out hlj
            have hel := HEL.out j hlj
            obtain ⟨r, hr⟩ : ∃ r, nth ch j = r := ⟨_, rfl⟩
            rw [hr] at dc hel
            have v1 : (0 : Int) ≤ j := by omega
            have v2 : (j : Int) < m := by omega
            have v3 : IntKind.i64.wrap ((f : Int) + j) = ((f + j : Nat) : Int) := by rw [IntWalk.i64_in _ (by omega)]; omega
            have HEL2 := Lib.hid hel
            clear hel
            have hpl : (pre ++ seg R a (f + j)).length < N := by rw [List.length_append, seg_len]; have := HFN.out; omega
            have hn0 : w0.heap.size ≤ wr.heap.size := Nat.le_trans H0W.out.size HK3.out.zero.size
            by_cases h10 : r = 10
            · have hs : spotR R (f + j) = ⟨f + j, 2, 0⟩ := by unfold spotR; rw [if_pos (HEL2.out ▸ h10)]
              subst h10
              have HS2 := Lib.hid hs
              have x4 : Below wr.heap.size wr (wr.alloc (.cells #[.int .i64 ((f : Int) + j), .int .i64 2, .int .i32 0] 113)) := (Below.refl _ _).alloc (Nat.le_refl _) _
              have HJ4 := HJ.out.below HJL.out HJ3.out x4 hn0
              have X4 := Lib.hid x4
              obtain ⟨fn, tmps, assign, body, hy, hR⟩ := anyDepthY rfl (n - 1) (HY.out S2 (pre ++ seg R a (f + j)) (spotR R (f + j)) _ HJ4 hpl (by simp; omega) (spotR_le R (by omega)))
              rw [hs] at hy
              simp only [encSp, Int.natCast_add, Int.cast_ofNat_Int] at hy
              clear hs x4 HJ4
              gi_wp2
              refine ⟨fun h => (by cases h), ?_⟩
              refine hR.mono ?_
              rintro e W3 (⟨rfl, hk3, S3, hs3, hJ3⟩ | ⟨rfl, hk3, S3, hs3, hJx3⟩)
              · have hk4 := HK3.out.trans (KeptS.of_below (S := S) X4.out) (fun k h => .inl h)
                have HK5 : Hid (KeptS S W W3) := Lib.hid (hk4.trans hk3 (fun k h => (HS3.out k h).imp id Nat.le_of_lt))
                have hlW := HR3.out.lt
                have hVs := X4.out.size
                have HS5 : Hid (∀ k, S3 k → S k ∨ W.heap.size < k) := Lib.hid (fun k h => by
                  rcases hs3 k h with g | g
                  · exact HS3.out k g
                  · exact .inr (by omega))
                have HR5 : Hid (RawAt 29 W3 W.heap.size #[.pointer p, .pointer ip, .slice HA hn hc]) := Lib.hid ((hk3.kept _ (by omega) (fun g => by
                  rcases HS3.out _ g with g | g
                  · have := HSL.out _ g; omega
                  · omega)).trans (HR3.out.below X4.out hlW))
                have HO5 := Lib.hid (own_same (own_below HO3.out X4.out) (fun k hk => hk3.kept k (by have := (own_lt HO3.out hk).2.1; omega) (HN3.out k hk)))
                have HN5 : Hid (∀ k, (Value.slice (some ⟨gB, 0, none⟩) m c2).ownBlock = some k → ¬ S3 k) := Lib.hid (fun k hk g => by
                  rcases hs3 k g with g | g
                  · exact HN3.out k hk g
                  · have := (own_lt HO3.out hk).2.1; omega)
                have HJ5 : Hid (J S3 (pre ++ seg R a (f + (j + 1))) W3) := Lib.hid (by rw [← Nat.add_assoc, seg_snoc R (by omega), ← List.append_assoc]; exact hJ3)
                clear hk3 hs3 hJ3 hR hy hk4
                gi_wp2
                go_roundw
                case rel => exact ⟨j + 1, S3, by go_num, by omega, HJ5, HK5, HS5, HR5, HO5, HN5⟩
                case measure => simp [intOf]; omega
              · have hk4 := HK3.out.trans (KeptS.of_below (S := S) X4.out) (fun k h => .inl h)
                have HK5 : Hid (KeptS S W W3) := Lib.hid (hk4.trans hk3 (fun k h => (HS3.out k h).imp id Nat.le_of_lt))
                have hlW := HR3.out.lt
                have hVs := X4.out.size
                have HS5 : Hid (∀ k, S3 k → S k ∨ W.heap.size ≤ k) := Lib.hid (fun k h => by
                  rcases hs3 k h with g | g
                  · exact (HS3.out k g).imp id Nat.le_of_lt
                  · exact .inr (by omega))
                have HJ5 : Hid (∃ q, q <+: seg R a b ∧ Jx S3 (pre ++ q) W3) := Lib.hid ⟨seg R a (f + j + 1), by rw [seg_app R (show a ≤ f + j + 1 by omega) (show f + j + 1 ≤ b by omega)]; exact List.prefix_append _ _, by rw [seg_snoc R (by omega), ← List.append_assoc]; exact hJx3⟩
                clear hk3 hs3 hJx3 hR hy hk4
                gi_wp2
                go_ret
                exact ⟨HK5.out, S3, HS5.out, .inr ⟨rfl, HJ5.out⟩⟩
            · have hs : spotR R (f + j) = ⟨f + j, 0, r⟩ := by unfold spotR; rw [if_neg (HEL2.out ▸ h10), ← HEL2.out]
              have b10 : (r == 10) = false := by simpa using h10
              have HS2 := Lib.hid hs
              have x4 : Below wr.heap.size wr (wr.alloc (.cells #[.int .i64 ((f : Int) + j), .int .i64 0, .int .i32 r] 113)) := (Below.refl _ _).alloc (Nat.le_refl _) _
              have HJ4 := HJ.out.below HJL.out HJ3.out x4 hn0
              have X4 := Lib.hid x4
              obtain ⟨fn, tmps, assign, body, hy, hR⟩ := anyDepthY rfl (n - 1) (HY.out S2 (pre ++ seg R a (f + j)) (spotR R (f + j)) _ HJ4 hpl (by simp; omega) (spotR_le R (by omega)))
              rw [hs] at hy
              simp only [encSp, Int.natCast_add, Int.cast_ofNat_Int] at hy
              clear hs x4 HJ4
              gi_wp2
              refine ⟨fun h => (by cases h), ?_⟩
              refine hR.mono ?_
              rintro e W3 (⟨rfl, hk3, S3, hs3, hJ3⟩ | ⟨rfl, hk3, S3, hs3, hJx3⟩)
              · have hk4 := HK3.out.trans (KeptS.of_below (S := S) X4.out) (fun k h => .inl h)
                have HK5 : Hid (KeptS S W W3) := Lib.hid (hk4.trans hk3 (fun k h => (HS3.out k h).imp id Nat.le_of_lt))
                have hlW := HR3.out.lt
                have hVs := X4.out.size
                have HS5 : Hid (∀ k, S3 k → S k ∨ W.heap.size < k) := Lib.hid (fun k h => by
                  rcases hs3 k h with g | g
                  · exact HS3.out k g
                  · exact .inr (by omega))
                have HR5 : Hid (RawAt 29 W3 W.heap.size #[.pointer p, .pointer ip, .slice HA hn hc]) := Lib.hid ((hk3.kept _ (by omega) (fun g => by
                  rcases HS3.out _ g with g | g
                  · have := HSL.out _ g; omega
                  · omega)).trans (HR3.out.below X4.out hlW))
                have HO5 := Lib.hid (own_same (own_below HO3.out X4.out) (fun k hk => hk3.kept k (by have := (own_lt HO3.out hk).2.1; omega) (HN3.out k hk)))
                have HN5 : Hid (∀ k, (Value.slice (some ⟨gB, 0, none⟩) m c2).ownBlock = some k → ¬ S3 k) := Lib.hid (fun k hk g => by
                  rcases hs3 k g with g | g
                  · exact HN3.out k hk g
                  · have := (own_lt HO3.out hk).2.1; omega)
                have HJ5 : Hid (J S3 (pre ++ seg R a (f + (j + 1))) W3) := Lib.hid (by rw [← Nat.add_assoc, seg_snoc R (by omega), ← List.append_assoc]; exact hJ3)
                clear hk3 hs3 hJ3 hR hy hk4
                gi_wp2
                go_roundw
                case rel => exact ⟨j + 1, S3, by go_num, by omega, HJ5, HK5, HS5, HR5, HO5, HN5⟩
                case measure => simp [intOf]; omega
              · have hk4 := HK3.out.trans (KeptS.of_below (S := S) X4.out) (fun k h => .inl h)
                have HK5 : Hid (KeptS S W W3) := Lib.hid (hk4.trans hk3 (fun k h => (HS3.out k h).imp id Nat.le_of_lt))
                have hlW := HR3.out.lt
                have hVs := X4.out.size
                have HS5 : Hid (∀ k, S3 k → S k ∨ W.heap.size ≤ k) := Lib.hid (fun k h => by
                  rcases hs3 k h with g | g
                  · exact (HS3.out k g).imp id Nat.le_of_lt
                  · exact .inr (by omega))
                have HJ5 : Hid (∃ q, q <+: seg R a b ∧ Jx S3 (pre ++ q) W3) := Lib.hid ⟨seg R a (f + j + 1), by rw [seg_app R (show a ≤ f + j + 1 by omega) (show f + j + 1 ≤ b by omega)]; exact List.prefix_append _ _, by rw [seg_snoc R (by omega), ← List.append_assoc]; exact hJx3⟩
                clear hk3 hs3 hJx3 hR hy hk4
                gi_wp2
                go_ret
                exact ⟨HK5.out, S3, HS5.out, .inr ⟨rfl, HJ5.out⟩⟩
          · obtain rfl : j = m := by omega
            have HJ9 : Hid (J S2 (pre ++ seg R a (min (f + 64) b)) wr) := Lib.hid (by rw [show min (f + 64) b = f + j by omega]; exact HJ3.out)
            clear hlj
            gi_wp2
            go_roundw
            case rel => exact ⟨f + 64, S2, by go_num, by omega, by omega, HJ9, HK3, HS3, HR3⟩
            case measure => simp [intOf]; omega
    · have HJ9 : Hid (J S1 (pre ++ seg R a b) wr) := Lib.hid (by have := HJ1.out; rwa [show min f b = b by omega] at this)
      have k1 : decide ((f : Int) < b) = false := decide_eq_false (by omega)
      gi_wp2
      go_ret
      exact ⟨HK1.out, S1, fun k h => (HS1.out k h).imp id Nat.le_of_lt, .inl ⟨rfl, HJ9.out⟩⟩
end
section
open Go.RowKit Go.Shelf
set_option linter.unusedVariables false
attribute [local go_sem] Oper.semAt_some
/-- Spans as pairs of ints. -/
def spI (H : List (Nat × Nat)) : List (Int × Int) := H.map fun x => ((x.1 : Int), (x.2 : Int))
def hfr (f : Nat) (H : List (Nat × Nat)) : List (Nat × Nat) := H.filter fun x => decide (f ≤ x.1)
theorem hfr_skip {f : Nat} {H : List (Nat × Nat)} {j : Nat} (h : j < H.length) (hx : H[j].1 < f) : hfr f (H.drop j) = hfr f (H.drop (j + 1)) := by
  rw [List.drop_eq_getElem_cons h]
  unfold hfr
  rw [List.filter_cons_of_neg (by simp; omega)]
theorem hfr_take {f : Nat} {H : List (Nat × Nat)} {j : Nat} (h : j < H.length) (hx : ¬ H[j].1 < f) : hfr f (H.drop j) = H[j] :: hfr f (H.drop (j + 1)) := by
  rw [List.drop_eq_getElem_cons h]
  unfold hfr
  rw [List.filter_cons_of_pos (by simp; omega)]
/-- Runes at a rope of the runes R. -/
def RunC (w0 : World) (p : Option Addr) (R : List Int) : Prop := ∀ (V : World), Below w0.heap.size w0 V → Calls Tryz.prog 49 #[.pointer p] V fun e w' => e = .returned (.int .i64 (R.length : Int)) ∧ Below V.heap.size V w'
theorem spcell {w : World} {A : Option Addr} {H : List (Nat × Nat)} (hA : RowsAt wencS 2 w A (spI H)) {j : Nat} (h : j < H.length) : ∃ b off, A = some ⟨b, off, none⟩ ∧ b < w.heap.size ∧ w.cell? ⟨b, off + j * 2, none⟩ = some (.int .i64 ((H[j].1 : Nat) : Int)) ∧ w.cell? ⟨b, off + j * 2 + 1, none⟩ = some (.int .i64 ((H[j].2 : Nat) : Int)) := by
  obtain ⟨b, off, e, h1, h2, h3⟩ := wrowsS hA (j := j) (by simpa [spI] using h)
  exact ⟨b, off, e, h1, by rw [h2]; simp [spI], by rw [h3]; simp [spI]⟩
set_option maxHeartbeats 4000000 in
set_option maxRecDepth 100000 in
theorem soSpots1_in (n lp N : Nat) (p ip HA : Option Addr) (hn hc : Nat) (R : List Int) (H : List (Nat × Nat)) (w0 : World) (hcln : Cln R) (hmost : R.length ≤ 20000) (hcs : SlcC w0 p R) (hru : RunC w0 p R) (hA : RowsAt wencS 2 w0 HA (spI H)) (hlen : H.length = hn) (hn1 : hn ≤ 100000)
    (f : Nat) (hf : f ≤ R.length) (hok : HOk R.length f (hfr f H)) (hN : (spF R f (hfr f H)).length ≤ N)
    (J Jx : Bk → List Spot → World → Prop) (hJ : AbS w0.heap.size J) (hJl : LtS J) (hY : SpY lp N w0.heap.size J Jx) (S : Bk) (B1 B2 : Nat) (W : World) (h0w : Below w0.heap.size w0 W) (hS : ∀ k, S k → w0.heap.size ≤ k) (h0 : J S [] W)
    (hb1 : RawAt 3 W B1 #[.int .i64 (f : Int)]) (hb2 : RawAt 29 W B2 #[.pointer p, .pointer ip, .slice HA hn hc]) (hs1 : ¬ S B1) (hs2 : ¬ S B2) :
    CallsIn Fence.wide n Tryz.prog 91 #[.func (.yield lp) #[] #[], .pointer (some ⟨B1, 0, none⟩), .pointer (some ⟨B2, 0, none⟩)] W fun e W' =>
      (∃ v, e = .returned v) ∧ KeptS S W W' ∧ ∃ S', (∀ k, S' k → S k ∨ W.heap.size ≤ k) ∧ (J S' (spF R f (hfr f H)) W' ∨ (∃ q, q <+: spF R f (hfr f H) ∧ Jx S' q W')) := by
  have HRUN := Lib.hid fun (lp' : Nat) (a b : Nat) (hab : a ≤ b) (hb : b ≤ R.length) (S : Bk) (pre : List Spot) (W : World) (h0w : Below w0.heap.size w0 W) (hS : ∀ k, S k → w0.heap.size ≤ k) (h0 : J S pre W) (hN' : pre.length + (b - a) ≤ N) => soRunes_in (n - 1) lp N p ip HA hn hc R w0 hcln hmost hcs a b hab hb J Jx hJ hJl hY S pre W h0w hS h0 hN'
  have HRU := Lib.hid hru
  have HSL := Lib.hid (hJl _ _ _ h0)
  have HAA := Lib.hid hA
  have HL := Lib.hid hlen
  have HN := Lib.hid hN
  have HY := Lib.hid hY
  have HJ := Lib.hid hJ
  have HJL := Lib.hid hJl
  have HS := Lib.hid hS
  have H0W := Lib.hid h0w
  have H0 := Lib.hid h0
  have HOK := Lib.hid hok
  have HB1 := Lib.hid hb1
  have HB2 := Lib.hid hb2
  have NB1 := Lib.hid hs1
  have NB2 := Lib.hid hs2
  have d0 := hb1.cell 0
  have d1 := hb2.cell 2
  clear hru hA hlen hN hY hJ hJl hS h0w h0 hok hb1 hb2 hs1 hs2 hcln hcs
  generalize hSP : spF R f (hfr f H) = SP at *
  have HSP := Lib.hid hSP
  clear hSP
  refine callsIn_of_wp Tryz.func91 rfl trivial ?_ rfl
  simp only [Tryz.ntmps91, List.size_toArray, List.length_cons, List.length_nil, Nat.reduceAdd, Nat.reduceSub, Array.replicate_succ, Array.replicate_zero, List.push_toArray, List.append_toArray, List.nil_append, List.cons_append]
  have hmx : Tryz.prog.follows .mixedOrders = true := by kernel_rfl
  gi_wp2
  gi_loopw [4, 12] (fun p4 p12 wr => ∃ (j a : Nat) (S1 : Bk) (pre : List Spot), p4 = .int .i64 (a : Int) ∧ p12 = .int .i64 (j : Int) ∧ j ≤ hn ∧ a ≤ R.length ∧ Hid (pre ++ spF R a (hfr f (H.drop j)) = SP) ∧ Hid (HOk R.length a (hfr f (H.drop j))) ∧ Hid (J S1 pre wr) ∧ Hid (KeptS S W wr) ∧ Hid (∀ k, S1 k → S k ∨ W.heap.size ≤ k))
    (fun _ p12 _ => hn - (intOf p12).toNat)
  case atStart => exact ⟨0, f, S, [], rfl, rfl, Nat.zero_le _, hf, Lib.hid (by rw [List.drop_zero]; exact HSP.out), Lib.hid (by rw [List.drop_zero]; exact HOK.out), H0, Lib.hid (KeptS.refl _ _), Lib.hid (fun k h => .inl h)⟩
  case round =>
    obtain ⟨j, a, S1, pre, rfl, rfl, e1, e2, HP, HO, HJ1, HK1, HS1⟩ := hrel
    have HB1' : Hid (RawAt 3 wr B1 #[.int .i64 (f : Int)]) := Lib.hid ((HK1.out.kept _ HB1.out.lt NB1.out).trans HB1.out)
    have HB2' : Hid (RawAt 29 wr B2 #[.pointer p, .pointer ip, .slice HA hn hc]) := Lib.hid ((HK1.out.kept _ HB2.out.lt NB2.out).trans HB2.out)
    by_cases hlt : j < hn
    · have hjl : j < H.length := by rw [HL.out]; exact hlt
      have H0W1 := Lib.hid (H0W.out.trans (HK1.out.below (fun k hk => HS.out k hk) H0W.out.size))
      obtain ⟨bA, off, rfl, hbA, dA, dB⟩ := spcell (HAA.out.below H0W1.out) hjl
      have f0 := HB1'.out.cell 0
      have i1 : (0 : Int) ≤ j := by omega
      have i2 : (j : Int) < hn := by omega
      obtain ⟨x, hx⟩ : ∃ x, H[j] = x := ⟨_, rfl⟩
      obtain ⟨x1, x2⟩ := x
      rw [hx] at dA dB
      have x4 : Below wr.heap.size wr (wr.alloc (.cells #[.int .i64 (x1 : Int), .int .i64 (x2 : Int)] 76)) := (Below.refl _ _).alloc (Nat.le_refl _) _
      have r4 : RawAt 76 (wr.alloc (.cells #[.int .i64 (x1 : Int), .int .i64 (x2 : Int)] 76)) wr.heap.size #[.int .i64 (x1 : Int), .int .i64 (x2 : Int)] := heap_alloc_new wr _
      have f1 := (HB1'.out.below x4 HB1'.out.lt).cell 0
      have t0 := (HB2'.out.below x4 HB2'.out.lt).cell 0
      have t1 := (HB2'.out.below x4 HB2'.out.lt).cell 1
      have t2 := (HB2'.out.below x4 HB2'.out.lt).cell 2
      have HK4 : Hid (KeptS S W (wr.alloc (.cells #[.int .i64 (x1 : Int), .int .i64 (x2 : Int)] 76))) := Lib.hid (HK1.out.trans (KeptS.of_below (S := S) x4) (fun k h => .inl h))
      have hn0 : w0.heap.size ≤ wr.heap.size := Nat.le_trans H0W.out.size HK1.out.zero.size
      have HJ4 : Hid (J S1 pre (wr.alloc (.cells #[.int .i64 (x1 : Int), .int .i64 (x2 : Int)] 76))) := Lib.hid (HJ.out.below HJL.out HJ1.out x4 hn0)
      have R4 := Lib.hid r4
      have X4 := Lib.hid x4
      clear r4 x4
      by_cases hxf : x1 < f
      · have k1 : (x1 : Int) < f := by omega
        have HF := hfr_skip hjl (by rw [hx]; exact hxf)
        have HP2 : Hid (pre ++ spF R a (hfr f (H.drop (j + 1))) = SP) := Lib.hid (by rw [← HF]; exact HP.out)
        have HO2 : Hid (HOk R.length a (hfr f (H.drop (j + 1)))) := Lib.hid (by rw [← HF]; exact HO.out)
        clear hx HF
        gi_wp2
        go_roundw
        case rel => exact ⟨j + 1, a, S1, pre, rfl, by go_num, by omega, e2, HP2, HO2, HJ4, HK4, HS1⟩
        case measure => simp [intOf]; omega
      · have k1 : ¬ (x1 : Int) < f := by omega
        have HF := hfr_take hjl (by rw [hx]; exact hxf)
        have ho := HO.out
        have hp := HP.out
        rw [HF, hx] at ho hp
        obtain ⟨o1, o2, o3⟩ := ho
        simp only at o1 o2 o3
        have o4 := o3.le
        rw [spF] at hp
        simp only at hp
        have HP2 := Lib.hid hp
        have HO2 := Lib.hid o3
        have hnn : pre.length + (x1 - a) < N := by
          have := congrArg List.length hp
          rw [List.length_append, List.length_append, seg_len, List.length_cons] at this
          have := HN.out
          omega
        have CR := Lib.hid (HRUN.out lp a x1 o1 (by omega) S1 pre _ (H0W1.out.trans (X4.out.mono H0W1.out.size)) (fun k hk => (HS1.out k hk).elim (HS.out k) (fun g => Nat.le_trans H0W.out.size g)) HJ4.out (Nat.le_of_lt hnn))
        have HB1s := Lib.hid (HB1'.out.below X4.out HB1'.out.lt)
        have HB2s := Lib.hid (HB2'.out.below X4.out HB2'.out.lt)
        clear hx HF hp o3 HB1' HB2'
        gi_wp2_with fail
        refine ⟨trivial, fun h => (by cases h), ?_⟩
        refine CR.out.mono ?_
        rintro e W2 ⟨hk, S2, hs2, ⟨rfl, hJ2⟩ | ⟨rfl, q, hq, hJx⟩⟩
        · have hlx := HJL.out _ _ _ HJ1.out
          have hl4 := R4.out.lt
          have R5 : Hid (RawAt 76 W2 wr.heap.size #[.int .i64 (x1 : Int), .int .i64 (x2 : Int)]) := Lib.hid ((hk.kept _ hl4 (fun g => by have := hlx _ g; omega)).trans R4.out)
          have hl5 : wr.heap.size < W2.heap.size := Nat.lt_of_lt_of_le hl4 hk.zero.size
          have hs9 : ∀ k, S1 k → S k ∨ W.heap.size ≤ k := HS1.out
          have hwl : W.heap.size ≤ wr.heap.size := HK1.out.zero.size
          have hs8 : ∀ k, S2 k → S k ∨ W.heap.size ≤ k := fun k g => (hs2 k g).elim (hs9 k) (fun g => .inr (by omega))
          have HK5 := Lib.hid (HK4.out.trans hk hs9)
          have HS5 := Lib.hid hs8
          have HNS : Hid (¬ S2 wr.heap.size) := Lib.hid (fun g => (hs2 _ g).elim (fun g => by have := hlx _ g; omega) (fun g => by omega))
          have g0 := R5.out.cell 0
          obtain ⟨fn, tmps, assign, body, hy, hR⟩ := anyDepthY rfl (n - 1) (HY.out S2 (pre ++ seg R a x1) ⟨x1, 1, 0⟩ W2 hJ2 (by rw [List.length_append, seg_len]; omega) (by omega) ⟨by show (1 : Nat) ≤ 2; omega, by show x1 ≤ 20000; omega⟩)
          simp only [encSp, Int.cast_ofNat_Int] at hy
          clear hk hs2 hJ2 hs8 hs9 f1 t0 t1 t2 f0
          gi_wp2
          refine ⟨fun h => (by cases h), ?_⟩
          refine hR.mono ?_
          rintro e W3 (⟨rfl, hk3, S3, hs3, hJ3⟩ | ⟨rfl, hk3, S3, hs3, hJx3⟩)
          · have R6 : Hid (RawAt 76 W3 wr.heap.size #[.int .i64 (x1 : Int), .int .i64 (x2 : Int)]) := Lib.hid ((hk3.kept _ R5.out.lt HNS.out).trans R5.out)
            have HK6 := Lib.hid (HK5.out.trans hk3 HS5.out)
            have HS6 : Hid (∀ k, S3 k → S k ∨ W.heap.size ≤ k) := Lib.hid (fun k g => (hs3 k g).elim (HS5.out k) (fun g => .inr (by omega)))
            have HJ6 := Lib.hid hJ3
            have g1 := R6.out.cell 1
            have HP6 : Hid ((pre ++ seg R a x1 ++ [⟨x1, 1, 0⟩]) ++ spF R x2 (hfr f (H.drop (j + 1))) = SP) := Lib.hid (by rw [← HP2.out]; simp only [List.append_assoc]; rfl)
            clear hk3 hs3 hJ3 hR hy g0
            gi_wp2
            go_roundw
            case rel => exact ⟨j + 1, x2, S3, _, rfl, by go_num, by omega, o4, HP6, HO2, HJ6, HK6, HS6⟩
            case measure => simp [intOf]; omega
          · have HK6 := Lib.hid (HK5.out.trans hk3 HS5.out)
            have HS6 : Hid (∀ k, S3 k → S k ∨ W.heap.size ≤ k) := Lib.hid (fun k g => (hs3 k g).elim (HS5.out k) (fun g => .inr (by omega)))
            have HJ6 : Hid (∃ q, q <+: SP ∧ Jx S3 q W3) := Lib.hid ⟨_, ⟨spF R x2 (hfr f (H.drop (j + 1))), by rw [← HP2.out]; simp only [List.append_assoc]; rfl⟩, hJx3⟩
            clear hk3 hs3 hJx3 hR hy g0
            gi_wp2
            refine bodyPost_ret (results_none rfl _ _ _) rfl ?_
            exact ⟨⟨_, rfl⟩, HK6.out, S3, HS6.out, .inr HJ6.out⟩
        · have hwl : W.heap.size ≤ wr.heap.size := HK1.out.zero.size
          have hl4 := R4.out.lt
          have HK5 := Lib.hid (HK4.out.trans hk HS1.out)
          have HS5 : Hid (∀ k, S2 k → S k ∨ W.heap.size ≤ k) := Lib.hid (fun k g => (hs2 k g).elim (HS1.out k) (fun g => .inr (by omega)))
          have HJ6 : Hid (∃ q, q <+: SP ∧ Jx S2 q W2) := Lib.hid ⟨pre ++ q, by
            obtain ⟨t, ht⟩ := hq
            exact ⟨t ++ ⟨x1, 1, 0⟩ :: spF R x2 (hfr f (H.drop (j + 1))), by rw [← HP2.out, ← ht]; simp only [List.append_assoc]⟩, hJx⟩
          clear hk hs2 hJx hq f1 t0 t1 t2 f0
          gi_wp2
          refine ⟨fun _ h => (by cases h), ?_⟩
          gi_wp2
          refine bodyPost_ret (results_none rfl _ _ _) rfl ?_
          exact ⟨⟨_, rfl⟩, HK5.out, S2, HS5.out, .inr HJ6.out⟩
    · obtain rfl : j = hn := by omega
      have H0W1 := Lib.hid (H0W.out.trans (HK1.out.below (fun k hk => HS.out k hk) H0W.out.size))
      have hp := HP.out
      rw [List.drop_of_length_le (by rw [HL.out]; exact Nat.le_refl _)] at hp
      rw [show hfr f [] = [] from rfl, spF] at hp
      have HP2 := Lib.hid hp
      have hnn : pre.length + (R.length - a) < N := by
        have := congrArg List.length hp
        rw [List.length_append, List.length_append, seg_len, List.length_singleton] at this
        have := HN.out
        omega
      have u0 := HB2'.out.cell 0
      have k1 : decide ((j : Int) < j) = false := decide_eq_false (by omega)
      clear hp hlt
      gi_wp2_with fail
      refine ⟨trivial, fun h => (by cases h), ?_⟩
      refine (callsIn_wide.2 (HRU.out _ H0W1.out)).mono ?_
      rintro e W2 ⟨rfl, hb2⟩
      have HB1s := Lib.hid (HB1'.out.below hb2 HB1'.out.lt)
      have HB2s := Lib.hid (HB2'.out.below hb2 HB2'.out.lt)
      have hn0 : w0.heap.size ≤ wr.heap.size := Nat.le_trans H0W.out.size HK1.out.zero.size
      have HJ2 := Lib.hid (HJ.out.below HJL.out HJ1.out hb2 hn0)
      have HK2 : Hid (KeptS S W W2) := Lib.hid (HK1.out.trans (KeptS.of_below (S := S) hb2) (fun k h => .inl h))
      have t0 := HB2s.out.cell 0
      have t1 := HB2s.out.cell 1
      have t2 := HB2s.out.cell 2
      have CR := Lib.hid (HRUN.out lp a R.length e2 (Nat.le_refl _) S1 pre W2 (H0W1.out.trans (hb2.mono H0W1.out.size)) (fun k hk => (HS1.out k hk).elim (HS.out k) (fun g => Nat.le_trans H0W.out.size g)) HJ2.out (Nat.le_of_lt hnn))
      have HB22 := Lib.hid hb2.size
      clear hb2 u0
      gi_wp2_with fail
      refine ⟨trivial, fun h => (by cases h), ?_⟩
      refine CR.out.mono ?_
      rintro e W3 ⟨hk, S2, hs2, ⟨rfl, hJ3⟩ | ⟨rfl, q, hq, hJx⟩⟩
      · have HK3 := Lib.hid (HK2.out.trans hk HS1.out)
        have hwl : W.heap.size ≤ W2.heap.size := HK2.out.zero.size
        have HS3 : Hid (∀ k, S2 k → S k ∨ W.heap.size ≤ k) := Lib.hid (fun k g => (hs2 k g).elim (HS1.out k) (fun g => .inr (by omega)))
        have hw3 := HK3.out.zero.size
        obtain ⟨fn, tmps, assign, body, hy, hR⟩ := anyDepthY rfl (n - 1) (HY.out S2 (pre ++ seg R a R.length) ⟨R.length, 2, 0⟩ W3 hJ3 (by rw [List.length_append, seg_len]; omega) (Nat.le_trans H0W.out.size hw3) ⟨by show (2 : Nat) ≤ 2; omega, hmost⟩)
        simp only [encSp, Int.cast_ofNat_Int] at hy
        clear hk hs2 hJ3
        gi_wp2
        refine ⟨fun h => (by cases h), ?_⟩
        refine hR.mono ?_
        rintro e W4 (⟨rfl, hk3, S3, hs3, hJ4⟩ | ⟨rfl, hk3, S3, hs3, hJx3⟩)
        · have HK6 := Lib.hid (HK3.out.trans hk3 HS3.out)
          have HS6 : Hid (∀ k, S3 k → S k ∨ W.heap.size ≤ k) := Lib.hid (fun k g => (hs3 k g).elim (HS3.out k) (fun g => .inr (by omega)))
          have HJ6 : Hid (J S3 SP W4) := Lib.hid (by rw [← HP2.out, ← List.append_assoc]; exact hJ4)
          clear hk3 hs3 hJ4 hR hy
          gi_wp2
          go_end0
          exact ⟨⟨_, rfl⟩, HK6.out, S3, HS6.out, .inl HJ6.out⟩
        · have HK6 := Lib.hid (HK3.out.trans hk3 HS3.out)
          have HS6 : Hid (∀ k, S3 k → S k ∨ W.heap.size ≤ k) := Lib.hid (fun k g => (hs3 k g).elim (HS3.out k) (fun g => .inr (by omega)))
          have HJ6 : Hid (∃ q, q <+: SP ∧ Jx S3 q W4) := Lib.hid ⟨_, by rw [← HP2.out, ← List.append_assoc]; exact List.prefix_refl _, hJx3⟩
          clear hk3 hs3 hJx3 hR hy
          gi_wp2
          go_end0
          exact ⟨⟨_, rfl⟩, HK6.out, S3, HS6.out, .inr HJ6.out⟩
      · have HK3 := Lib.hid (HK2.out.trans hk HS1.out)
        have hwl : W.heap.size ≤ W2.heap.size := HK2.out.zero.size
        have HS3 : Hid (∀ k, S2 k → S k ∨ W.heap.size ≤ k) := Lib.hid (fun k g => (hs2 k g).elim (HS1.out k) (fun g => .inr (by omega)))
        have HJ6 : Hid (∃ q, q <+: SP ∧ Jx S2 q W3) := Lib.hid ⟨pre ++ q, by
          obtain ⟨t, ht⟩ := hq
          exact ⟨t ++ [⟨R.length, 2, 0⟩], by rw [← HP2.out, ← ht]; simp only [List.append_assoc]⟩, hJx⟩
        clear hk hs2 hJx hq
        gi_wp2
        go_end0
        exact ⟨⟨_, rfl⟩, HK3.out, S2, HS3.out, .inr HJ6.out⟩
end
end Go.Proofs.YtpnjokhhbjpciaaGreatDoor
