/- Source: right, Check, All. Source: Size; texts that are made; the laws' small case. -/
import Derived.Test.YtpnjokhhbjpciaaGreatDoorSoL
import Derived.Test.YtpnjokhhbjpciaaGreatDoorRtR
import Derived.Test.YtpnjokhhbjpciaaGreatDoorRWide
namespace Go.Proofs.YtpnjokhhbjpciaaGreatDoor
open Go.RowKit Go.Shelf
set_option linter.unusedVariables false
attribute [local go_sem] Oper.semAt_some
set_option maxHeartbeats 4000000 in
set_option maxRecDepth 100000 in
theorem soRight (n : Int) (A : Option Addr) (m c : Nat) (l : List (Int × Int)) (b : Bool) (hb : b = true ↔ RtOk 0 l n) (w : World) (hA : RowsAt wencS 2 w A l) (hl : l.length = m) (hm : m ≤ 1000000) :
    Calls Tryz.prog 51 #[.slice A m c, .int .i64 n] w fun e w' => e = .returned (.bool b) ∧ Below w.heap.size w w' := by
  have HA := Lib.hid hA
  have HL := Lib.hid hl
  have HBB := Lib.hid hb
  clear hA hl hb
  go_enter Tryz.func51, Tryz.ntmps51
  go_wp2_with fail
  go_loopg [5, 10] m (fun g q i wr => ∃ (j : Nat) (u : Int), i = .int .i64 j ∧ q = .int .i64 u ∧ j ≤ m ∧ m - j ≤ g ∧ Hid (u = clast 0 (l.take j)) ∧ Hid (RtOk 0 (l.take j) n) ∧ Hid (Below w.heap.size w wr))
  case atStart => exact ⟨0, 0, rfl, rfl, by omega, by omega, Lib.hid rfl, Lib.hid trivial, Lib.hid (Below.refl _ _)⟩
  case round =>
    obtain ⟨j, q, rfl, rfl, j1, j2, hq, hr, hb⟩ := hrel
    by_cases hlt : j < m
    · have hjl : j < l.length := by rw [HL.out]; exact hlt
      obtain ⟨bA, off, rfl, hbA, d0, d1⟩ := wrowsS (HA.out.below hb.out) hjl
      have t2 := clast_takeR l 0 hjl
      have hst := RtOk.stopR hjl hr.out
      rw [← hq.out] at hst
      have HST := Lib.hid hst
      have HT2 := Lib.hid t2
      clear t2 hst
      generalize l[j] = x at *
      obtain ⟨x1, x2⟩ := x
      simp only at *
      have i1 : (0 : Int) ≤ j := by omega
      have i2 : (j : Int) < m := by omega
      have HB3 := Lib.hid (hb.out.trans (((Below.refl _ _).alloc (Nat.le_refl _) (.cells #[.int .i64 x1, .int .i64 x2] 76)).mono hb.out.size))
      by_cases g1 : x1 < q
      · have k1 : decide (x1 < q) = true := decide_eq_true g1
        obtain rfl : b = false := by rw [← Bool.not_eq_true]; exact fun h => RtOk.noR (j := j + 1) (fun h => by have := HST.out.mp h; omega) (HBB.out.mp h)
        go_wp2
        go_ret
        exact ⟨rfl, HB3.out⟩
      · have k1 : decide (x1 < q) = false := decide_eq_false g1
        by_cases g2 : x2 ≤ x1
        · have k2 : decide (x2 ≤ x1) = true := decide_eq_true g2
          obtain rfl : b = false := by rw [← Bool.not_eq_true]; exact fun h => RtOk.noR (j := j + 1) (fun h => by have := HST.out.mp h; omega) (HBB.out.mp h)
          go_wp2
          go_ret
          exact ⟨rfl, HB3.out⟩
        · have k2 : decide (x2 ≤ x1) = false := decide_eq_false g2
          by_cases g3 : n < x2
          · have k3 : decide (n < x2) = true := decide_eq_true g3
            obtain rfl : b = false := by rw [← Bool.not_eq_true]; exact fun h => RtOk.noR (j := j + 1) (fun h => by have := HST.out.mp h; omega) (HBB.out.mp h)
            go_wp2
            go_ret
            exact ⟨rfl, HB3.out⟩
          · have k3 : decide (n < x2) = false := decide_eq_false g3
            have HRT : Hid (RtOk 0 (l.take (j + 1)) n) := Lib.hid (HST.out.mpr (by omega))
            have HQ5 : Hid (x2 = clast 0 (l.take (j + 1))) := Lib.hid HT2.out.symm
            clear HST HT2 hr hq
            go_wp2
            go_roundg (gk - 1)
            case measure => omega
            case rel => exact ⟨j + 1, x2, by go_num, rfl, by omega, by omega, HQ5, HRT, HB3⟩
    · obtain rfl : j = m := by omega
      have htk : l.take j = l := List.take_of_length_le (by rw [HL.out]; exact Nat.le_refl _)
      have hr2 := hr.out
      rw [htk] at hr2
      obtain rfl : b = true := HBB.out.mpr hr2
      clear htk hr2 hr hq
      go_wp2
      go_ret
      exact ⟨rfl, hb.out⟩

/-- Len at inlays for a buffer of m runes. -/
def LenC (w0 : World) (ip : Option Addr) (m : Int) : Prop := ∀ V : World, Below w0.heap.size w0 V → Calls Tryz.prog 50 #[.pointer ip] V fun e w' => e = .returned (.int .i64 m) ∧ Below V.heap.size V w'
set_option maxHeartbeats 4000000 in
set_option maxRecDepth 100000 in
theorem soCheck (p ip HA : Option Addr) (hn hc : Nat) (R : List Int) (l : List (Int × Int)) (m : Int) (b : Bool) (hb : b = true ↔ RtOk 0 l R.length) (r : Int) (hr : r = if m = R.length ∧ b = true then 0 else 4) (w : World) (hru : RunC w p R) (hle : LenC w ip m) (hA : RowsAt wencS 2 w HA l) (hl : l.length = hn) (hn1 : hn ≤ 1000000) :
    Calls Tryz.prog 26 #[.agg #[.pointer p, .pointer ip, .slice HA hn hc]] w fun e w' => e = .returned (.int .i64 r) ∧ Below w.heap.size w w' := by
  have x1 : Below w.heap.size w (w.alloc (.cells #[.pointer p, .pointer ip, .slice HA hn hc] 29)) := (Below.refl _ _).alloc (Nat.le_refl _) _
  have r1 : RawAt 29 (w.alloc (.cells #[.pointer p, .pointer ip, .slice HA hn hc] 29)) w.heap.size #[.pointer p, .pointer ip, .slice HA hn hc] := heap_alloc_new w _
  obtain ⟨W1, hW1⟩ : ∃ W1, W1 = w.alloc (.cells #[.pointer p, .pointer ip, .slice HA hn hc] 29) := ⟨_, rfl⟩
  rw [← hW1] at x1 r1
  have X1 := Lib.hid x1
  have R1 := Lib.hid r1
  have HW1 := Lib.hid hW1
  have CR := Lib.hid fun (V : World) (hV : Below w.heap.size w V) => soRight R.length HA hn hc l b hb V (hA.below hV) hl hn1
  have CU := Lib.hid fun (V : World) (hV : Below w.heap.size w V) => hru V hV
  have CE := Lib.hid fun (V : World) (hV : Below w.heap.size w V) => hle V hV
  have HR := Lib.hid hr
  clear hW1 x1 r1 hru hle hA hb hr
  go_enter Tryz.func26, Tryz.ntmps26
  go_wp2_with fail
  rw [← HW1.out]
  with_reducible refine (CU.out _ X1.out).mono ?_
  rintro e w2 ⟨rfl, b2⟩
  have X2 := Lib.hid (X1.out.trans (b2.mono X1.out.size))
  have R2 := Lib.hid (R1.out.below b2 R1.out.lt)
  have d1 := R2.out.cell 1
  clear b2
  go_wp2_with fail
  with_reducible refine (CE.out _ X2.out).mono ?_
  rintro e w3 ⟨rfl, b3⟩
  have X3 := Lib.hid (X2.out.trans (b3.mono X2.out.size))
  have R3 := Lib.hid (R2.out.below b3 R2.out.lt)
  have d2 := R3.out.cell 2
  clear b3 d1
  by_cases hm : m = R.length
  · have k1 : (m != (R.length : Int)) = false := by simpa using hm
    have HM := Lib.hid hm
    clear hm
    go_wp2_with fail
    with_reducible refine (CR.out _ X3.out).mono ?_
    rintro e w4 ⟨rfl, b4⟩
    have X4 := Lib.hid (X3.out.trans (b4.mono X3.out.size))
    clear b4
    cases b with
    | true =>
      obtain rfl : r = 0 := by rw [HR.out, if_pos ⟨HM.out, rfl⟩]
      go_wp2
      go_ret
      exact ⟨rfl, X4.out⟩
    | false =>
      obtain rfl : r = 4 := by rw [HR.out, if_neg (fun h => by cases h.2)]
      go_wp2
      go_ret
      exact ⟨rfl, X4.out⟩
  · have k1 : (m != (R.length : Int)) = true := by simpa using hm
    have HM := Lib.hid hm
    clear hm
    obtain rfl : r = 4 := by rw [HR.out, if_neg (fun h => HM.out h.1)]
    go_wp2
    go_ret
    exact ⟨rfl, X3.out⟩

def encL3 (x : LnV) : List Value := [x.v, .int .i64 (x.fr : Int), .int .i64 (x.te : Int)]
theorem encL3_len (x : LnV) : (encL3 x).length = 3 := rfl
theorem line_info : (Tryz.prog.info? 40).map (fun i => (i.zero, i.size, i.bytes)) = some (some (.agg #[.slice none 0 0, .int .i64 0, .int .i64 0]), 3, 40) := by kernel_rfl
theorem line_slt : SlT Tryz.prog 53 40 3 40 := slt_of Tryz.underlying53 line_info rfl (by kernel_rfl)
set_option maxHeartbeats 4000000 in
set_option maxRecDepth 100000 in
theorem soLinesF_in (n : Nat) (p ip HA : Option Addr) (hn hc : Nat) (f : Int) (w : World) :
    CallsIn Fence.wide n Tryz.prog 28 #[.agg #[.pointer p, .pointer ip, .slice HA hn hc], .int .i64 f] w fun e w' => e = .returned (.func (.func 54) #[] #[.pointer (some ⟨w.heap.size + 1, 0, none⟩), .pointer (some ⟨w.heap.size, 0, none⟩)]) ∧
      w' = (w.alloc (.cells #[.pointer p, .pointer ip, .slice HA hn hc] 29)).alloc (.cells #[.int .i64 f] 3) := by
  refine callsIn_of_wp Tryz.func28 rfl trivial ?_ rfl
  simp only [Tryz.ntmps28, List.size_toArray, List.length_cons, List.length_nil, Nat.reduceAdd, Nat.reduceSub, Array.replicate_succ, Array.replicate_zero, List.push_toArray, List.append_toArray, List.nil_append, List.cons_append]
  gi_wp2
  go_ret
  exact ⟨rfl, rfl⟩
theorem alNe {W : World} {Bo base n : Nat} {v v' : Value} {xs : List Value} (h : RawAt 53 W Bo #[v']) (h2 : W.ownsRow base 40 3 v n xs) (e : v.ownBlock = some Bo) : False := by
  obtain ⟨_, _, cur, hc⟩ := own_lt h2 e
  unfold RawAt at h
  rw [h] at hc
  simp at hc
/-- What All gathers. -/
def AlI (w0 : World) (Bo : Nat) (S : Bk) (pre : List LnV) (W : World) : Prop :=
  ∃ v, RawAt 53 W Bo #[v] ∧ W.ownsRow 0 40 3 v pre.length (kfl encL3 pre) ∧ (∀ x ∈ pre, PrAt S W x.v x.ps) ∧ S Bo ∧ (∀ k, v.ownBlock = some k → S k) ∧ Below w0.heap.size w0 W ∧ (∀ k, S k → k < W.heap.size ∧ w0.heap.size ≤ k)
theorem AlI.abs (w0 : World) (Bo : Nat) : AbS w0.heap.size (AlI w0 Bo) := by
  rintro S pre A B ⟨v, h1, h2, h3, h4, h5, h6, h7⟩ hs
  exact ⟨v, (hs.2 _ h4).trans h1, own_same h2 (fun k hk => hs.2 k (h5 k hk)), fun x hx => (h3 x hx).same hs.2, h4, h5, h6.trans hs.1, fun k hk => ⟨Nat.lt_of_lt_of_le (h7 k hk).1 hs.1.size, (h7 k hk).2⟩⟩
/-- The lines of a text that is right. -/
structure TxtC (w0 : World) (p ip HA : Option Addr) (hn hc : Nat) (R : List Int) (H : List (Nat × Nat)) (o : List In) : Prop where
  cln : Cln R
  most : R.length ≤ 20000
  cs : SlcC w0 p R
  ru : RunC w0 p R
  rows : RowsAt wencS 2 w0 HA (spI H)
  len : H.length = hn
  few : hn ≤ 100000
  inl : InlC w0 ip R.length o
  ok : HOk R.length 0 H
theorem TxtC.rt {w0 : World} {p ip HA : Option Addr} {hn hc : Nat} {R : List Int} {H : List (Nat × Nat)} {o : List In} (h : TxtC w0 p ip HA hn hc R H o) : RtOk 0 (spI H) R.length := by
  have go : ∀ (a : Nat) (H : List (Nat × Nat)), HOk R.length a H → RtOk (a : Int) (spI H) R.length := by
    intro a H
    induction H generalizing a with
    | nil => intro _; trivial
    | cons x H ih =>
      rintro ⟨h1, h2, h3⟩
      exact ⟨by show (a : Int) ≤ (x.1 : Int); omega, by show (x.1 : Int) < (x.2 : Int); omega, by show (x.2 : Int) ≤ _; have := h3.le; omega, ih x.2 h3⟩
  exact go 0 H h.ok
set_option maxHeartbeats 8000000 in
set_option maxRecDepth 100000 in
theorem soAll (p ip HA : Option Addr) (hn hc : Nat) (R : List Int) (H : List (Nat × Nat)) (o : List In) (w : World) (h : TxtC w p ip HA hn hc R H o) :
    Calls Tryz.prog 16 #[.agg #[.pointer p, .pointer ip, .slice HA hn hc]] w fun e w' => ∃ (xs : List LnV) (S : Bk) (v : Value), e = .returned (.tuple #[v, .int .i64 0]) ∧ xs.map lnS = linL R H o 0 ∧ w'.ownsRow 0 40 3 v xs.length (kfl encL3 xs) ∧ (∀ x ∈ xs, PrAt S w' x.v x.ps) ∧ Below w.heap.size w w' := by
  refine (callsIn_wide (n := 9)).1 ?_
  have x1 : Below w.heap.size w (w.alloc (.cells #[.pointer p, .pointer ip, .slice HA hn hc] 29)) := (Below.refl _ _).alloc (Nat.le_refl _) _
  have r1 : RawAt 29 (w.alloc (.cells #[.pointer p, .pointer ip, .slice HA hn hc] 29)) w.heap.size #[.pointer p, .pointer ip, .slice HA hn hc] := heap_alloc_new w _
  have CC := Lib.hid fun (V : World) (hV : Below w.heap.size w V) => (by
    have := soCheck p ip HA hn hc R (spI H) R.length true ⟨fun _ => h.rt, fun _ => rfl⟩ 0 (by rw [if_pos ⟨rfl, rfl⟩]) V (fun U hU => h.ru U (hV.trans (hU.mono hV.size))) (fun U hU => h.inl.len U (hV.trans (hU.mono hV.size))) (h.rows.below hV) (by simpa [spI] using h.len) (by have := h.few; omega)
    exact this : Calls Tryz.prog 26 #[.agg #[.pointer p, .pointer ip, .slice HA hn hc]] V fun e w' => e = .returned (.int .i64 0) ∧ Below V.heap.size V w')
  have X1 := Lib.hid x1
  have R1 := Lib.hid r1
  have HH := Lib.hid h
  have d0 := r1.cell 0
  have d1 := r1.cell 1
  have d2 := r1.cell 2
  clear x1 r1 h
  refine callsIn_of_wp_marks Tryz.func16 rfl trivial ?_ rfl
  simp only [Tryz.ntmps16, List.size_toArray, List.length_cons, List.length_nil, Nat.reduceAdd, Nat.reduceSub, Array.replicate_succ, Array.replicate_zero, List.push_toArray, List.append_toArray, List.nil_append, List.cons_append]
  have hmx : Tryz.prog.follows .mixedOrders = true := by kernel_rfl
  gi_wp2_with fail
  refine ⟨trivial, ?_⟩
  refine (callsIn_wide.2 (CC.out _ X1.out)).mono ?_
  rintro e w1 ⟨rfl, b1⟩
  have R2 := Lib.hid (R1.out.below b1 R1.out.lt)
  have X2 := Lib.hid (X1.out.trans (b1.mono X1.out.size))
  have x3 : Below w1.heap.size w1 (w1.alloc (.cells #[.slice none 0 0] 53)) := (Below.refl _ _).alloc (Nat.le_refl _) _
  have r3 := R2.out.below x3 R2.out.lt
  have ro : RawAt 53 (w1.alloc (.cells #[.slice none 0 0] 53)) w1.heap.size #[.slice none 0 0] := heap_alloc_new w1 _
  have e0 := r3.cell 0
  have e1 := r3.cell 1
  have e2 := r3.cell 2
  have RO := Lib.hid ro
  have X3 := Lib.hid x3
  clear b1 x3 r3 ro d0 d1 d2
  gi_wp2_with fail
  refine ⟨trivial, ?_⟩
  refine (soLinesF_in _ _ _ _ _ _ _ _).mono ?_
  rintro e w2' ⟨rfl, rfl⟩
  gi_wp2_with fail
  obtain ⟨w2, hw2⟩ : ∃ w2, w2 = w1.alloc (.cells #[.slice none 0 0] 53) := ⟨_, rfl⟩
  rw [← hw2] at X3 RO ⊢
  have hsz2 : w2.heap.size = w1.heap.size + 1 := by rw [hw2]; simp
  rw [← hsz2]
  have x4 : Below w2.heap.size w2 ((w2.alloc (.cells #[.pointer p, .pointer ip, .slice HA hn hc] 29)).alloc (.cells #[.int .i64 0] 3)) := ((Below.refl _ _).alloc (Nat.le_refl _) _).alloc (by simp) _
  have q1 : RawAt 29 ((w2.alloc (.cells #[.pointer p, .pointer ip, .slice HA hn hc] 29)).alloc (.cells #[.int .i64 0] 3)) w2.heap.size #[.pointer p, .pointer ip, .slice HA hn hc] := (new2 w2 _ _ _ _).1
  have q2 : RawAt 3 ((w2.alloc (.cells #[.pointer p, .pointer ip, .slice HA hn hc] 29)).alloc (.cells #[.int .i64 0] 3)) (w2.heap.size + 1) #[.int .i64 ((0 : Nat) : Int)] := (new2 w2 _ _ _ _).2.1
  have hsz3 : ((w2.alloc (.cells #[.pointer p, .pointer ip, .slice HA hn hc] 29)).alloc (.cells #[.int .i64 0] 3)).heap.size = w2.heap.size + 2 := by simp
  obtain ⟨w3, hw3⟩ : ∃ w3, w3 = ((w2.alloc (.cells #[.pointer p, .pointer ip, .slice HA hn hc] 29)).alloc (.cells #[.int .i64 0] 3)) := ⟨_, rfl⟩
  rw [← hw3] at x4 q1 q2 hsz3 ⊢
  obtain ⟨Bo, hBo⟩ : ∃ Bo, Bo = w1.heap.size := ⟨_, rfl⟩
  rw [← hBo] at RO ⊢
  have ro3 := RO.out.below x4 RO.out.lt
  have X4 := Lib.hid (X2.out.trans ((X3.out.mono X2.out.size).trans (x4.mono (Nat.le_trans X2.out.size (by omega)))))
  have hwB : w.heap.size ≤ Bo := by rw [hBo]; exact X2.out.size
  have hI3 : AlI w Bo (fun k => k = Bo) [] w3 := ⟨_, ro3, World.ownsRow_nil _ _ _ _, fun x hx => (by cases hx), rfl, fun k hk => (by cases hk), X4.out, fun k hk => by subst hk; exact ⟨ro3.lt, hwB⟩⟩
  have HI3 := Lib.hid hI3
  have hseq : SeqSep Fence.wide 8 Tryz.prog 54 #[.pointer (some ⟨w2.heap.size + 1, 0, none⟩), .pointer (some ⟨w2.heap.size, 0, none⟩)] (fun x : LnV => #[encLn x]) HdL w.heap.size (fun k => k = w2.heap.size + 1 ∨ k = w2.heap.size) (fun ys => ys.map lnS = linL R H o 0) (fun pre => pre.map lnS <+: linL R H o 0) 120001 w3 := by
    intro l J' Jx' S0 V hV hJ' hJx' hJl' hY' h0' hS0'
    have hfr0 : hfr 0 H = H := by unfold hfr; rw [List.filter_eq_self]; intro x _; simp
    have := soLines1_in 8 l 120001 p ip HA hn hc R H o w HH.out.cln HH.out.most HH.out.cs HH.out.ru HH.out.rows HH.out.len HH.out.few HH.out.inl 0 (Nat.zero_le _) (by rw [hfr0]; exact HH.out.ok) (by
        have h1 := spF_len R HH.out.ok
        have h2 := HH.out.most
        have h3 := HH.out.few
        have h4 := HH.out.len
        rw [hfr0]; omega) (by omega) J' Jx' hJ' hJx' hJl' (fun S pre x H' V hj hl hd hH => anyDepthY rfl 0 (hY' S pre x H' V hj hl hd hH)) S0 (w2.heap.size + 1) w2.heap.size V (X4.out.trans (hV.mono X4.out.size)) (fun k hk => (hS0' k hk).1) h0' (q2.below hV q2.lt) (q1.below hV q1.lt) (fun h => (hS0' _ h).2 (.inl rfl)) (fun h => (hS0' _ h).2 (.inr rfl))
    exact this
  have HSEQ := Lib.hid hseq
  have hbl := RO.out.lt
  clear hseq q1 q2 x4 hw2 hw3 ro3 hI3 hBo hsz2
  refine wpIn_rangeFunc_sep rfl (by omega) (gf := 54) (lb := #[.pointer (some ⟨w2.heap.size + 1, 0, none⟩), .pointer (some ⟨w2.heap.size, 0, none⟩)]) rfl trivial (enters_of Tryz.func54 (by kernel_rfl) rfl)
    HSEQ.out (fun S x A B h hs => PrAt.same h hs.2) X4.out.size (by rintro k (rfl | rfl) <;> omega) (fun _ => rfl)
    (AlI w Bo) (fun _ _ _ _ => False) (AlI.abs w Bo) (by rintro S s A ⟨v, h1, h2, h3, h4, h5, h6, h7⟩ k hk; exact (h7 k hk).1) (fun _ _ _ _ _ h _ => h)
    (fun k => k = Bo) ?s0 HI3.out
    (fun b x a' V => ∃ Bx, b ≤ Bx ∧ RawAt 40 V Bx #[x.v, .int .i64 (x.fr : Int), .int .i64 (x.te : Int)] ∧ a' = { tmps := #[.agg #[.pointer p, .pointer ip, .slice HA hn hc], .pointer (some ⟨w.heap.size, 0, none⟩), .slice none 0 0, .int .i64 0, .int .i64 0, .pointer (some ⟨Bo, 0, none⟩), .pointer (some ⟨Bx, 0, none⟩), .agg #[.pointer p, .pointer ip, .slice HA hn hc], .int .i64 0, .int .i64 0, .bool false, undef, .agg #[.pointer p, .pointer ip, .slice HA hn hc], .func (.func 54) #[] #[.pointer (some ⟨w2.heap.size + 1, 0, none⟩), .pointer (some ⟨w2.heap.size, 0, none⟩)], encLn x, undef, undef, undef, undef, undef], defers := [] }) ?hax ?assign ?body ?done ?stop
  case s0 =>
    rintro k rfl
    exact ⟨hwB, fun e => by rcases e with e | e <;> omega⟩
  case hax =>
    rintro b x a' V V' ⟨Bx, g1, g2, g3⟩ hk
    exact ⟨Bx, g1, hk _ _ g2 rfl, g3⟩
  case assign =>
    intro l x V K hK
    unfold encLn
    gi_wp2
    exact hK _ _ ((Below.refl _ _).alloc (Nat.le_refl _) _) ⟨V.heap.size, Nat.le_refl _, heap_alloc_new V _, rfl⟩
  case stop =>
    rintro D c S pre V _ _ _ h _
    exact h.elim
  case done =>
    rintro D S xs V hD hnD hxs hI hK
    obtain ⟨v, h1, h2, h3, h4, h5, h6, h7⟩ := AlI.abs w Bo S xs V (V.putObj D (.deferred none)) hI (SameS.put _ _ _ (by have := X4.out.size; omega) hnD)
    obtain ⟨v', h1', _⟩ := hI
    have hvv : v' = v := by
      have e1 : (V.putObj D (.deferred none)).heap[Bo]? = V.heap[Bo]? := World.putObj_heap_other (fun e => hnD (e ▸ h4))
      have e2 := h1
      unfold RawAt at e2 h1'
      rw [e1, h1'] at e2
      simpa using e2
    subst hvv
    have c0 := h1'.cell 0
    have F2 := Lib.hid h2
    have F3 := Lib.hid h3
    have F6 := Lib.hid h6
    have FX := Lib.hid hxs
    obtain ⟨A, c, rfl⟩ := own_form h2
    clear h1 h1' h2 h3 h5 h6 h7 hxs
    gi_wp2
    refine ⟨by simp, .inl ⟨_, _, rfl, run_takeDeferred hK, ?_⟩⟩
    refine ⟨_, by simp [results, Tryz.results16, go_sem], xs, S, _, rfl, FX.out, F2.out, F3.out, F6.out⟩
  case body =>
    rintro l S pre x H' b a' V hb0 hbV ⟨v, h1, h2, h3, h4, h5, h6, h7⟩ hlen hd hSb hHb ⟨Bx, hBx, rx, rfl⟩
    obtain ⟨Ax, cx, xps, xf, xt⟩ := x
    unfold encLn
    simp only [LnV.v] at rx hd ⊢
    obtain ⟨Av, cv, rfl⟩ := own_form h2
    have c0 := h1.cell 0
    have b0 := rx.cell 0
    have b1 := rx.cell 1
    have b2 := rx.cell 2
    have x5 : Below V.heap.size V (V.alloc (.cells #[.slice Ax xps.length cx, .int .i64 (xf : Int), .int .i64 (xt : Int)] 40)) := (Below.refl _ _).alloc (Nat.le_refl _) _
    have o5 := own_below h2 x5
    have rw5 : RowsAt encL3 3 (V.alloc (.cells #[.slice Ax xps.length cx, .int .i64 (xf : Int), .int .i64 (xt : Int)] 40)) (some ⟨V.heap.size, 0, none⟩) [⟨Ax, cx, xps, xf, xt⟩] := row_new encL3_len V [⟨Ax, cx, xps, xf, xt⟩] #[.slice Ax xps.length cx, .int .i64 (xf : Int), .int .i64 (xt : Int)] 40 rfl
    have H1 := Lib.hid h1
    have H2 := Lib.hid h2
    have H3 := Lib.hid h3
    have H4 := Lib.hid h4
    have H5 := Lib.hid h5
    have H6 := Lib.hid h6
    have H7 := Lib.hid h7
    have HD := Lib.hid hd
    have HSB := Lib.hid hSb
    have HHB := Lib.hid hHb
    have X5 := Lib.hid x5
    have O5 := Lib.hid o5
    have RW5 := Lib.hid rw5
    clear h1 h2 h3 h4 h5 h6 h7 hd hSb hHb x5 o5 rw5 rx
    gi_wp2_with (gi_at_builtin; refine wpListIn_appK (enc := encL3) line_slt encL3_len (by omega) rfl (.tmp 15) (.tmp 17) rfl rfl O5.out (some ⟨V.heap.size, 0, none⟩) 1 1 [⟨Ax, cx, xps, xf, xt⟩] rfl RW5.out ⟨Nat.le_refl _, fun h => by cases h⟩ rfl (by intro u hu; simp [kfl, encL3] at hu; rcases hu with rfl | rfl | rfl <;> rfl) (by simp only [maxLen]; omega) (by omega) (Nat.zero_le _) ?_; intro v6 w6 hown6 hg6 hn6; obtain ⟨A6, c6, rfl⟩ := own_form hown6; have bx6 := (hg6.block Bo (Nat.lt_of_lt_of_le H1.out.lt X5.out.size) (fun e => alNe H1.out H2.out e.symm)).trans (H1.out.below X5.out H1.out.lt); have d0 := RawAt.cell (t := 53) bx6 0; have d1 := RawAt.free (t := 53) bx6 0)
    have kb : KeptS (fun k => k = Bo ∨ (Value.slice Av pre.length cv).ownBlock = some k) V (w6.setCell ⟨Bo, 0, none⟩ (.slice A6 (pre.length + 1) c6)) := ((KeptS.of_below X5.out).trans (S := fun k => k = Bo ∨ (Value.slice Av pre.length cv).ownBlock = some k) (KeptS.grown (S := fun k => k = Bo ∨ (Value.slice Av pre.length cv).ownBlock = some k) hg6 (fun k hk => .inr hk)) (fun k h => .inl h)).trans (KeptS.set (S := fun k => k = Bo ∨ (Value.slice Av pre.length cv).ownBlock = some k) w6 ⟨Bo, 0, none⟩ _ (.inl rfl)) (fun k h => .inl h)
    have kS : KeptS S V (w6.setCell ⟨Bo, 0, none⟩ (.slice A6 (pre.length + 1) c6)) := kb.mono (fun k _ g => g.elim (fun e => e ▸ H4.out) (H5.out k))
    have hz6 : V.heap.size + 1 ≤ w6.heap.size := by have := hg6.size; simpa using this
    have far : ∀ (y : LnV) (Q : Bk), PrAt Q V y.v y.ps → PrAt Q (w6.setCell ⟨Bo, 0, none⟩ (.slice A6 (pre.length + 1) c6)) y.v y.ps := fun y Q hy => hy.same' (fun k hk => kb.kept k (hy.lt k hk) (fun g => by
      obtain ⟨cur, hc⟩ := hy.kind k hk
      rcases g with g | g
      · have h9 := H1.out
        unfold RawAt at h9
        rw [← g] at h9
        rcases hc with hc | hc <;> (rw [h9] at hc; simp at hc)
      · obtain ⟨_, _, cur', hc'⟩ := own_lt H2.out g
        rcases hc with hc | hc <;> (rw [hc'] at hc; simp at hc)))
    refine ⟨kS, fun k => S k ∨ H' k ∨ (V.heap.size ≤ k ∧ k < w6.heap.size), fun k g => g.imp id (fun g => g.imp id (fun g => g.1)), _, RawAt.set_ (t := 53) bx6 0 _, ?_, fun y hy => ?_, .inl H4.out, fun k hk => ?_, H6.out.trans (kS.below (fun k g => (H7.out k g).2) H6.out.size), fun k g => ?_⟩
    · rw [List.length_append, List.length_singleton, kfl_append]
      exact own_same hown6 (fun k hk => Below.heap_setCell _ (⟨Bo, 0, none⟩ : Addr) _ _ (fun e => alNe (W := w6) bx6 hown6 (by rw [hk, show k = Bo from e])))
    · rcases List.mem_append.1 hy with hy | hy
      · exact (far y S (H3.out y hy)).grow (fun k g => .inl g)
      · rw [List.mem_singleton.1 hy]
        exact (far ⟨Ax, cx, xps, xf, xt⟩ H' HD.out).grow (fun k g => .inr (.inl g))
    · rcases hn6 with e | e
      · rw [e] at hk; exact .inl (H5.out k hk)
      · have h8 := (own_lt hown6 hk).2.1
        rw [e] at hk
        injection hk with hk
        exact .inr (.inr ⟨by rw [← hk]; simp, h8⟩)
    · rw [World.size_setCell]
      rcases g with g | g | g
      · have := H7.out k g; exact ⟨by omega, this.2⟩
      · have := HHB.out k g; exact ⟨by omega, this.2.2⟩
      · exact ⟨g.2, Nat.le_trans H6.out.size g.1⟩
set_option linter.unusedVariables false
/-- How many runes parts have. -/
def psz : List PtV → Nat
  | [] => 0
  | s :: l => (if s.k = 3 then 1 else s.n) + psz l
theorem psz_snoc : ∀ (l : List PtV) (s : PtV), psz (l ++ [s]) = psz l + (if s.k = 3 then 1 else s.n)
  | [], s => by simp [psz]
  | x :: l, s => by rw [List.cons_append, psz, psz, psz_snoc l s]; omega
theorem psz_le : ∀ (l : List PtV), (∀ s ∈ l, s.n ≤ 1000000) → psz l ≤ 1000000 * l.length
  | [], _ => Nat.le_refl _
  | x :: l, h => by
    have ih := psz_le l (fun s hs => h s (List.mem_cons_of_mem _ hs))
    have hx := h x (List.mem_cons_self ..)
    rw [psz, List.length_cons]
    split <;> omega
theorem ptcell {w : World} {A : Option Addr} {ps : List PtV} (hA : RowsAt ptcs 3 w A ps) {j : Nat} (h : j < ps.length) : ∃ b off, A = some ⟨b, off, none⟩ ∧ b < w.heap.size ∧ w.cell? ⟨b, off + j * 3, none⟩ = some (.int .i64 ps[j].k) ∧ w.cell? ⟨b, off + j * 3 + 1, none⟩ = some (.int .i64 ps[j].p) ∧ w.cell? ⟨b, off + j * 3 + 2, none⟩ = some (rnV ps[j]) := by
  obtain ⟨b, off, e, h1, hc⟩ := hA.at1 h
  exact ⟨b, off, e, h1, hc 0 (by omega), hc 1 (by omega), hc 2 (by omega)⟩
set_option maxHeartbeats 4000000 in
set_option maxRecDepth 100000 in
theorem soSize (A : Option Addr) (n c : Nat) (fr te : Int) (ps : List PtV) (w : World) (hA : RowsAt ptcs 3 w A ps) (hl : ps.length = n) (hn : n ≤ 1000000) (hz : ∀ s ∈ ps, s.n ≤ 1000000) :
    Calls Tryz.prog 30 #[.agg #[.slice A n c, .int .i64 fr, .int .i64 te]] w fun e w' => e = .returned (.int .i64 (psz ps : Int)) ∧ Below w.heap.size w w' := by
  have HA := Lib.hid hA
  have HL := Lib.hid hl
  have HZ := Lib.hid hz
  clear hA hl hz
  have x1 : Below w.heap.size w (w.alloc (.cells #[.slice A n c, .int .i64 fr, .int .i64 te] 40)) := (Below.refl _ _).alloc (Nat.le_refl _) _
  have X1 := Lib.hid x1
  clear x1
  go_enter Tryz.func30, Tryz.ntmps30
  go_wp2_with fail
  go_loopg [3, 9] n (fun g q i wr => ∃ (j : Nat), i = .int .i64 j ∧ q = .int .i64 (psz (ps.take j) : Int) ∧ j ≤ n ∧ n - j ≤ g ∧ Hid (Below w.heap.size w wr))
  case atStart => exact ⟨0, rfl, rfl, by omega, by omega, X1⟩
  case round =>
    obtain ⟨j, rfl, rfl, j1, j2, hb⟩ := hrel
    by_cases hlt : j < n
    · have hjl : j < ps.length := by rw [HL.out]; exact hlt
      obtain ⟨bA, off, rfl, hbA, d0, d1, d2⟩ := ptcell (HA.out.below hb.out) hjl
      have hps : psz (ps.take (j + 1)) = psz (ps.take j) + (if ps[j].k = 3 then 1 else ps[j].n) := by rw [List.take_succ_eq_append_getElem hjl, psz_snoc]
      have hb1 := psz_le (ps.take j) (fun s hs => HZ.out s (List.mem_of_mem_take hs))
      rw [List.length_take, Nat.min_eq_left (by omega)] at hb1
      have hb2 := HZ.out _ (List.getElem_mem hjl)
      generalize ps[j] = z at *
      obtain ⟨zk, zp, zA, zn, zc, zr⟩ := z
      simp only [rnV] at *
      generalize psz (ps.take j) = q at *
      have i1 : (0 : Int) ≤ j := by omega
      have i2 : (j : Int) < n := by omega
      have HB3 := Lib.hid (hb.out.trans (((Below.refl _ _).alloc (Nat.le_refl _) (.cells #[.int .i64 zk, .int .i64 zp, .slice zA zn zc] 78)).mono hb.out.size))
      by_cases hk : zk = 3
      · subst hk
        have HPS := Lib.hid hps
        have w1 : IntKind.i64.wrap ((q : Int) + 1) = ((q + 1 : Nat) : Int) := by rw [IntWalk.i64_in _ (by omega)]; omega
        clear hps
        go_wp2
        go_roundg (gk - 1)
        case measure => omega
        case rel => exact ⟨j + 1, by go_num, by rw [HPS.out]; simp, by omega, by omega, HB3⟩
      · have HPS := Lib.hid hps
        have k1 : (zk == 3) = false := beq_eq_false_iff_ne.2 hk
        have HK := Lib.hid hk
        have w1 : IntKind.i64.wrap ((q : Int) + (zn : Int)) = ((q + zn : Nat) : Int) := by rw [IntWalk.i64_in _ (by omega)]; omega
        clear hps
        go_wp2
        go_roundg (gk - 1)
        case measure => omega
        case rel => exact ⟨j + 1, by go_num, by rw [HPS.out]; simp [HK.out], by omega, by omega, HB3⟩
    · obtain rfl : j = n := by omega
      have htk : ps.take j = ps := List.take_of_length_le (by rw [HL.out]; exact Nat.le_refl _)
      rw [htk]
      clear htk
      go_wp2
      go_ret
      exact ⟨rfl, hb.out⟩
theorem RP.slc {w : World} {p : Option Addr} {ps : List (List Int)} {h : Nat} (hr : RP w p ps h) : SlcC w p ps.flatten := fun V x y hV hxy hy => rslice_any (hr.below hV) x y hxy hy
theorem RP.run {w : World} {p : Option Addr} {ps : List (List Int)} {h : Nat} (hr : RP w p ps h) : RunC w p ps.flatten := fun V hV => rrunes_any (hr.below hV)
theorem ISet.inlC {w : World} {sb : Nat} {n : Nat} {o : List In} (h : ISet w sb n o) (hord : o.Pairwise fun a b => a.pl ≤ b.pl) (htx : ∀ a ∈ o, a.tx.size ≤ 1000) (hf : o.length ≤ 10000) : InlC w (some ⟨sb, 0, none⟩) n o :=
  ⟨fun V hV => iLen_any (h.below hV), fun V x y hV => iWithin_any (h.below hV) (by omega) x y, hord, htx, hf⟩
/-- The inlay of the small case. -/
def jI : In := ⟨1, 4, 0, 0, ⟨#[120]⟩⟩
theorem jI_wrong : iwrong 5 [jI] = 0 := by rfl
theorem jI_ord : ord ilt ([jI].map icl) = [jI] := by rfl
theorem j_dec : dec ⟨#[97, 98, 10, 99, 100]⟩ = [97, 98, 10, 99, 100] := by rfl
theorem j_lin : linL [97, 98, 10, 99, 100] [(1, 4)] [jI] 0 = [⟨[⟨1, 0, [97]⟩, ⟨3, 1, []⟩, ⟨2, 4, [120]⟩, ⟨1, 4, [100]⟩], 0, 5⟩] := by rfl
set_option maxHeartbeats 8000000 in
set_option maxRecDepth 100000 in
theorem joined21 (w : World) : Calls Tryz.prog 11 #[] w fun e w' => e = .returned (.bool true) ∧ Below w.heap.size w w' := by
  have C1 := Lib.hid (rnew_any ⟨#[97, 98, 10, 99, 100]⟩ w (by decide) (by rw [j_dec]; decide))
  go_enter Tryz.func11, Tryz.ntmps11
  go_wp2_with fail
  with_reducible refine (C1.out).mono ?_
  rintro e w1 ⟨b, ps, h, rfl, hr, hps, b1⟩
  have HR := Lib.hid hr
  have HPS := Lib.hid (hps.trans j_dec)
  have B1 := Lib.hid b1
  have x2 : Below w1.heap.size w1 (w1.alloc (.cells #[.int .i64 1, .int .i64 4, .int .i64 0, .int .i64 0, .string ⟨#[120]⟩] 63)) := (Below.refl _ _).alloc (Nat.le_refl _) _
  have rw2 : RowsAt encI 5 (w1.alloc (.cells #[.int .i64 1, .int .i64 4, .int .i64 0, .int .i64 0, .string ⟨#[120]⟩] 63)) (some ⟨w1.heap.size, 0, none⟩) [jI] := row_new (enc := encI) (k := 5) (fun _ => rfl) w1 [jI] #[.int .i64 1, .int .i64 4, .int .i64 0, .int .i64 0, .string ⟨#[120]⟩] 63 rfl
  have C2 := Lib.hid (iNew_any 5 (some ⟨w1.heap.size, 0, none⟩) 1 1 [jI] _ rw2 ⟨Nat.le_refl _, fun h => by cases h⟩ rfl (fun a ha => by rw [List.mem_singleton.1 ha]; decide) (fun a ha => by rw [List.mem_singleton.1 ha]; decide) 0 jI_wrong)
  rw [jI_ord] at C2
  have X2 := Lib.hid x2
  clear hr hps b1 x2 rw2 C1
  go_wp2_with fail
  with_reducible refine (C2.out).mono ?_
  rintro e w2 ⟨p2, rfl, _, hq, b2⟩
  obtain ⟨sb, rfl, hs⟩ := hq trivial
  have B2 := Lib.hid (X2.out.trans (b2.mono X2.out.size))
  have x3 : Below w2.heap.size w2 (w2.alloc (.cells #[.int .i64 1, .int .i64 4] 76)) := (Below.refl _ _).alloc (Nat.le_refl _) _
  have rw3 : RowsAt wencS 2 (w2.alloc (.cells #[.int .i64 1, .int .i64 4] 76)) (some ⟨w2.heap.size, 0, none⟩) (spI [(1, 4)]) := row_new wencS_len w2 [((1 : Int), (4 : Int))] #[.int .i64 1, .int .i64 4] 76 rfl
  have hr3 := (HR.out.below B2.out).below x3
  have hs3 := hs.below x3
  have tc : TxtC (w2.alloc (.cells #[.int .i64 1, .int .i64 4] 76)) (some ⟨b, 0, none⟩) (some ⟨sb, 0, none⟩) (some ⟨w2.heap.size, 0, none⟩) 1 1 [97, 98, 10, 99, 100] [(1, 4)] [jI] := by
    have e := HPS.out
    refine ⟨e ▸ hr3.1.cln, by decide, e ▸ hr3.slc, e ▸ hr3.run, rw3, rfl, by decide, ?_, ?_⟩
    · exact ISet.inlC (n := 5) hs3 (List.pairwise_singleton _ _) (fun a ha => by rw [List.mem_singleton.1 ha]; decide) (by decide)
    · exact ⟨by decide, by decide, by show (4 : Nat) ≤ 5; decide⟩
  have C3 := Lib.hid (soAll _ _ _ 1 1 _ _ _ _ tc)
  rw [j_lin] at C3
  have B3 := Lib.hid ((B1.out.trans (B2.out.mono B1.out.size)).trans (x3.mono (Nat.le_trans B1.out.size B2.out.size)))
  clear hq b2 hs x3 rw3 hr3 hs3 tc C2
  go_wp2_with fail
  with_reducible refine (C3.out).mono ?_
  rintro e w4 ⟨xs, S, v, rfl, hxs, hrow, hpr, b4⟩
  obtain ⟨x, rfl⟩ : ∃ x, xs = [x] := by
    have := congrArg List.length hxs
    rw [List.length_map] at this
    match xs, this with
    | [x], _ => exact ⟨x, rfl⟩
  obtain ⟨A, c, qs, fr, te⟩ := x
  have hx : lnS ⟨A, c, qs, fr, te⟩ = _ := List.head_eq_of_cons_eq hxs
  unfold lnS at hx
  injection hx with hx1 hx2 hx3
  simp only at hx1 hx2 hx3
  subst hx2 hx3
  obtain ⟨s0, s1, s2, s3, rfl⟩ : ∃ s0 s1 s2 s3, qs = [s0, s1, s2, s3] := by
    have := congrArg List.length hx1
    rw [List.length_map] at this
    match qs, this with
    | [s0, s1, s2, s3], _ => exact ⟨s0, s1, s2, s3, rfl⟩
  simp only [List.map_cons, List.map_nil, ptP, List.cons.injEq, Pt.mk.injEq, and_true] at hx1
  obtain ⟨⟨k0, p0, r0⟩, ⟨k1, p1, r1⟩, ⟨k2, p2, r2⟩, ⟨k3, p3, r3⟩⟩ := hx1
  have hP := hpr _ (List.mem_singleton.2 rfl)
  obtain ⟨Av, cv, rfl, hR, _, _⟩ := rows_of_own encL3_len (by omega) hrow
  obtain ⟨bl, ol, rfl, hbl, hcl⟩ := hR.at1 (j := 0) (by simp)
  have d0 := hcl 0 (by omega)
  have d1 := hcl 1 (by omega)
  have d2 := hcl 2 (by omega)
  simp only [Nat.zero_mul, Nat.add_zero, List.getElem_cons_zero, encL3, LnV.v, List.getElem?_cons_zero, List.getElem?_cons_succ, List.length_cons, List.length_nil] at d0 d1 d2
  obtain ⟨A', c', e', hQ, _, _⟩ := rows_of_own ptcs_len (by omega) hP.row
  injection e' with e1 e2 e3
  subst e1
  obtain ⟨bp, op, rfl, hbp, a00, a01, a02⟩ := ptcell hQ (j := 0) (by simp)
  obtain ⟨_, _, e', _, a10, a11, a12⟩ := ptcell hQ (j := 1) (by simp)
  cases e'
  obtain ⟨_, _, e', _, a20, a21, a22⟩ := ptcell hQ (j := 2) (by simp)
  cases e'
  obtain ⟨_, _, e', _, a30, a31, a32⟩ := ptcell hQ (j := 3) (by simp)
  cases e'
  simp only [Nat.zero_mul, Nat.add_zero, Nat.one_mul, Nat.reduceMul, List.getElem_cons_zero, List.getElem_cons_succ, k0, p0, k1, p1, k2, p2, k3, p3] at a00 a01 a10 a11 a20 a21 a30 a31
  have n0 := hP.rlen s0 (by simp)
  have n1 := hP.rlen s1 (by simp)
  have n2 := hP.rlen s2 (by simp)
  have n3 := hP.rlen s3 (by simp)
  rw [r0] at n0
  rw [r2] at n2
  rw [r3] at n3
  rw [r1] at n1
  simp only [List.length_cons, List.length_nil] at n0 n1 n2 n3
  have hpz : psz [s0, s1, s2, s3] = 4 := by simp [psz, k0, k1, k2, k3, ← n0, ← n2, ← n3]
  have CZ := Lib.hid (soSize (some ⟨bp, op, none⟩) 4 c' 0 5 [s0, s1, s2, s3] w4 hQ rfl (by omega) (fun s hs => by
    simp only [List.mem_cons, List.not_mem_nil, or_false] at hs
    rcases hs with rfl | rfl | rfl | rfl <;> omega))
  rw [hpz] at CZ
  have B4 := Lib.hid (B3.out.trans (b4.mono B3.out.size))
  clear b4 hpr hrow hP hQ hR hcl hpz hxs k0 k1 k2 k3 p0 p1 p2 p3 r0 r1 r2 r3 n0 n1 n2 n3 a02 a12 a22 a32
  go_wp2_with fail
  with_reducible refine (CZ.out).mono ?_
  rintro e w5 ⟨rfl, b5⟩
  have B5 := Lib.hid (B4.out.trans (b5.mono B4.out.size))
  clear b5
  go_wp2
  go_ret
  exact ⟨rfl, B5.out⟩
end Go.Proofs.YtpnjokhhbjpciaaGreatDoor
