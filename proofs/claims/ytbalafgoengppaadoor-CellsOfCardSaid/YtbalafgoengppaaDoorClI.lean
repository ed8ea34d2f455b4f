/- Cells: the document's Of. -/
import Derived.Test.YtbalafgoengppaaDoorClH
namespace Go.Proofs.YtbalafgoengppaaDoor
open Go.RowKit
set_option linter.unusedVariables false
theorem placed_at (x : Pt) : ∀ (rs : List Int) (n i : Nat) (h : i < rs.length), (placed x n rs)[i]'(by rw [placed_length]; exact h) = ⟨rs[i], x.k, 0, x.p + (if x.k = 1 then ((n + i : Nat) : Int) else 0)⟩
  | r :: rs, n, 0, h => rfl
  | r :: rs, n, i + 1, h => by
    have := placed_at x rs (n + 1) i (by simpa using h)
    simp only [placed, List.getElem_cons_succ]
    rw [this, show n + 1 + i = n + (i + 1) from by omega]
theorem bare_at {l : List PtV} {j i : Nat} (hj : j < l.length) (hi : i < (shown (pt l[j])).length) : (bareL (l.map pt))[(bareL ((l.take j).map pt)).length + i]? = some ⟨(shown (pt l[j]))[i], l[j].k, 0, l[j].p + (if l[j].k = 1 then (i : Int) else 0)⟩ := by
  have e : bareL (l.map pt) = bareL ((l.take j).map pt) ++ (bareP (pt l[j]) ++ bareL ((l.drop (j + 1)).map pt)) := by
    rw [show ∀ (x : Pt) (y : List Pt), bareP x ++ bareL y = bareL (x :: y) from fun _ _ => rfl, show ∀ a b, bareL a ++ bareL b = bareL (a ++ b) from fun a b => by simp [bareL], ← List.map_cons, ← List.drop_eq_getElem_cons hj, ← List.map_append, List.take_append_drop]
  rw [e, List.getElem?_append_right (by omega), Nat.add_sub_cancel_left, List.getElem?_append_left (by rw [bareP_length]; exact hi)]
  unfold bareP
  rw [List.getElem?_eq_getElem (by rw [placed_length]; exact hi), placed_at (pt l[j]) _ 0 i hi, Nat.zero_add]
  rfl
theorem bareL_next {l : List PtV} {j : Nat} (hj : j < l.length) : (bareL ((l.take (j + 1)).map pt)).length = (bareL ((l.take j).map pt)).length + (shown (pt l[j])).length := by
  rw [bareL_take hj, List.length_append, bareP_length]
theorem bareL_runes {l : List PtV} {j : Nat} (h : j < l.length) : (bareL ((l.take (j + 1)).map pt)).map (·.r) = (bareL ((l.take j).map pt)).map (·.r) ++ shown (pt l[j]) := by
  rw [bareL_take h, List.map_append]
  congr 1
  exact placed_runes _ _ _
/-- What a part shows, and where that may lie. -/
theorem rRunes18_at (s : PtV) (w : World) (hs : PtOk w s) :
    Calls Tryd.prog 43 #[.agg #[.int .i64 s.k, .int .i64 s.p, .slice s.A s.n s.c]] w fun e w' => ∃ A c, e = .returned (.slice A (shown (pt s)).length c) ∧ IntsAt .i32 w' A (shown (pt s)) ∧ Caps A (shown (pt s)).length c ∧ Below w.heap.size w w' ∧ (s.k ≠ 3 ∧ A = s.A ∨ ∃ b, A = some ⟨b, 0, none⟩ ∧ w.heap.size ≤ b) := by
  obtain ⟨o1, o2, o3, o4, o5, o6⟩ := hs
  have x1 : Below w.heap.size w (w.alloc (.cells #[.int .i64 s.k, .int .i64 s.p, .slice s.A s.n s.c] 82)) := (Below.refl _ _).alloc (Nat.le_refl _) _
  by_cases h3 : s.k = 3
  · have HS : Hid (shown (pt s) = [8230]) := Lib.hid (by unfold shown pt; rw [if_pos h3])
    obtain ⟨k, p, A, n, c, rs⟩ := s
    simp only at h3
    subst h3
    have x2 := Lib.hid (x1.alloc x1.size (.cells #[.int .i32 8230] 21))
    have hr2 := new2 w 82 21 #[.int .i64 3, .int .i64 p, .slice A n c] #[.int .i32 8230]
    have HR := Lib.hid (i32_of (l := [8230]) hr2.2.1 rfl)
    clear o1 o2 o3 o4 x1 hr2
    go_enter Tryd.func43, Tryd.ntmps43
    go_wp2
    go_ret
    exact ⟨some ⟨w.heap.size + 1, 0, none⟩, 1, by rw [HS.out]; rfl, by rw [HS.out]; exact HR.out, by rw [HS.out]; exact ⟨Nat.le_refl _, fun h => by cases h⟩, x2.out, by first | exact .inr ⟨_, rfl, by omega⟩ | exact ⟨_, rfl, by omega⟩⟩
  · have k3 : (s.k == 3) = false := by simpa using h3
    have HS : Hid (shown (pt s) = s.rs) := Lib.hid (by unfold shown pt; rw [if_neg h3])
    have HI := Lib.hid (o4.below x1)
    have HC := Lib.hid o3
    have HL := Lib.hid o1
    have HX := Lib.hid x1
    have H3 := Lib.hid h3
    clear o1 o2 o3 o4 x1 h3
    go_enter Tryd.func43, Tryd.ntmps43
    go_wp2
    go_ret
    exact ⟨s.A, s.c, by rw [HS.out, HL.out]; rfl, by rw [HS.out]; exact HI.out, by rw [HS.out, HL.out]; exact HC.out, HX.out, .inl ⟨H3.out, rfl⟩⟩
theorem own_lt {w w' : World} {base M : Nat} {e : TypeId} {size : Nat} {v : Value} {n : Nat} {xs : List Value} (h : w.ownsRow base e size v n xs) (hl : ∀ b, v.ownBlock = some b → b < M) (hb : Below M w w') : w'.ownsRow base e size v n xs := by
  refine ⟨h.1, ?_⟩
  rcases h.2 with g | ⟨g, cap, cur, rfl, hB, c, h3⟩
  · exact .inl g
  · exact .inr ⟨g, cap, cur, rfl, hB, (hb.block g (hl g rfl)).trans c, h3⟩
theorem Mid.lt {B M : Nat} {w4 W W' : World} {u : Value} (h : Mid B w4 W u) (hs : w4.heap.size ≤ M) (hb : Below M W W') : Mid B w4 W' u :=
  ⟨Nat.le_trans h.size hb.size, fun k h1 h2 => (hb.block k (by omega)).trans (h.mid k h1 h2), h.own⟩
set_option maxHeartbeats 16000000 in
set_option maxRecDepth 100000 in
theorem rOf18_any (tb : Nat) (zs ws : List (Int × Int)) (A : Option Addr) (n c : Nat) (l : List PtV) (tab : Int) (w : World) (hT : RTab w tb zs ws) (hA : RowsAt ptcs 3 w A l) (hl : l.length = n) (hn : n ≤ 1000) (hok : ∀ s ∈ l, PtOk w s) (hp : ∀ s ∈ l, 0 ≤ s.p ∧ s.p ≤ 1099511627776 ∧ s.n ≤ 1000) (ht : (bareL (l.map pt)).length ≤ 10000) (t1 : 1 ≤ tab) (t2 : tab ≤ 16) :
    Calls Tryd.prog 29 #[.pointer (some ⟨tb, 0, none⟩), .slice A n c, .int .i64 tab] w fun e w' => ∃ (m : Nat) (v : Value), e = .returned v ∧ w'.ownsRow w.heap.size 58 4 v m (kfl encC (ofL (wid zs ws) tab (l.map pt))) ∧ Below w.heap.size w w' := by
  have HT := Lib.hid hT
  have HA := Lib.hid hA
  have HL := Lib.hid hl
  have HOK := Lib.hid hok
  have HPB := Lib.hid hp
  have HRS : Hid (∀ j, ((bareL ((l.take j).map pt)).map (·.r)).length ≤ 10000) := Lib.hid fun j => by rw [List.length_map]; have := bareL_le l j; omega
  have HTT := Lib.hid ht
  clear hT hA hl hok hp ht
  go_enter Tryd.func29, Tryd.ntmps29
  go_wp2_with fail
  go_loopg [7, 9, 21] n (fun g a x i wr => ∃ (j : Nat) (u : Value), i = .int .i64 j ∧ j ≤ n ∧ n - j ≤ g ∧ u = a ∧ Hid (Below w.heap.size w wr) ∧ Hid (wr.ownsRow w.heap.size 21 1 u ((bareL ((l.take j).map pt)).map (·.r)).length (((bareL ((l.take j).map pt)).map (·.r)).map (.int .i32))))
  case atStart => exact ⟨0, _, rfl, by omega, by omega, rfl, Lib.hid (Below.refl _ _), Lib.hid ⟨rfl, .inl ⟨rfl, rfl⟩⟩⟩
  case round =>
    obtain ⟨j, v, rfl, h1, h2, rfl, hb, hown⟩ := hrel
    by_cases hlt : j < n
    · have hjl : j < l.length := by rw [HL.out]; exact hlt
      obtain ⟨bA, off, rfl, hbA, d0, d1, d2⟩ := (HA.out.below hb.out).part3 hjl
      have hrn := bareL_runes hjl
      have hle := HRS.out (j + 1)
      rw [hrn, List.length_append] at hle
      have HRN := Lib.hid hrn
      obtain ⟨q, hq⟩ : ∃ q, q = ((bareL ((l.take j).map pt)).map (·.r)).length := ⟨_, rfl⟩
      rw [← hq] at hown hle
      have HQ := Lib.hid hq
      have hok := (HOK.out _ (List.getElem_mem hjl)).below hb.out
      clear hrn hq
      generalize l[j] = s at *
      have i1 : (0 : Int) ≤ j := by omega
      have i2 : (j : Int) < n := by omega
      have x1 : Below wr.heap.size wr (wr.alloc (.cells #[.int .i64 s.k, .int .i64 s.p, .slice s.A s.n s.c] 82)) := (Below.refl _ _).alloc (Nat.le_refl _) _
      have CRU := Lib.hid (rRunes18_at s _ (hok.below x1))
      have HB1 := Lib.hid (hb.out.trans (x1.mono hb.out.size))
      have HO1 := Lib.hid (own_below hown.out x1)
      clear hok x1 hb hown
      go_wp2_with fail
      with_reducible refine (CRU.out).mono ?_
      rintro e w4 ⟨A4, c4, rfl, I4, C4, hb4, hdis⟩
      clear hdis
      have HBW := Lib.hid (HB1.out.trans (hb4.mono HB1.out.size))
      have HOW := Lib.hid (own_below HO1.out hb4)
      have HRW := Lib.hid (rows_ints I4)
      have HC4 := Lib.hid C4
      obtain ⟨z, hz⟩ : ∃ z, z = (shown (pt s)).length := ⟨_, rfl⟩
      rw [← hz] at hle HC4
      have HZ := Lib.hid hz.symm
      rw [← hz]
      clear I4 C4 hb4 HB1 HO1 hz
      go_wp2_with (at_builtin; go_loud (refine wpList_appK (enc := encN .i32) rune_slt (encN_len _) (by omega) rfl (.tmp 25) (.tmp 27) rfl rfl HOW.out (A4) z c4 (shown (pt s)) rfl HRW.out HC4.out HZ.out (kfl_one' (encN_one _) _) (by simp only [maxLen]; omega) (by omega) HBW.out.size ?_; intro v5 w5 hown5 hg5 hn5))
      have HO5 := Lib.hid hown5
      have HB5 := Lib.hid (HBW.out.grown hg5 HBW.out.size (fun k hk => (HOW.out.lt k hk).1))
      clear hown5 hg5 hn5
      go_roundg (gk - 1)
      case measure => omega
      case rel => exact ⟨j + 1, _, by go_num, by omega, by omega, rfl, HB5, Lib.hid (by have := HO5.out; rw [HRN.out, List.map_append, List.length_append, ← HQ.out, HZ.out]; rw [kfl_encN] at this; exact this)⟩
    · obtain rfl : n = j := by omega
      have h5 := hown.out
      have hq0 := HRS.out n
      rw [List.take_of_length_le (by rw [HL.out]; exact Nat.le_refl _)] at h5 hq0
      obtain ⟨A5, c5, rfl, I5, _, _⟩ := IntsAt.of_own h5
      have hzl := szs_length (wid zs ws) tab ((bareL (l.map pt)).map (·.r)) 0
      obtain ⟨hzb, _, _⟩ := szs_bd (wid_bd zs ws) t1 t2 ((bareL (l.map pt)).map (·.r)) 0 (by omega)
      have hz9 : ∀ q (hq : q < (bareL (l.map pt)).length), ((bareL (l.map pt))[q]).r = 9 → 1 ≤ nth (szs (wid zs ws) tab 0 ((bareL (l.map pt)).map (·.r))) q := by
        intro q hq h9
        obtain ⟨q1, _⟩ := szs_at (wid zs ws) tab (l := (bareL (l.map pt)).map (·.r)) (j := q) (by simpa using hq)
        rw [q1, nth_flat (by simpa using hq), List.getElem_map, h9]
        unfold csz
        rw [if_pos rfl]
        exact (tleft_bd t1 (sum_nn _ (fun y hy => (hzb y (List.mem_of_mem_take hy)).1))).1
      have CSZ := Lib.hid (rsSizes_any tb zs ws A5 _ c5 ((bareL (l.map pt)).map (·.r)) tab wr (HT.out.below hb.out) I5 rfl (by omega) t1 t2)
      have HOF : Hid (ofL (wid zs ws) tab (l.map pt) = putL (bareL (l.map pt)) (szs (wid zs ws) tab 0 ((bareL (l.map pt)).map (·.r)))) := Lib.hid rfl
      rw [List.length_map] at hzl
      have HZ9 := Lib.hid hz9
      have HZL := Lib.hid hzl
      have HZB := Lib.hid hzb
      have HB1 := Lib.hid hb.out
      have HAT := Lib.hid fun (j : Nat) (hj : j < l.length) (i : Nat) (hi : i < (shown (pt l[j])).length) => bare_at (l := l) (j := j) (i := i) hj hi
      clear h5 hown hb I5 hzl hzb hz9 hq0 HRS
      generalize szs (wid zs ws) tab 0 ((bareL (l.map pt)).map (·.r)) = D at *
      rw [List.length_map] at CSZ ⊢
      go_wp2_with fail
      with_reducible refine (CSZ.out).mono ?_
      rintro e w3 ⟨v3, rfl, o3, hb3⟩
      obtain ⟨A3, c3, rfl, I3, _, _⟩ := IntsAt.of_own o3
      have HI3 := Lib.hid I3
      have HB3 := Lib.hid (HB1.out.trans (hb3.mono HB1.out.size))
      clear o3 I3 hb3 CSZ HB1
      generalize hcs : bareL (l.map pt) = cs at *
      have HCS := Lib.hid hcs
      clear hcs
      have hcl : cs.length ≤ 10000 := by have := HTT.out; exact this
      go_wp2_with fail
      go_loopg [11, 12, 14, 15, 16, 17, 18, 36] n (fun g a ii x1 x2 x3 x4 x5 i wr => ∃ (j : Nat) (u : Value) (m' q : Nat), i = .int .i64 j ∧ j ≤ n ∧ n - j ≤ g ∧ u = a ∧ ii = .int .i64 (q : Int) ∧ Hid (q = (bareL ((l.take j).map pt)).length) ∧ Hid (Below w3.heap.size w3 wr) ∧ Hid (wr.ownsRow w3.heap.size 58 4 u m' (kfl encC (putL (cs.take q) (D.take q)))))
      case atStart => exact ⟨0, _, 0, 0, rfl, by omega, by omega, rfl, rfl, Lib.hid rfl, Lib.hid (Below.refl _ _), Lib.hid ⟨rfl, .inl ⟨rfl, rfl⟩⟩⟩
      case round =>
        obtain ⟨j, v, m', q, rfl, h1, h2, rfl, rfl, hq, hb, hown⟩ := hrel
        by_cases hlt : j < n
        · have hjl : j < l.length := by rw [HL.out]; exact hlt
          have hbw := HB3.out.trans (hb.out.mono HB3.out.size)
          obtain ⟨bA, off, rfl, hbA, d0, d1, d2⟩ := (HA.out.below hbw).part3 hjl
          have hok := (HOK.out _ (List.getElem_mem hjl)).below hbw
          have hkp : ∀ b off, l[j].A = some ⟨b, off, none⟩ → 0 < l[j].n → b < w3.heap.size := fun b off he h0 => by
            obtain ⟨q1, q2, q3, q4, q5, q6⟩ := HOK.out _ (List.getElem_mem hjl)
            obtain ⟨b', off', he', hb', _⟩ := q4 (by omega)
            rw [he] at he'
            injection he' with he'
            injection he' with e1
            have := HB3.out.size
            omega
          have hlen : (shown (pt l[j])).length ≤ (if l[j].k = 3 then 1 else l[j].n) := by
            unfold shown pt
            simp only
            split
            · simp
            · exact Nat.le_of_eq (HOK.out _ (List.getElem_mem hjl)).1
          have HLEN : Hid (l[j].k = 3 ∨ (shown (pt l[j])).length ≤ l[j].n) := Lib.hid (by
            by_cases h : l[j].k = 3
            · exact .inl h
            · rw [if_neg h] at hlen; exact .inr hlen)
          have HNX := Lib.hid (bareL_next hjl)
          have hat := HAT.out j hjl
          rw [← hq.out] at hat
          obtain ⟨p1, p2, p3⟩ := HPB.out _ (List.getElem_mem hjl)
          have HKP0 := Lib.hid hkp
          have HATJ := Lib.hid hat
          clear hbw hkp hlen hat
          rw [← hq.out] at HNX
          generalize l[j] = s at *
          have i1 : (0 : Int) ≤ j := by omega
          have i2 : (j : Int) < n := by omega
          have x1 : Below wr.heap.size wr (wr.alloc (.cells #[.int .i64 s.k, .int .i64 s.p, .slice s.A s.n s.c] 82)) := (Below.refl _ _).alloc (Nat.le_refl _) _
          have HRP0 : RawAt 82 (wr.alloc (.cells #[.int .i64 s.k, .int .i64 s.p, .slice s.A s.n s.c] 82)) wr.heap.size #[.int .i64 s.k, .int .i64 s.p, .slice s.A s.n s.c] := heap_alloc_new wr _
          have CRU := Lib.hid (rRunes18_at s _ (hok.below x1))
          have HRPH := Lib.hid HRP0
          have HB1 := Lib.hid (hb.out.trans (x1.mono hb.out.size))
          have HO1 := Lib.hid (own_below hown.out x1)
          have HOL := Lib.hid hown.out.lt
          have HS1 : Hid (wr.heap.size < (wr.alloc (.cells #[.int .i64 s.k, .int .i64 s.p, .slice s.A s.n s.c] 82)).heap.size) := Lib.hid HRP0.lt
          obtain ⟨G, hG⟩ : ∃ G, G = gk := ⟨_, rfl⟩
          subst hG
          clear hok x1 hb hown HRP0
          go_wp2_with fail
          with_reducible refine (CRU.out).mono ?_
          rintro e W5 ⟨A4, c4, rfl, I4, C4, hb4, hA4⟩
          have HW5 := Lib.hid (HB1.out.trans (hb4.mono HB1.out.size))
          have HO5 := Lib.hid (own_below HO1.out hb4)
          have HRP := Lib.hid (HRPH.out.below hb4 HRPH.out.lt)
          have HN5 : Hid (wr.heap.size < W5.heap.size) := Lib.hid (Nat.lt_of_lt_of_le HS1.out hb4.size)
          have HM5 : Hid (Mid wr.heap.size W5 W5 v) := Lib.hid (Mid.start fun b hb => .inl (HOL.out b hb).2)
          have HIS := Lib.hid I4
          have HKP : Hid (∀ b off, A4 = some ⟨b, off, none⟩ → 0 < (shown (pt s)).length → b < w3.heap.size ∨ wr.heap.size ≤ b) := Lib.hid fun b off he h0 => by
            rcases hA4 with ⟨h3, h⟩ | ⟨b', h, h'⟩
            · rcases HLEN.out with hk | hk
              · exact absurd hk h3
              · exact .inl (HKP0.out b off (h ▸ he) (by omega))
            · rw [h] at he
              injection he with he
              injection he with e1
              have := HS1.out
              exact .inr (by omega)
          obtain ⟨sh, hsh⟩ : ∃ sh, sh = shown (pt s) := ⟨_, rfl⟩
          rw [← hsh] at HIS HKP HNX
          rw [← hsh]
          obtain ⟨z, hz⟩ : ∃ z, z = sh.length := ⟨_, rfl⟩
          have HAT2 : Hid (∀ (i : Nat) (hi : i < sh.length), cs[q + i]? = some ⟨sh[i], s.k, 0, s.p + (if s.k = 1 then (i : Int) else 0)⟩) := Lib.hid (by subst hsh; exact HATJ.out)
          have hz2 : z ≤ 1000 ∨ z ≤ 1 := by
            have := HLEN.out
            rcases HLEN.out with hk | hk
            · right; rw [hz, hsh]; unfold shown pt; rw [if_pos hk]; simp
            · left; rw [hz, hsh]; omega
          have hz1 : z ≤ 1000 := by omega
          rw [← hz] at HKP HNX
          rw [← hz]
          have HZ := Lib.hid hz.symm
          clear I4 C4 hb4 hA4 HB1 HO1 HOL HRPH HKP0 HLEN HATJ hsh hz hz2 CRU HS1 d0 d1 d2 hbA
          generalize wr.heap.size = N at *
          obtain ⟨k, p, As, ns, cs', rs⟩ := s
          simp only at p1 p2 p3 HRP HAT2
          go_wp2_with fail
          go_loopg [11, 12, 15, 16, 17, 18, 43] z (fun g a ii x2 x3 x4 x5 i wr => ∃ (i' : Nat) (u : Value) (m' : Nat), i = .int .i64 i' ∧ i' ≤ z ∧ z - i' ≤ g ∧ u = a ∧ ii = .int .i64 ((q + i' : Nat) : Int) ∧ Hid (Below w3.heap.size W5 wr) ∧ Hid (Mid N W5 wr u) ∧ Hid (wr.ownsRow w3.heap.size 58 4 u m' (kfl encC (putL (cs.take (q + i')) (D.take (q + i'))))))
          case atStart => exact ⟨0, _, _, rfl, by omega, by omega, rfl, rfl, Lib.hid (Below.refl _ _), HM5, Lib.hid (by rw [Nat.add_zero]; exact HO5.out)⟩
          case round =>
            clear HM5 HO5
            obtain ⟨i', v, m', rfl, h3, h4, rfl, rfl, hb1, hM, hown⟩ := hrel
            have hIq := ints_keep' HIS.out hb1.out hM.out HZ.out HKP.out
            have hR : RawAt 82 wr N #[.int .i64 k, .int .i64 p, .slice As ns cs'] := (hM.out.mid N (Nat.le_refl _) HN5.out).trans HRP.out
            by_cases hl2 : i' < z
            · have hil : i' < sh.length := by rw [HZ.out]; exact hl2
              obtain ⟨bR, offR, rfl, hbR, hcR⟩ := hIq (by omega)
              have r0 := hcR i' hil
              have hat := HAT2.out i' hil
              rw [← nth_flat hil] at hat
              obtain ⟨Q, hQ⟩ : ∃ Q, Q = q + i' := ⟨_, rfl⟩
              rw [← hQ] at hat hown
              rw [← hQ]
              have hQn : Q + 1 = q + (i' + 1) := by omega
              obtain ⟨hQl, hcQ⟩ := List.getElem?_eq_some_iff.1 hat
              have hQd : Q < D.length := by rw [HZL.out]; exact hQl
              have HBW := Lib.hid (HW5.out.trans hb1.out)
              obtain ⟨bD, offD, rfl, hbD, hcD⟩ := (HI3.out.below HBW.out) (by omega)
              have dq := hcD Q hQd
              have HBD : Hid (bD < w3.heap.size) := Lib.hid (by obtain ⟨b', o', e', hb', _⟩ := HI3.out (by omega); injection e' with e'; injection e' with e1; omega)
              have HPT := Lib.hid (putL_take (by rw [HZL.out]) hQl)
              have H9 := HZ9.out Q hQl
              have h16 := HZB.out D[Q] (List.getElem_mem hQd)
              rw [← nth_flat hQd] at HPT h16
              have hm : m' ≤ 1000000 := by
                have a := own_len encC_len (by omega) hown.out
                have b := putL_len (cs.take Q) (D.take Q) (fun x hx => (HZB.out x (List.mem_of_mem_take hx)).2)
                rw [List.length_take] at b
                omega
              have i3 : (0 : Int) ≤ i' := by omega
              have i4 : (i' : Int) < z := by omega
              have i5 : (0 : Int) ≤ Q := by omega
              have i6 : (Q : Int) < cs.length := by omega
              rw [hcQ] at HPT H9
              have HQN := Lib.hid hQn
              simp only at H9
              clear hat hcR hcD hIq hQ hQn hcQ
              generalize nth sh i' = r at *
              generalize nth D Q = sz at *
              obtain ⟨G3, hG3⟩ : ∃ G3, G3 = gk := ⟨_, rfl⟩
              subst hG3
              have c0 := RawAt.cell hR 0
              have c1 := RawAt.cell hR 1
              simp at c0 c1
              have HRN := Lib.hid hR
              have HOL := Lib.hid hown.out.lt
              have hsz0 := (HZB.out D[Q] (List.getElem_mem hQd)).1
              have MK : Hid (∀ W : World, Below wr.heap.size wr W → (fun W => W.cell? ⟨N, 0, none⟩ = some (.int .i64 k) ∧ W.cell? ⟨N, 1, none⟩ = some (.int .i64 p) ∧ W.cell? ⟨bD, offD + Q, none⟩ = some (.int .i64 sz)) W) := fun W hW => ⟨RawAt.cell (HRN.out.below hW HRN.out.lt) 0, RawAt.cell (HRN.out.below hW HRN.out.lt) 1, ((old_cells hW).1 _ _ hbD).trans dq⟩
              have hW2 : Below wr.heap.size wr wr.drew := (Below.refl _ _).drew
              have x6 : Below wr.heap.size wr ((wr.alloc (.cells #[.int .i32 r, .int .i64 k, .int .i64 sz, .int .i64 p] 58)).drew) := ((Below.refl _ _).alloc (Nat.le_refl _) _).drew
              have HR6 : Hid (RawAt 58 ((wr.alloc (.cells #[.int .i32 r, .int .i64 k, .int .i64 sz, .int .i64 p] 58)).drew) wr.heap.size #[.int .i32 r, .int .i64 k, .int .i64 sz, .int .i64 p]) := Lib.hid (heap_alloc_new wr _)
              have HRN6 := Lib.hid (HRN.out.below x6 HRN.out.lt)
              have HO6 := Lib.hid (own_below hown.out x6)
              have HM6 := Lib.hid (hM.out.below x6)
              have HB6 := Lib.hid (hb1.out.trans (x6.mono (by have := HW5.out.size; have := hb1.out.size; omega)))
              have HL6 : Hid (∀ b, v.ownBlock = some b → b < wr.heap.size) := Lib.hid fun b hb => (HOL.out b hb).2
              have HS5 : Hid (W5.heap.size ≤ wr.heap.size) := Lib.hid hb1.out.size
              have HS3 : Hid (w3.heap.size ≤ wr.heap.size) := Lib.hid (by have := HW5.out.size; have := hb1.out.size; omega)
              have hs6 : ((wr.alloc (.cells #[.int .i32 r, .int .i64 k, .int .i64 sz, .int .i64 p] 58)).drew).heap.size = wr.heap.size + 1 := by show (wr.alloc _).heap.size = _; simp
              have HS6 := Lib.hid hs6
              have DQ5 : Hid (W5.cell? ⟨bD, offD + Q, none⟩ = some (.int .i64 sz)) := Lib.hid ((World.cell?_of_block (a := ⟨bD, offD + Q, none⟩) (hb1.out.block bD HBD.out)).symm.trans dq)
              clear hs6 hb1 hM hown hR
              go_wp2_with fail
              refine wp_region_noPanic ?_
              refine wp_region_held_drew (S := (fun W => W.cell? ⟨N, 0, none⟩ = some (.int .i64 k) ∧ W.cell? ⟨N, 1, none⟩ = some (.int .i64 p) ∧ W.cell? ⟨bD, offD + Q, none⟩ = some (.int .i64 sz))) (by kernel_rfl) (MK.out _ hW2) (fun hHeld => ?_)
              refine wpAnyH_take (i := 0) (v := ?_) rfl (by kernel_rfl) (by kernel_rfl) (by kernel_rfl) (fun _ _ _ h => h) (Or.inl ⟨by rfl, ?_⟩) hHeld ?_
              rotate_left
              · intro w hSw
                (try dsimp only at hSw)
                go_simp
                try with_reducible rfl
              go_simp
              refine wpAnyH_take (i := 1) (v := ?_) rfl (by kernel_rfl) (by kernel_rfl) (by kernel_rfl) (fun _ _ _ h => h) (Or.inl ⟨by rfl, ?_⟩) hHeld ?_
              rotate_left
              · intro w hSw
                (try dsimp only at hSw)
                go_simp
                try with_reducible rfl
              go_simp
              refine wpAnyH_take (i := 2) (v := ?_) rfl (by kernel_rfl) (by kernel_rfl) (by kernel_rfl) (fun _ _ _ h => h) (Or.inl ⟨by rfl, ?_⟩) hHeld ?_
              rotate_left
              · intro w hSw
                (try dsimp only at hSw)
                go_simp
                try with_reducible rfl
              go_simp
              refine wpAnyH_take (i := 3) (v := ?_) rfl (by kernel_rfl) (by kernel_rfl) (by kernel_rfl) (fun _ _ _ h => h) (Or.inl ⟨by rfl, ?_⟩) hHeld ?_
              rotate_left
              · intro w hSw
                (try dsimp only at hSw)
                go_simp
                try with_reducible rfl
              go_simp
              refine wpAnyH_take (i := 4) (v := ?_) rfl (by kernel_rfl) (by kernel_rfl) (by kernel_rfl) (fun _ _ _ h => h) (Or.inl ⟨by rfl, ?_⟩) hHeld ?_
              rotate_left
              · intro w hSw
                (try dsimp only at hSw)
                go_simp
                try with_reducible rfl
              go_simp
              refine wpAnyH_take (i := 5) (v := ?_) rfl (by kernel_rfl) (by kernel_rfl) (by kernel_rfl) (fun _ _ _ h => h) (Or.inl ⟨by rfl, ?_⟩) hHeld ?_
              rotate_left
              · intro w hSw
                (try dsimp only at hSw)
                go_simp
                try with_reducible rfl
              go_simp
              refine wpAnyH_take (i := 6) (v := ?_) rfl (by kernel_rfl) (by kernel_rfl) (by kernel_rfl) (fun _ _ _ h => h) (Or.inl ⟨by rfl, ?_⟩) hHeld ?_
              rotate_left
              · intro w hSw
                (try dsimp only at hSw)
                go_simp
                try with_reducible rfl
              go_simp
              refine wpAnyH_take (i := 7) (v := ?_) rfl (by kernel_rfl) (by kernel_rfl) (by kernel_rfl) (fun _ _ _ h => h) (Or.inl ⟨by rfl, ?_⟩) hHeld ?_
              rotate_left
              · intro w hSw
                (try dsimp only at hSw)
                go_simp
                try with_reducible rfl
              go_simp
              refine wpAnyH_take (i := 8) (v := ?_) rfl (by kernel_rfl) (by kernel_rfl) (by kernel_rfl) (fun _ _ _ h => h) (Or.inl ⟨by rfl, ?_⟩) hHeld ?_
              rotate_left
              · intro w hSw
                (try dsimp only at hSw)
                go_simp
                try with_reducible rfl
              go_simp
              refine wpAnyH_take (i := 9) (v := ?_) rfl (by kernel_rfl) (by kernel_rfl) (by kernel_rfl) (fun _ _ _ h => h) (Or.inl ⟨by rfl, ?_⟩) hHeld ?_
              rotate_left
              · intro w hSw
                (try dsimp only at hSw)
                go_simp
                try with_reducible rfl
              go_simp
              refine wpAnyH_ready (rs := [10]) (by kernel_rfl) (by simp) ?_
              refine AllReadyH.cons rfl (fun K hK => ?_) ?_
              rotate_left
              · exact AllReadyH.nil
              go_simp
              go_wp2_with (fail)
              refine hK.out _ _ (MK.out _ (hW2.alloc hW2.size _)) (fun hHeld => ?_)
              clear hK K
              go_simp
              refine wpAnyH_ready (rs := [11]) (by kernel_rfl) (by simp) ?_
              refine AllReadyH.cons rfl (fun K hK => ?_) ?_
              rotate_left
              · exact AllReadyH.nil
              go_simp
              go_wp2_with (fail)
              refine hK.out _ _ (MK.out _ (hW2.alloc hW2.size _)) (fun hHeld => ?_)
              clear hK K
              go_simp
              refine wpAnyH_done (by kernel_rfl) ?_ _
              refine NoPanic.normal ?_
              clear hHeld x6 c0 c1 r0 dq hbR hbD MK hW2 HRN HOL HBW
              generalize (wr.alloc (.cells #[.int .i32 r, .int .i64 k, .int .i64 sz, .int .i64 p] 58)).drew = W6 at *
              generalize wr.heap.size = M at *
              have c0 := RawAt.cell HRN6.out 0
              have c1 := RawAt.cell HRN6.out 1
              simp at c0 c1
              by_cases k1 : k = 1
              · subst k1
                by_cases r9 : r = 9
                · subst r9
                  have h19 : 1 ≤ sz := H9 (by first | rfl | trivial)
                  clear H9
                  have HRS : Hid (RawAt 58 ((W6.setCell ⟨M, 3, none⟩ (.int .i64 (p + (i' : Int)))).setCell ⟨M, 2, none⟩ (.int .i64 1)) M #[.int .i32 9, .int .i64 1, .int .i64 1, .int .i64 (p + (i' : Int))]) := Lib.hid ((RawAt.set_ (RawAt.set_ HR6.out 3 (.int .i64 (p + (i' : Int)))) 2 (.int .i64 1)).of_eq (by simp))
                  have xS : Below M W6 ((W6.setCell ⟨M, 3, none⟩ (.int .i64 (p + (i' : Int)))).setCell ⟨M, 2, none⟩ (.int .i64 1)) := (((Below.refl _ _).setCell (p := ⟨M, 3, none⟩) (Nat.le_refl _) (.int .i64 (p + (i' : Int)))).setCell (p := ⟨M, 2, none⟩) (Nat.le_refl _) (.int .i64 1))
                  have HSS : Hid (((W6.setCell ⟨M, 3, none⟩ (.int .i64 (p + (i' : Int)))).setCell ⟨M, 2, none⟩ (.int .i64 1)).heap.size = M + 1) := Lib.hid (by have := HS6.out; simpa using this)
                  have f0 := RawAt.cell HR6.out 0
                  have f1 := RawAt.cell HR6.out 1
                  have f2 := RawAt.cell HR6.out 2
                  have f3 := RawAt.cell HR6.out 3
                  have fz := RawAt.free HR6.out 0
                  have fy := RawAt.free HR6.out 2
                  have fx := RawAt.free HR6.out 3
                  simp at f0 f1 f2 f3
                  have x7 : Below M W6 (((W6.setCell ⟨M, 3, none⟩ (.int .i64 (p + (i' : Int)))).setCell ⟨M, 2, none⟩ (.int .i64 1)).alloc (.cells #[.int .i32 9, .int .i64 1, .int .i64 1, .int .i64 (p + (i' : Int))] 58)) := xS.alloc (by have := HSS.out; omega) _
                  have HO7 := Lib.hid (own_lt HO6.out HL6.out x7)
                  have HM7 := Lib.hid (HM6.out.lt HS5.out x7)
                  have HB7 := Lib.hid (HB6.out.trans (x7.mono HS3.out))
                  have HMM : Hid (Mid M ((W6.setCell ⟨M, 3, none⟩ (.int .i64 (p + (i' : Int)))).setCell ⟨M, 2, none⟩ (.int .i64 1)) ((W6.setCell ⟨M, 3, none⟩ (.int .i64 (p + (i' : Int)))).setCell ⟨M, 2, none⟩ (.int .i64 1)) v) := Lib.hid (Mid.start fun b hb => .inl (HL6.out b hb))
                  have HMS := Lib.hid (HMM.out.below ((Below.refl _ _).alloc (Nat.le_refl _) (.cells #[.int .i32 9, .int .i64 1, .int .i64 1, .int .i64 (p + (i' : Int))] 58)))
                  have HRW : Hid (RowsAt encC 4 (((W6.setCell ⟨M, 3, none⟩ (.int .i64 (p + (i' : Int)))).setCell ⟨M, 2, none⟩ (.int .i64 1)).alloc (.cells #[.int .i32 9, .int .i64 1, .int .i64 1, .int .i64 (p + (i' : Int))] 58)) (some ⟨M + 1, 0, none⟩) [⟨9, 1, 1, p + (i' : Int)⟩]) := Lib.hid (by have := row_new encC_len ((W6.setCell ⟨M, 3, none⟩ (.int .i64 (p + (i' : Int)))).setCell ⟨M, 2, none⟩ (.int .i64 1)) [⟨9, 1, 1, p + (i' : Int)⟩] #[.int .i32 9, .int .i64 1, .int .i64 1, .int .i64 (p + (i' : Int))] 58 rfl; rwa [HSS.out] at this)
                  have hs6 := HS6.out
                  have hwr : IntKind.i64.wrap (p + (i' : Int)) = p + (i' : Int) := IntWalk.i64_in _ (by omega)
                  clear xS x7
                  go_wp2_with (at_builtin; go_loud (refine wpList_appK (enc := encC) cell_slt encC_len (by omega) rfl (.tmp 69) (.tmp 71) rfl rfl HO7.out (some ⟨M + 1, 0, none⟩) 1 1 [⟨9, 1, 1, p + (i' : Int)⟩] rfl HRW.out ⟨Nat.le_refl _, fun h => by cases h⟩ rfl (kfl_one' encC_one _) (by simp only [maxLen]; omega) (by omega) (by have := HS3.out; have := HS6.out; simp; omega) ?_; intro v5 w5 hown5 hg5 hn5; have HN8 := Lib.hid (HMS.out.grown hg5 hn5); have g8 := RawAt.cell (show RawAt 58 w5 M #[.int .i32 9, .int .i64 1, .int .i64 1, .int .i64 (p + (i' : Int))] from (HN8.out.mid M (Nat.le_refl _) (by rw [HSS.out]; omega)).trans HRS.out) 2; simp at g8))
                  have HO8 := Lib.hid hown5
                  have HB8 := Lib.hid (HB7.out.grown hg5 (by have := HS3.out; have := HS6.out; simp; omega) (fun k hk => (HO7.out.lt k hk).1))
                  have HM8 := Lib.hid (HM7.out.grown hg5 hn5)
                  clear hown5 hg5 hn5 HO7 HB7 HM7 HMS HRW HMM hs6 f0 f1 f2 f3 fz fy fx c0 c1
                  generalize ((W6.setCell ⟨M, 3, none⟩ (.int .i64 (p + (i' : Int)))).setCell ⟨M, 2, none⟩ (.int .i64 1)) = S6 at *
                  go_loopg [11, 18] 20 (fun g a nn wr => ∃ (t : Nat) (u : Value) (m' : Nat), nn = .int .i64 (1 + (t : Int)) ∧ 1 + (t : Int) ≤ sz ∧ sz - (1 + (t : Int)) < g ∧ u = a ∧ Hid (Below w3.heap.size W5 wr) ∧ Hid (Mid N W5 wr u) ∧ Hid (Mid M S6 wr u) ∧ Hid (wr.ownsRow w3.heap.size 58 4 u m' (kfl encC (putL (cs.take Q) (D.take Q) ++ ⟨9, 1, 1, p + (i' : Int)⟩ :: List.replicate t ⟨32, 4, 1, p + (i' : Int)⟩))) ∧ m' ≤ 1000000 + 1 + t)
                  case atStart => exact ⟨0, _, _, by simp, by omega, by omega, rfl, HB8, HM8, HN8, Lib.hid (by have := HO8.out; rw [← kfl_append] at this; exact this), by omega⟩
                  case round =>
                    clear HB8 HM8 HN8 HO8 g8
                    obtain ⟨t, v, m'', rfl, y1, y2, rfl, hb1, hM, hMM, hown, hm2⟩ := hrel
                    have c3 := RawAt.cell (show RawAt 58 wr M #[.int .i32 9, .int .i64 1, .int .i64 1, .int .i64 (p + (i' : Int))] from (hMM.out.mid M (Nat.le_refl _) (by rw [HSS.out]; omega)).trans HRS.out) 3
                    simp at c3
                    have dq : wr.cell? ⟨bD, offD + Q, none⟩ = some (.int .i64 sz) := (World.cell?_of_block (a := ⟨bD, offD + Q, none⟩) (hb1.out.block bD HBD.out)).trans DQ5.out
                    by_cases hlt4 : 1 + (t : Int) < sz
                    · have x3 : Below wr.heap.size wr (wr.alloc (.cells #[.int .i32 32, .int .i64 4, .int .i64 1, .int .i64 (p + (i' : Int))] 58)) := (Below.refl _ _).alloc (Nat.le_refl _) _
                      have HOW := Lib.hid (own_below hown.out x3)
                      have HM3 := Lib.hid (hM.out.below x3)
                      have HMM3 := Lib.hid (hMM.out.below x3)
                      have HBB : Hid (w3.heap.size ≤ wr.heap.size) := Lib.hid (by have := HW5.out.size; have := hb1.out.size; omega)
                      have HB3' := Lib.hid (hb1.out.trans (x3.mono HBB.out))
                      have HRW : Hid (RowsAt encC 4 (wr.alloc (.cells #[.int .i32 32, .int .i64 4, .int .i64 1, .int .i64 (p + (i' : Int))] 58)) (some ⟨wr.heap.size, 0, none⟩) [⟨32, 4, 1, p + (i' : Int)⟩]) := Lib.hid (row_new encC_len wr [⟨32, 4, 1, p + (i' : Int)⟩] #[.int .i32 32, .int .i64 4, .int .i64 1, .int .i64 (p + (i' : Int))] 58 rfl)
                      clear hb1 hM hMM hown x3
                      go_wp2_with (at_builtin; go_loud (refine wpList_appK (enc := encC) cell_slt encC_len (by omega) rfl (.tmp 83) (.tmp 87) rfl rfl HOW.out (some ⟨wr.heap.size, 0, none⟩) 1 1 [⟨32, 4, 1, p + (i' : Int)⟩] rfl HRW.out ⟨Nat.le_refl _, fun h => by cases h⟩ rfl (kfl_one' encC_one _) (by simp only [maxLen]; omega) (by omega) (by have := HBB.out; simp; omega) ?_; intro v5 w5 hown5 hg5 hn5))
                      have HO5 := Lib.hid hown5
                      have HB5 := Lib.hid (HB3'.out.grown hg5 (by have := HBB.out; simp; omega) (fun k hk => (HOW.out.lt k hk).1))
                      have HM5 := Lib.hid (HM3.out.grown hg5 hn5)
                      have HMM5 := Lib.hid (HMM3.out.grown hg5 hn5)
                      clear hown5 hg5 hn5
                      go_roundg (gk - 1)
                      case measure => omega
                      case rel => exact ⟨t + 1, _, _, by go_num, by omega, by omega, rfl, HB5, HM5, HMM5, Lib.hid (by have := HO5.out; rw [← kfl_append, List.append_assoc, List.cons_append, ← List.replicate_succ'] at this; exact this), by omega⟩
                    · have HPC : Hid (putL (cs.take (Q + 1)) (D.take (Q + 1)) = putL (cs.take Q) (D.take Q) ++ ⟨9, 1, 1, p + (i' : Int)⟩ :: List.replicate t ⟨32, 4, 1, p + (i' : Int)⟩) := Lib.hid (by rw [HPT.out]; congr 1; unfold putC; rw [if_pos rfl, show (sz - 1).toNat = t by omega]; simp)
                      have HO5 := Lib.hid hown.out
                      have HB5 := Lib.hid hb1.out
                      have HM5 := Lib.hid hM.out
                      clear hb1 hM hMM hown c3
                      go_wp2
                      go_roundg (G3 - 1)
                      case measure => omega
                      case rel => exact ⟨i' + 1, _, _, by go_num, by omega, by omega, rfl, by rw [← HQN.out]; go_num, HB5, HM5, Lib.hid (by rw [← HQN.out, HPC.out]; exact HO5.out)⟩
                · have k9 : (r == 9) = false := by simpa using r9
                  have HRS : Hid (RawAt 58 (W6.setCell ⟨M, 3, none⟩ (.int .i64 (p + (i' : Int)))) M #[.int .i32 r, .int .i64 1, .int .i64 sz, .int .i64 (p + (i' : Int))]) := Lib.hid ((RawAt.set_ HR6.out 3 (.int .i64 (p + (i' : Int)))).of_eq (by simp))
                  have xS : Below M W6 (W6.setCell ⟨M, 3, none⟩ (.int .i64 (p + (i' : Int)))) := ((Below.refl _ _).setCell (p := ⟨M, 3, none⟩) (Nat.le_refl _) (.int .i64 (p + (i' : Int))))
                  have HSS : Hid ((W6.setCell ⟨M, 3, none⟩ (.int .i64 (p + (i' : Int)))).heap.size = M + 1) := Lib.hid (by have := HS6.out; simpa using this)
                  have f0 := RawAt.cell HR6.out 0
                  have f1 := RawAt.cell HR6.out 1
                  have f2 := RawAt.cell HR6.out 2
                  have f3 := RawAt.cell HR6.out 3
                  have fz := RawAt.free HR6.out 0
                  have fy := RawAt.free HR6.out 2
                  have fx := RawAt.free HR6.out 3
                  simp at f0 f1 f2 f3
                  have x7 : Below M W6 ((W6.setCell ⟨M, 3, none⟩ (.int .i64 (p + (i' : Int)))).alloc (.cells #[.int .i32 r, .int .i64 1, .int .i64 sz, .int .i64 (p + (i' : Int))] 58)) := xS.alloc (by have := HSS.out; omega) _
                  have HO7 := Lib.hid (own_lt HO6.out HL6.out x7)
                  have HM7 := Lib.hid (HM6.out.lt HS5.out x7)
                  have HB7 := Lib.hid (HB6.out.trans (x7.mono HS3.out))
                  have HMM : Hid (Mid M (W6.setCell ⟨M, 3, none⟩ (.int .i64 (p + (i' : Int)))) (W6.setCell ⟨M, 3, none⟩ (.int .i64 (p + (i' : Int)))) v) := Lib.hid (Mid.start fun b hb => .inl (HL6.out b hb))
                  have HMS := Lib.hid (HMM.out.below ((Below.refl _ _).alloc (Nat.le_refl _) (.cells #[.int .i32 r, .int .i64 1, .int .i64 sz, .int .i64 (p + (i' : Int))] 58)))
                  have HRW : Hid (RowsAt encC 4 ((W6.setCell ⟨M, 3, none⟩ (.int .i64 (p + (i' : Int)))).alloc (.cells #[.int .i32 r, .int .i64 1, .int .i64 sz, .int .i64 (p + (i' : Int))] 58)) (some ⟨M + 1, 0, none⟩) [⟨r, 1, sz, p + (i' : Int)⟩]) := Lib.hid (by have := row_new encC_len (W6.setCell ⟨M, 3, none⟩ (.int .i64 (p + (i' : Int)))) [⟨r, 1, sz, p + (i' : Int)⟩] #[.int .i32 r, .int .i64 1, .int .i64 sz, .int .i64 (p + (i' : Int))] 58 rfl; rwa [HSS.out] at this)
                  have hs6 := HS6.out
                  have hwr : IntKind.i64.wrap (p + (i' : Int)) = p + (i' : Int) := IntWalk.i64_in _ (by omega)
                  clear xS x7
                  go_wp2_with (at_builtin; go_loud (refine wpList_appK (enc := encC) cell_slt encC_len (by omega) rfl (.tmp 69) (.tmp 71) rfl rfl HO7.out (some ⟨M + 1, 0, none⟩) 1 1 [⟨r, 1, sz, p + (i' : Int)⟩] rfl HRW.out ⟨Nat.le_refl _, fun h => by cases h⟩ rfl (kfl_one' encC_one _) (by simp only [maxLen]; omega) (by omega) (by have := HS3.out; have := HS6.out; simp; omega) ?_; intro v5 w5 hown5 hg5 hn5; have HN8 := Lib.hid (HMS.out.grown hg5 hn5); have g8 := RawAt.cell (show RawAt 58 w5 M #[.int .i32 r, .int .i64 1, .int .i64 sz, .int .i64 (p + (i' : Int))] from (HN8.out.mid M (Nat.le_refl _) (by rw [HSS.out]; omega)).trans HRS.out) 2; simp at g8))
                  have HO8 := Lib.hid hown5
                  have HB8 := Lib.hid (HB7.out.grown hg5 (by have := HS3.out; have := HS6.out; simp; omega) (fun k hk => (HO7.out.lt k hk).1))
                  have HM8 := Lib.hid (HM7.out.grown hg5 hn5)
                  clear hown5 hg5 hn5 HO7 HB7 HM7 HMS HRW HMM hs6 f0 f1 f2 f3 fz fy fx c0 c1
                  generalize (W6.setCell ⟨M, 3, none⟩ (.int .i64 (p + (i' : Int)))) = S6 at *
                  go_loopg [11, 18] 20 (fun g a nn wr => ∃ (t : Nat) (u : Value) (m' : Nat), nn = .int .i64 (sz + (t : Int)) ∧ sz + (t : Int) ≤ sz ∧ sz - (sz + (t : Int)) < g ∧ u = a ∧ Hid (Below w3.heap.size W5 wr) ∧ Hid (Mid N W5 wr u) ∧ Hid (Mid M S6 wr u) ∧ Hid (wr.ownsRow w3.heap.size 58 4 u m' (kfl encC (putL (cs.take Q) (D.take Q) ++ ⟨r, 1, sz, p + (i' : Int)⟩ :: List.replicate t ⟨32, 4, 1, p + (i' : Int)⟩))) ∧ m' ≤ 1000000 + 1 + t)
                  case atStart => exact ⟨0, _, _, by simp, by omega, by omega, rfl, HB8, HM8, HN8, Lib.hid (by have := HO8.out; rw [← kfl_append] at this; exact this), by omega⟩
                  case round =>
                    clear HB8 HM8 HN8 HO8 g8
                    obtain ⟨t, v, m'', rfl, y1, y2, rfl, hb1, hM, hMM, hown, hm2⟩ := hrel
                    have c3 := RawAt.cell (show RawAt 58 wr M #[.int .i32 r, .int .i64 1, .int .i64 sz, .int .i64 (p + (i' : Int))] from (hMM.out.mid M (Nat.le_refl _) (by rw [HSS.out]; omega)).trans HRS.out) 3
                    simp at c3
                    have dq : wr.cell? ⟨bD, offD + Q, none⟩ = some (.int .i64 sz) := (World.cell?_of_block (a := ⟨bD, offD + Q, none⟩) (hb1.out.block bD HBD.out)).trans DQ5.out
                    by_cases hlt4 : sz + (t : Int) < sz
                    · exact absurd hlt4 (by omega)
                    · have HPC : Hid (putL (cs.take (Q + 1)) (D.take (Q + 1)) = putL (cs.take Q) (D.take Q) ++ ⟨r, 1, sz, p + (i' : Int)⟩ :: List.replicate t ⟨32, 4, 1, p + (i' : Int)⟩) := Lib.hid (by rw [HPT.out]; congr 1; unfold putC; rw [if_neg r9, show t = 0 by omega]; simp)
                      have HO5 := Lib.hid hown.out
                      have HB5 := Lib.hid hb1.out
                      have HM5 := Lib.hid hM.out
                      clear hb1 hM hMM hown c3
                      go_wp2
                      go_roundg (G3 - 1)
                      case measure => omega
                      case rel => exact ⟨i' + 1, _, _, by go_num, by omega, by omega, rfl, by rw [← HQN.out]; go_num, HB5, HM5, Lib.hid (by rw [← HQN.out, HPC.out]; exact HO5.out)⟩
              · have kk1 : (k == 1) = false := by simpa using k1
                by_cases r9 : r = 9
                · subst r9
                  have h19 : 1 ≤ sz := H9 (by first | rfl | trivial)
                  clear H9
                  have HRS : Hid (RawAt 58 (W6.setCell ⟨M, 2, none⟩ (.int .i64 1)) M #[.int .i32 9, .int .i64 k, .int .i64 1, .int .i64 (p)]) := Lib.hid ((RawAt.set_ HR6.out 2 (.int .i64 1)).of_eq (by simp))
                  have xS : Below M W6 (W6.setCell ⟨M, 2, none⟩ (.int .i64 1)) := ((Below.refl _ _).setCell (p := ⟨M, 2, none⟩) (Nat.le_refl _) (.int .i64 1))
                  have HSS : Hid ((W6.setCell ⟨M, 2, none⟩ (.int .i64 1)).heap.size = M + 1) := Lib.hid (by have := HS6.out; simpa using this)
                  have f0 := RawAt.cell HR6.out 0
                  have f1 := RawAt.cell HR6.out 1
                  have f2 := RawAt.cell HR6.out 2
                  have f3 := RawAt.cell HR6.out 3
                  have fz := RawAt.free HR6.out 0
                  have fy := RawAt.free HR6.out 2
                  have fx := RawAt.free HR6.out 3
                  simp at f0 f1 f2 f3
                  have x7 : Below M W6 ((W6.setCell ⟨M, 2, none⟩ (.int .i64 1)).alloc (.cells #[.int .i32 9, .int .i64 k, .int .i64 1, .int .i64 (p)] 58)) := xS.alloc (by have := HSS.out; omega) _
                  have HO7 := Lib.hid (own_lt HO6.out HL6.out x7)
                  have HM7 := Lib.hid (HM6.out.lt HS5.out x7)
                  have HB7 := Lib.hid (HB6.out.trans (x7.mono HS3.out))
                  have HMM : Hid (Mid M (W6.setCell ⟨M, 2, none⟩ (.int .i64 1)) (W6.setCell ⟨M, 2, none⟩ (.int .i64 1)) v) := Lib.hid (Mid.start fun b hb => .inl (HL6.out b hb))
                  have HMS := Lib.hid (HMM.out.below ((Below.refl _ _).alloc (Nat.le_refl _) (.cells #[.int .i32 9, .int .i64 k, .int .i64 1, .int .i64 (p)] 58)))
                  have HRW : Hid (RowsAt encC 4 ((W6.setCell ⟨M, 2, none⟩ (.int .i64 1)).alloc (.cells #[.int .i32 9, .int .i64 k, .int .i64 1, .int .i64 (p)] 58)) (some ⟨M + 1, 0, none⟩) [⟨9, k, 1, p⟩]) := Lib.hid (by have := row_new encC_len (W6.setCell ⟨M, 2, none⟩ (.int .i64 1)) [⟨9, k, 1, p⟩] #[.int .i32 9, .int .i64 k, .int .i64 1, .int .i64 (p)] 58 rfl; rwa [HSS.out] at this)
                  have hs6 := HS6.out
                  clear xS x7
                  go_wp2_with (at_builtin; go_loud (refine wpList_appK (enc := encC) cell_slt encC_len (by omega) rfl (.tmp 69) (.tmp 71) rfl rfl HO7.out (some ⟨M + 1, 0, none⟩) 1 1 [⟨9, k, 1, p⟩] rfl HRW.out ⟨Nat.le_refl _, fun h => by cases h⟩ rfl (kfl_one' encC_one _) (by simp only [maxLen]; omega) (by omega) (by have := HS3.out; have := HS6.out; simp; omega) ?_; intro v5 w5 hown5 hg5 hn5; have HN8 := Lib.hid (HMS.out.grown hg5 hn5); have g8 := RawAt.cell (show RawAt 58 w5 M #[.int .i32 9, .int .i64 k, .int .i64 1, .int .i64 (p)] from (HN8.out.mid M (Nat.le_refl _) (by rw [HSS.out]; omega)).trans HRS.out) 2; simp at g8))
                  have HO8 := Lib.hid hown5
                  have HB8 := Lib.hid (HB7.out.grown hg5 (by have := HS3.out; have := HS6.out; simp; omega) (fun k hk => (HO7.out.lt k hk).1))
                  have HM8 := Lib.hid (HM7.out.grown hg5 hn5)
                  clear hown5 hg5 hn5 HO7 HB7 HM7 HMS HRW HMM hs6 f0 f1 f2 f3 fz fy fx c0 c1
                  generalize (W6.setCell ⟨M, 2, none⟩ (.int .i64 1)) = S6 at *
                  go_loopg [11, 18] 20 (fun g a nn wr => ∃ (t : Nat) (u : Value) (m' : Nat), nn = .int .i64 (1 + (t : Int)) ∧ 1 + (t : Int) ≤ sz ∧ sz - (1 + (t : Int)) < g ∧ u = a ∧ Hid (Below w3.heap.size W5 wr) ∧ Hid (Mid N W5 wr u) ∧ Hid (Mid M S6 wr u) ∧ Hid (wr.ownsRow w3.heap.size 58 4 u m' (kfl encC (putL (cs.take Q) (D.take Q) ++ ⟨9, k, 1, p⟩ :: List.replicate t ⟨32, 4, 1, p⟩))) ∧ m' ≤ 1000000 + 1 + t)
                  case atStart => exact ⟨0, _, _, by simp, by omega, by omega, rfl, HB8, HM8, HN8, Lib.hid (by have := HO8.out; rw [← kfl_append] at this; exact this), by omega⟩
                  case round =>
                    clear HB8 HM8 HN8 HO8 g8
                    obtain ⟨t, v, m'', rfl, y1, y2, rfl, hb1, hM, hMM, hown, hm2⟩ := hrel
                    have c3 := RawAt.cell (show RawAt 58 wr M #[.int .i32 9, .int .i64 k, .int .i64 1, .int .i64 (p)] from (hMM.out.mid M (Nat.le_refl _) (by rw [HSS.out]; omega)).trans HRS.out) 3
                    simp at c3
                    have dq : wr.cell? ⟨bD, offD + Q, none⟩ = some (.int .i64 sz) := (World.cell?_of_block (a := ⟨bD, offD + Q, none⟩) (hb1.out.block bD HBD.out)).trans DQ5.out
                    by_cases hlt4 : 1 + (t : Int) < sz
                    · have x3 : Below wr.heap.size wr (wr.alloc (.cells #[.int .i32 32, .int .i64 4, .int .i64 1, .int .i64 (p)] 58)) := (Below.refl _ _).alloc (Nat.le_refl _) _
                      have HOW := Lib.hid (own_below hown.out x3)
                      have HM3 := Lib.hid (hM.out.below x3)
                      have HMM3 := Lib.hid (hMM.out.below x3)
                      have HBB : Hid (w3.heap.size ≤ wr.heap.size) := Lib.hid (by have := HW5.out.size; have := hb1.out.size; omega)
                      have HB3' := Lib.hid (hb1.out.trans (x3.mono HBB.out))
                      have HRW : Hid (RowsAt encC 4 (wr.alloc (.cells #[.int .i32 32, .int .i64 4, .int .i64 1, .int .i64 (p)] 58)) (some ⟨wr.heap.size, 0, none⟩) [⟨32, 4, 1, p⟩]) := Lib.hid (row_new encC_len wr [⟨32, 4, 1, p⟩] #[.int .i32 32, .int .i64 4, .int .i64 1, .int .i64 (p)] 58 rfl)
                      clear hb1 hM hMM hown x3
                      go_wp2_with (at_builtin; go_loud (refine wpList_appK (enc := encC) cell_slt encC_len (by omega) rfl (.tmp 83) (.tmp 87) rfl rfl HOW.out (some ⟨wr.heap.size, 0, none⟩) 1 1 [⟨32, 4, 1, p⟩] rfl HRW.out ⟨Nat.le_refl _, fun h => by cases h⟩ rfl (kfl_one' encC_one _) (by simp only [maxLen]; omega) (by omega) (by have := HBB.out; simp; omega) ?_; intro v5 w5 hown5 hg5 hn5))
                      have HO5 := Lib.hid hown5
                      have HB5 := Lib.hid (HB3'.out.grown hg5 (by have := HBB.out; simp; omega) (fun k hk => (HOW.out.lt k hk).1))
                      have HM5 := Lib.hid (HM3.out.grown hg5 hn5)
                      have HMM5 := Lib.hid (HMM3.out.grown hg5 hn5)
                      clear hown5 hg5 hn5
                      go_roundg (gk - 1)
                      case measure => omega
                      case rel => exact ⟨t + 1, _, _, by go_num, by omega, by omega, rfl, HB5, HM5, HMM5, Lib.hid (by have := HO5.out; rw [← kfl_append, List.append_assoc, List.cons_append, ← List.replicate_succ'] at this; exact this), by omega⟩
                    · have HPC : Hid (putL (cs.take (Q + 1)) (D.take (Q + 1)) = putL (cs.take Q) (D.take Q) ++ ⟨9, k, 1, p⟩ :: List.replicate t ⟨32, 4, 1, p⟩) := Lib.hid (by rw [HPT.out]; congr 1; unfold putC; rw [if_pos rfl, show (sz - 1).toNat = t by omega]; simp [k1])
                      have HO5 := Lib.hid hown.out
                      have HB5 := Lib.hid hb1.out
                      have HM5 := Lib.hid hM.out
                      clear hb1 hM hMM hown c3
                      go_wp2
                      go_roundg (G3 - 1)
                      case measure => omega
                      case rel => exact ⟨i' + 1, _, _, by go_num, by omega, by omega, rfl, by rw [← HQN.out]; go_num, HB5, HM5, Lib.hid (by rw [← HQN.out, HPC.out]; exact HO5.out)⟩
                · have k9 : (r == 9) = false := by simpa using r9
                  have HRS : Hid (RawAt 58 W6 M #[.int .i32 r, .int .i64 k, .int .i64 sz, .int .i64 (p)]) := Lib.hid HR6.out
                  have xS : Below M W6 W6 := (Below.refl _ _)
                  have HSS : Hid (W6.heap.size = M + 1) := Lib.hid (by have := HS6.out; simpa using this)
                  have f0 := RawAt.cell HR6.out 0
                  have f1 := RawAt.cell HR6.out 1
                  have f2 := RawAt.cell HR6.out 2
                  have f3 := RawAt.cell HR6.out 3
                  have fz := RawAt.free HR6.out 0
                  have fy := RawAt.free HR6.out 2
                  have fx := RawAt.free HR6.out 3
                  simp at f0 f1 f2 f3
                  have x7 : Below M W6 (W6.alloc (.cells #[.int .i32 r, .int .i64 k, .int .i64 sz, .int .i64 (p)] 58)) := xS.alloc (by have := HSS.out; omega) _
                  have HO7 := Lib.hid (own_lt HO6.out HL6.out x7)
                  have HM7 := Lib.hid (HM6.out.lt HS5.out x7)
                  have HB7 := Lib.hid (HB6.out.trans (x7.mono HS3.out))
                  have HMM : Hid (Mid M W6 W6 v) := Lib.hid (Mid.start fun b hb => .inl (HL6.out b hb))
                  have HMS := Lib.hid (HMM.out.below ((Below.refl _ _).alloc (Nat.le_refl _) (.cells #[.int .i32 r, .int .i64 k, .int .i64 sz, .int .i64 (p)] 58)))
                  have HRW : Hid (RowsAt encC 4 (W6.alloc (.cells #[.int .i32 r, .int .i64 k, .int .i64 sz, .int .i64 (p)] 58)) (some ⟨M + 1, 0, none⟩) [⟨r, k, sz, p⟩]) := Lib.hid (by have := row_new encC_len W6 [⟨r, k, sz, p⟩] #[.int .i32 r, .int .i64 k, .int .i64 sz, .int .i64 (p)] 58 rfl; rwa [HSS.out] at this)
                  have hs6 := HS6.out
                  clear xS x7
                  go_wp2_with (at_builtin; go_loud (refine wpList_appK (enc := encC) cell_slt encC_len (by omega) rfl (.tmp 69) (.tmp 71) rfl rfl HO7.out (some ⟨M + 1, 0, none⟩) 1 1 [⟨r, k, sz, p⟩] rfl HRW.out ⟨Nat.le_refl _, fun h => by cases h⟩ rfl (kfl_one' encC_one _) (by simp only [maxLen]; omega) (by omega) (by have := HS3.out; have := HS6.out; simp; omega) ?_; intro v5 w5 hown5 hg5 hn5; have HN8 := Lib.hid (HMS.out.grown hg5 hn5); have g8 := RawAt.cell (show RawAt 58 w5 M #[.int .i32 r, .int .i64 k, .int .i64 sz, .int .i64 (p)] from (HN8.out.mid M (Nat.le_refl _) (by rw [HSS.out]; omega)).trans HRS.out) 2; simp at g8))
                  have HO8 := Lib.hid hown5
                  have HB8 := Lib.hid (HB7.out.grown hg5 (by have := HS3.out; have := HS6.out; simp; omega) (fun k hk => (HO7.out.lt k hk).1))
                  have HM8 := Lib.hid (HM7.out.grown hg5 hn5)
                  clear hown5 hg5 hn5 HO7 HB7 HM7 HMS HRW HMM hs6 f0 f1 f2 f3 fz fy fx c0 c1
                  generalize W6 = S6 at *
                  go_loopg [11, 18] 20 (fun g a nn wr => ∃ (t : Nat) (u : Value) (m' : Nat), nn = .int .i64 (sz + (t : Int)) ∧ sz + (t : Int) ≤ sz ∧ sz - (sz + (t : Int)) < g ∧ u = a ∧ Hid (Below w3.heap.size W5 wr) ∧ Hid (Mid N W5 wr u) ∧ Hid (Mid M S6 wr u) ∧ Hid (wr.ownsRow w3.heap.size 58 4 u m' (kfl encC (putL (cs.take Q) (D.take Q) ++ ⟨r, k, sz, p⟩ :: List.replicate t ⟨32, 4, 1, p⟩))) ∧ m' ≤ 1000000 + 1 + t)
                  case atStart => exact ⟨0, _, _, by simp, by omega, by omega, rfl, HB8, HM8, HN8, Lib.hid (by have := HO8.out; rw [← kfl_append] at this; exact this), by omega⟩
                  case round =>
                    clear HB8 HM8 HN8 HO8 g8
                    obtain ⟨t, v, m'', rfl, y1, y2, rfl, hb1, hM, hMM, hown, hm2⟩ := hrel
                    have c3 := RawAt.cell (show RawAt 58 wr M #[.int .i32 r, .int .i64 k, .int .i64 sz, .int .i64 (p)] from (hMM.out.mid M (Nat.le_refl _) (by rw [HSS.out]; omega)).trans HRS.out) 3
                    simp at c3
                    have dq : wr.cell? ⟨bD, offD + Q, none⟩ = some (.int .i64 sz) := (World.cell?_of_block (a := ⟨bD, offD + Q, none⟩) (hb1.out.block bD HBD.out)).trans DQ5.out
                    by_cases hlt4 : sz + (t : Int) < sz
                    · exact absurd hlt4 (by omega)
                    · have HPC : Hid (putL (cs.take (Q + 1)) (D.take (Q + 1)) = putL (cs.take Q) (D.take Q) ++ ⟨r, k, sz, p⟩ :: List.replicate t ⟨32, 4, 1, p⟩) := Lib.hid (by rw [HPT.out]; congr 1; unfold putC; rw [if_neg r9, show t = 0 by omega]; simp [k1])
                      have HO5 := Lib.hid hown.out
                      have HB5 := Lib.hid hb1.out
                      have HM5 := Lib.hid hM.out
                      clear hb1 hM hMM hown c3
                      go_wp2
                      go_roundg (G3 - 1)
                      case measure => omega
                      case rel => exact ⟨i' + 1, _, _, by go_num, by omega, by omega, rfl, by rw [← HQN.out]; go_num, HB5, HM5, Lib.hid (by rw [← HQN.out, HPC.out]; exact HO5.out)⟩
            · obtain rfl : z = i' := by omega
              have h5 := hown.out
              have HB7 := Lib.hid (HW5.out.trans hb1.out)
              have HO7 := Lib.hid h5
              clear h5 hown hM hR hIq hb1
              go_wp2
              go_roundg (G - 1)
              case measure => omega
              case rel => exact ⟨j + 1, _, _, q + z, by go_num, by omega, by omega, rfl, rfl, Lib.hid HNX.out.symm, HB7, HO7⟩
        · obtain rfl : n = j := by omega
          have h5 := hown.out
          have hqc : q = cs.length := by rw [hq.out, List.take_of_length_le (by rw [HL.out]; exact Nat.le_refl _), HCS.out]
          rw [hqc, List.take_of_length_le (l := cs) (Nat.le_refl _), List.take_of_length_le (l := D) (by rw [HZL.out]; exact Nat.le_refl _), ← HOF.out] at h5
          obtain ⟨A8, c8, rfl⟩ := own_form h5
          have H5 := Lib.hid (own_base h5 HB3.out.size)
          have HB8 := Lib.hid (HB3.out.trans (hb.out.mono HB3.out.size))
          clear h5 hown hb hqc
          go_wp2
          go_ret
          exact ⟨_, _, rfl, H5.out, HB8.out⟩
end Go.Proofs.YtbalafgoengppaaDoor
