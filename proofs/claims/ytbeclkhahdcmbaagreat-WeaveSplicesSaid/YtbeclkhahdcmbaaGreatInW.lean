/- Inlays: the contract of Splice, of any set. -/
import Derived.Test.YtbeclkhahdcmbaaGreatInV
import Derived.Test.YtbeclkhahdcmbaaGreatInG
namespace Go.Proofs.YtbeclkhahdcmbaaGreat
open Go.RowKit Go.Sort
set_option linter.unusedVariables false
/-- Is an id among those of inlays? -/
def inSet (o : List In) (x : Int) : Bool := o.any fun a => a.id == x
def fB (b : Bool) : Option Value := if b then some (.bool true) else none
theorem inSet_snoc (o : List In) (a : In) (x : Int) : inSet (o ++ [a]) x = (inSet o x || a.id == x) := by simp [inSet]
theorem inSet_iff {o : List In} {x : Int} : inSet o x = true ↔ ∃ a ∈ o, a.id = x := by simp [inSet]
/-- What is there still. -/
def still (o : List In) (r : List Int) (x : Int) : Bool := inSet o x && !r.contains x
theorem still_ok {o : List In} {r : List Int} {k : Nat} (h : k < r.length) (hk : remOk o (r.take k)) : still o (r.take k) r[k] = true ↔ remOk o (r.take (k + 1)) := by
  rw [remOk_step h, ← inSet_iff]
  unfold still
  simp [hk]
theorem still_left {o : List In} {r : List Int} : (o.filter fun a => !(!(still o r a.id))) = left o r := by
  unfold left
  refine List.filter_congr fun a ha => ?_
  have : inSet o a.id = true := inSet_iff.2 ⟨a, ha, rfl⟩
  unfold still
  rw [this]
  by_cases h : a.id ∈ r <;> simp [h]
theorem still_self {o : List In} {r : List Int} {x : Int} : still o (r ++ [x]) x = false := by
  have : (r ++ [x]).contains x = true := by simp
  unfold still; rw [this, Bool.not_true, Bool.and_false]
theorem still_ne {o : List In} {r : List Int} {x y : Int} (h : x ≠ y) : still o (r ++ [y]) x = still o r x := by
  have : (r ++ [y]).contains x = r.contains x := by
    rw [Bool.eq_iff_iff, List.contains_iff_mem, List.contains_iff_mem, List.mem_append, List.mem_singleton]
    exact ⟨fun g => g.resolve_right h, .inl⟩
  unfold still; rw [this]
theorem still_take {o : List In} {r : List Int} {q : Nat} (h : q < r.length) (x : Int) : (if x = r[q] then none else fB (still o (r.take q) x)) = fB (still o (r.take (q + 1)) x) := by
  rw [List.take_succ_eq_append_getElem h]
  by_cases e : x = r[q]
  · rw [if_pos e, e, still_self]; rfl
  · rw [if_neg e, still_ne e]
theorem lit_bool (b : Bool) : ((fB b).getD (.bool false) : Value) = .bool b := by cases b <;> rfl
set_option maxHeartbeats 4000000 in
set_option maxRecDepth 100000 in
theorem iKeep_any (mb pb : Nat) (q : Int → Bool) (a : In) (w : World) (nm : Nat) (hM : MapV Tryz.prog 3 iklI w mb nm (fun x => fB (q x))) (hR : RawAt 55 w pb #[.map (some mb)]) (hwf : (Lit.int .i64 a.id).wf = true) :
    Calls Tryz.prog 31 #[.agg #[.int .i64 a.id, .int .i64 a.pl, .int .i64 a.bi, .int .i64 a.ky, .string a.tx], .pointer (some ⟨pb, 0, none⟩)] w fun e w' => e = .returned (.bool (!q a.id)) ∧ Below w.heap.size w w' := by
  have x3 : Below w.heap.size w (w.alloc (.cells #[.int .i64 a.id, .int .i64 a.pl, .int .i64 a.bi, .int .i64 a.ky, .string a.tx] 48)) := (Below.refl _ _).alloc (Nat.le_refl _) _
  have R3 : RawAt 48 (w.alloc (.cells #[.int .i64 a.id, .int .i64 a.pl, .int .i64 a.bi, .int .i64 a.ky, .string a.tx] 48)) w.heap.size #[.int .i64 a.id, .int .i64 a.pl, .int .i64 a.bi, .int .i64 a.ky, .string a.tx] := heap_alloc_new w _
  have e0 := RawAt.cell R3 0
  simp at e0
  have R4 := RawAt.below hR x3 hR.lt
  have c0 := RawAt.cell R4 0
  simp at c0
  have L4 := (hM.below x3).look1 intK' Tryz.underlying55 (bool_zero _) a.id hwf
  rw [lit_bool] at L4
  have HL4 := Lib.hid L4
  have HX := Lib.hid x3
  clear L4 x3 R3 R4 hM hR
  go_enter Tryz.func31, Tryz.ntmps31
  go_wp2_with (at_lookup; refine wpList_lookV1 rfl (.tmp 4) (.tmp 6) _ rfl _ _ rfl rfl HL4.out ?_)
  go_ret
  exact ⟨rfl, HX.out⟩
theorem nth_flatI {l : List Int} {j : Nat} (h : j < l.length) : nth l j = l[j] := by simp [nth, List.getD, h]
theorem own_grownS {w w' : World} {base n size : Nat} {e : TypeId} {v : Value} {xs : List Value} {row : Option Nat} (h : w.ownsRow base e size v n xs) (hg : w.grownBy w' row) (hne : ∀ k, v.ownBlock = some k → row ≠ some k) : w'.ownsRow base e size v n xs := by
  rcases h.2 with ⟨g, g2⟩ | ⟨g, cap, cur, e', hB, c, h3⟩
  · exact ⟨h.1, .inl ⟨g, g2⟩⟩
  · subst e'
    exact ⟨h.1, .inr ⟨g, cap, cur, rfl, hB, (hg.block g (block_lt c) (fun e => hne g rfl e.symm)).trans c, h3⟩⟩
set_option maxHeartbeats 16000000 in
set_option maxRecDepth 100000 in
theorem iSplice_any {sb : Nat} {n : Int} {o : List In} {w : World} (h : ISet w sb n o) (ho : o.length ≤ 1000) (hwo : ∀ a ∈ o, (Lit.int .i64 a.id).wf = true) (hto : ∀ a ∈ o, a.tx.size ≤ 100000000)
    (RA : Option Addr) (m c : Nat) (rem : List Int) (hR : IntsAt .i64 w RA rem) (hrl : rem.length = m) (hm : m ≤ 1000) (hwr : ∀ x ∈ rem, (Lit.int .i64 x).wf = true)
    (AA : Option Addr) (am ac : Nat) (add : List In) (hA : RowsAt encI 5 w AA add) (hal : add.length = am) (hac : Caps AA am ac) (ham : am ≤ 1000) (hwa : ∀ a ∈ add, (Lit.int .i64 a.id).wf = true) (hta : ∀ a ∈ add, a.tx.size ≤ 100000000)
    (r : Int) (hr : r = if remOk o rem then iwrong n (left o rem ++ add) else 6) :
    Calls Tryz.prog 9 #[.pointer (some ⟨sb, 0, none⟩), .slice RA m c, .slice AA am ac] w fun e w' => ∃ p, e = .returned (.tuple #[p, .int .i64 r]) ∧ (r ≠ 0 → p = .pointer none) ∧ (r = 0 → ∃ sb', p = .pointer (some ⟨sb', 0, none⟩) ∧ ISet w' sb' n (ord ilt ((left o rem ++ add).map icl))) ∧ Below w.heap.size w w' := by
  have hmm := @run_makeMap Tryz.prog
  have hmf : ∀ (fn : Fn) (first cap : Array Value) (w : World), (Instr.makeFunc fn first cap).run Tryz.prog w = .ok (.func fn first cap) w := fun _ _ _ _ => rfl
  have CA := Lib.hid (iAll_any h (by omega))
  have HS := Lib.hid h
  have HR := Lib.hid hR
  have HRL := Lib.hid hrl
  have HWR := Lib.hid hwr
  have HAD := Lib.hid hA
  have HAL := Lib.hid hal
  have HAC := Lib.hid hac
  have HWO := Lib.hid hwo
  have HRR := Lib.hid hr
  have HWL : Hid (∀ a ∈ left o rem ++ add, (Lit.int .i64 a.id).wf = true) := Lib.hid fun a ha => by
    rcases List.mem_append.1 ha with g | g
    · exact hwo a (List.mem_filter.1 g).1
    · exact hwa a g
  have HTL : Hid (∀ a ∈ left o rem ++ add, a.tx.size ≤ 100000000) := Lib.hid fun a ha => by
    rcases List.mem_append.1 ha with g | g
    · exact hto a (List.mem_filter.1 g).1
    · exact hta a g
  clear h hR hrl hwr hA hal hac hwo hto hwa hta hr
  obtain ⟨N, hN⟩ : ∃ N, o.length = N := ⟨_, rfl⟩
  rw [hN] at ho CA
  have HN := Lib.hid hN
  clear hN
  go_enter Tryz.func9, Tryz.ntmps9
  go_wp2_with fail
  with_reducible refine (CA.out).mono ?_
  rintro e1 w1 ⟨v1, rfl, o1, b1⟩
  obtain ⟨A1, c1, rfl⟩ := own_form o1
  have B1 := Lib.hid b1
  have O1 := Lib.hid o1
  have HW1 := Lib.hid b1.size
  clear o1 b1 CA
  go_wp2_with fail
  have M1 := MapV.made (P := Tryz.prog) (K := 3) (kl := iklI) w1
  have x1 : Below w1.heap.size w1 (w1.alloc (.map #[] 0)) := (Below.refl _ _).alloc (Nat.le_refl _) _
  have x2 : Below (w1.alloc (.map #[] 0)).heap.size (w1.alloc (.map #[] 0)) ((w1.alloc (.map #[] 0)).alloc (.cells #[.map (some w1.heap.size)] 55)) := (Below.refl _ _).alloc (Nat.le_refl _) _
  have R2 : RawAt 55 ((w1.alloc (.map #[] 0)).alloc (.cells #[.map (some w1.heap.size)] 55)) (w1.alloc (.map #[] 0)).heap.size #[.map (some w1.heap.size)] := heap_alloc_new _ _
  rw [show (w1.alloc (.map #[] 0)).heap.size = w1.heap.size + 1 by simp] at R2
  have M2 := M1.below x2
  have Y2 := x1.trans (x2.mono x1.size)
  have Q2 := B1.out.trans (Y2.mono B1.out.size)
  have O2 := own_below O1.out Y2
  have HV : Hid (∀ k, (Value.slice A1 N c1).ownBlock = some k → k < w1.heap.size) := Lib.hid fun k hk => (O1.out.lt k hk).2
  obtain ⟨W2, hW2⟩ : ∃ W2, W2 = ((w1.alloc (.map #[] 0)).alloc (.cells #[.map (some w1.heap.size)] 55)) := ⟨_, rfl⟩
  rw [← hW2] at R2 M2 Q2 O2 ⊢
  have HW2 := Lib.hid hW2
  clear hW2 x1 x2 M1 Y2 O1 B1
  generalize w1.heap.size = mb at *
  have Q2 := Lib.hid Q2
  have R2 := Lib.hid R2
  have M2 := Lib.hid M2
  have O2 := Lib.hid O2
  clear HW2
  go_loopg [19] N (fun g i wr => ∃ (k : Nat), i = .int .i64 (k : Int) ∧ k ≤ N ∧ N - k ≤ g ∧ Hid (Below w.heap.size w wr) ∧ Hid (MapV Tryz.prog 3 iklI wr mb k (fun x => fB (inSet (o.take k) x))) ∧ Hid (RawAt 55 wr (mb + 1) #[.map (some mb)]) ∧ Hid (wr.ownsRow w.heap.size 48 5 (.slice A1 N c1) N (kfl encI o)))
  case atStart => exact ⟨0, rfl, by omega, by omega, Q2, M2, R2, O2⟩
  case round =>
    clear Q2 R2 M2 O2
    obtain ⟨k, rfl, h1, h2, hb, hM, hR, hO⟩ := hrel
    have c0 := RawAt.cell hR.out 0
    simp at c0
    by_cases hlt : k < N
    · have hkl : k < o.length := by rw [HN.out]; exact hlt
      obtain ⟨A9, c9, ea, hRo, _, _⟩ := rows_of_own encI_len (by omega) hO.out
      injection ea with ea1 ea2 ea3
      subst ea1
      subst ea3
      obtain ⟨bA, off, rfl, hbA, hce⟩ := hRo.at1 hkl
      have f0 := hce 0 (by omega)
      have f1 := hce 1 (by omega)
      have f2 := hce 2 (by omega)
      have f3 := hce 3 (by omega)
      have f4 := hce 4 (by omega)
      rw [Nat.add_zero] at f0
      have hwk := HWO.out _ (List.getElem_mem hkl)
      have hf : ∀ x, (if x = o[k].id then some (Value.bool true) else fB (inSet (o.take k) x)) = fB (inSet (o.take (k + 1)) x) := fun x => by
        rw [List.take_succ_eq_append_getElem hkl, inSet_snoc]
        by_cases e : x = o[k].id
        · rw [if_pos e, e]; simp [fB]
        · rw [if_neg e]
          have : (o[k].id == x) = false := by simp; exact fun h => e h.symm
          rw [this, Bool.or_false]
      clear hce hRo
      have HF := Lib.hid hf
      clear hf
      generalize o[k] = a at *
      simp [encI] at f0 f1 f2 f3 f4
      have i1 : (0 : Int) ≤ k := by omega
      have i2 : (k : Int) < N := by omega
      have x3 : Below wr.heap.size wr (wr.alloc (.cells #[.int .i64 a.id, .int .i64 a.pl, .int .i64 a.bi, .int .i64 a.ky, .string a.tx] 48)) := (Below.refl _ _).alloc (Nat.le_refl _) _
      have R3 : RawAt 48 (wr.alloc (.cells #[.int .i64 a.id, .int .i64 a.pl, .int .i64 a.bi, .int .i64 a.ky, .string a.tx] 48)) wr.heap.size #[.int .i64 a.id, .int .i64 a.pl, .int .i64 a.bi, .int .i64 a.ky, .string a.tx] := heap_alloc_new wr _
      have e0 := RawAt.cell R3 0
      simp at e0
      have hR4 := RawAt.below hR.out x3 hR.out.lt
      have c1' := RawAt.cell hR4 0
      simp at c1'
      obtain ⟨w6, hrun, hM6, hg6⟩ := (hM.out.below x3).store intK' Tryz.underlying55 (by simp only [maxLen]; omega) a.id hwk (.bool true)
      have hmb : mb < wr.heap.size := hM.out.lt
      have HRUN := Lib.hid hrun
      have HM6 := Lib.hid (MapV.congr hM6 HF.out)
      have hb3 := hb.out.trans (x3.mono hb.out.size)
      have HB6 := Lib.hid (hb3.grown hg6 hb3.size (fun j hj => by injection hj with hj; have := HW1.out; omega))
      have HR6 : Hid (RawAt 55 w6 (mb + 1) #[.map (some mb)]) := Lib.hid ((hg6.block (mb + 1) hR4.lt (by simp)).trans hR4)
      have HO6 := Lib.hid (own_grownS (own_below hO.out x3) hg6 (fun j hj e => by injection e with e; have := HV.out j hj; omega))
      clear hrun hM6 hg6 R3 x3 hb hM hR hO hR4 hb3 HF
      go_wp2_with (at_mapUpdate; refine wpList_storeV rfl (.tmp 23) (.tmp 25) (.const (.bool true)) _ rfl _ _ _ rfl rfl rfl HRUN.out ?_)
      go_roundg (gk - 1)
      case measure => omega
      case rel => exact ⟨k + 1, by go_num, by omega, by omega, HB6, HM6, HR6, HO6⟩
    · obtain rfl : k = N := by omega
      have hM0 := hM.out
      rw [List.take_of_length_le (by rw [HN.out]; omega)] at hM0
      have HM0 : Hid (MapV Tryz.prog 3 iklI wr mb k (fun x => fB (still o (rem.take 0) x))) := Lib.hid (MapV.congr hM0 fun x => by simp [still])
      have HB0 := hb
      have HR0 := hR
      have HO0 := hO
      have hW0 : Hid (w.heap.size ≤ mb) := HW1
      clear hM0 hM hlt h1 h2 c0
      go_wp2_with fail
      go_loopg [29] m (fun g i wq => ∃ (q : Nat), i = .int .i64 (q : Int) ∧ q ≤ m ∧ m - q ≤ g ∧ Hid (remOk o (rem.take q)) ∧ Hid (Below w.heap.size w wq) ∧ Hid (MapV Tryz.prog 3 iklI wq mb k (fun x => fB (still o (rem.take q) x))) ∧ Hid (RawAt 55 wq (mb + 1) #[.map (some mb)]) ∧ Hid (wq.ownsRow w.heap.size 48 5 (.slice A1 k c1) k (kfl encI o)))
      case atStart => exact ⟨0, rfl, by omega, by omega, Lib.hid ⟨by simp, by simp⟩, HB0, HM0, HR0, HO0⟩
      case round =>
        clear HB0 HM0 HR0 HO0 hb hR hO
        obtain ⟨q, rfl, h1, h2, hok, hb, hM, hR, hO⟩ := hrel
        have c0 := RawAt.cell hR.out 0
        simp at c0
        by_cases hlt : q < m
        · have hql : q < rem.length := by rw [HRL.out]; exact hlt
          obtain ⟨bR, offR, rfl, hbR, hce⟩ := (HR.out.below hb.out) (by omega)
          have f0 := hce q hql
          rw [nth_flatI hql] at f0
          have hwk := HWR.out _ (List.getElem_mem hql)
          have hst := still_ok (o := o) hql hok.out
          have L4 := hM.out.look1 intK' Tryz.underlying55 (bool_zero _) rem[q] hwk
          rw [lit_bool] at L4
          have hf : ∀ x, (if x = rem[q] then none else fB (still o (rem.take q) x)) = fB (still o (rem.take (q + 1)) x) := still_take hql
          have HF := Lib.hid hf
          have HST := Lib.hid hst
          clear hce hst hf
          generalize rem[q] = x at *
          obtain ⟨bv, hbv⟩ : ∃ bv, still o (rem.take q) x = bv := ⟨_, rfl⟩
          rw [hbv] at L4 HST
          have HL4 := Lib.hid L4
          have i1 : (0 : Int) ≤ q := by omega
          have i2 : (q : Int) < m := by omega
          clear L4 hbv
          cases bv
          · have HE : Hid (r = 6) := Lib.hid (by
              rw [HRR.out, if_neg]
              intro hall
              have := HST.out.2 (remOk_mono (q + 1) hall)
              cases this)
            have HBB := Lib.hid hb.out
            clear hM hR hO hb HF HST
            go_wp2_with (at_lookup; refine wpList_lookV1 rfl (.tmp 33) (.tmp 34) _ rfl _ _ rfl rfl HL4.out ?_)
            go_ret2
            exact ⟨.pointer none, by rw [HE.out]; rfl, fun _ => rfl, fun h => absurd (HE.out.symm.trans h) (by decide), HBB.out⟩
          · have HOK2 := Lib.hid (HST.out.1 rfl)
            obtain ⟨w6, hrun, hM6, hg6⟩ := hM.out.drop intK' Tryz.underlying55 x hwk 0
            have hrun2 : ∀ ty, (Builtin.delete_ #[55, 3] ty #[.map (some mb), .int .i64 x]).run Tryz.prog wr = .ok (.tuple #[]) w6 := fun ty => by
              obtain ⟨w7, hrun7, _, _⟩ := hM.out.drop intK' Tryz.underlying55 x hwk ty
              exact hrun
            have HRUN := Lib.hid hrun2
            have HM6 := Lib.hid (MapV.congr hM6 HF.out)
            have HB6 := Lib.hid (hb.out.grown hg6 hb.out.size (fun j hj => by injection hj with hj; have := hW0.out; omega))
            have HR6 : Hid (RawAt 55 w6 (mb + 1) #[.map (some mb)]) := Lib.hid ((hg6.block (mb + 1) hR.out.lt (by simp)).trans hR.out)
            have HO6 := Lib.hid (own_grownS hO.out hg6 (fun j hj e => by injection e with e; have := HV.out j hj; omega))
            clear hrun hrun2 hM6 hg6 hb hM hR hO HF HST
            go_wp2_with (at_lookup; refine wpList_lookV1 rfl (.tmp 33) (.tmp 34) _ rfl _ _ rfl rfl HL4.out ?_)
            rw [HRUN.out 0]
            unfold Result.andThen Oper.upon
            dsimp only
            go_wp2_with fail
            go_roundg (gk - 1)
            case measure => omega
            case rel => exact ⟨q + 1, by go_num, by omega, by omega, HOK2, HB6, HM6, HR6, HO6⟩
        · obtain rfl : q = m := by omega
          have hok2 := hok.out
          have hM2 := hM.out
          rw [List.take_of_length_le (by rw [HRL.out]; omega)] at hok2 hM2
          have HE : Hid (r = iwrong n (left o rem ++ add)) := Lib.hid (by rw [HRR.out, if_pos hok2])
          have CDL : Hid (Calls Tryz.prog 30 #[.slice A1 k c1, .func (.func 31) #[] #[.pointer (some ⟨mb + 1, 0, none⟩)]] wr fun e w' => ∃ (A2 : Option Addr) (i c2 : Nat), e = .returned (.slice A2 i c2) ∧ w'.ownsRow 0 48 5 (.slice A2 i c2) i (kfl encI (left o rem)) ∧ Below w.heap.size w w') := Lib.hid (by
            rcases hO.out.2 with ⟨g1, g2⟩ | ⟨g, cap, cur, e', hB, c, h3⟩
            · injection g1 with g1 g3 g4
              subst g1
              subst g3
              subst g4
              obtain rfl : o = [] := List.eq_nil_of_length_eq_zero HN.out
              refine (iDelete0 none 0 _ wr).mono ?_
              rintro e w' ⟨rfl, rfl⟩
              exact ⟨none, 0, 0, rfl, World.ownsRow_nil _ _ _ _, hb.out⟩
            · injection e' with e1 _ e3
              subst e1
              subst e3
              have hgm : g < mb := HV.out g rfl
              refine (iDelF_any _ _ rfl (fun a => !still o rem a.id) g k c1 w.heap.size o wr hO.out (by omega) (fun a ha V hV => iKeep_any mb (mb + 1) (still o rem) a V k (hM2.block (hV.rest mb hM2.lt (by omega))) (hV.raw hR.out (by omega)) (HWO.out a ha))).mono ?_
              rintro e w' ⟨i, rfl, hown, hon⟩
              rw [still_left] at hown
              exact ⟨_, i, c1, rfl, own_base hown (Nat.zero_le _), hb.out.trans (hon.below.mono hB)⟩)
          have HBB := Lib.hid hb.out
          clear hM hM2 hok hok2 hR hO hb hlt h1 h2 c0
          go_wp2_with fail
          with_reducible refine (CDL.out).mono ?_
          rintro e8 w8 ⟨A2, i, c2, rfl, ho8, hb8⟩
          have HO8 := Lib.hid ho8
          have HB8 := Lib.hid hb8
          have CLN := Lib.hid (iLen_any (HS.out.below HB8.out))
          clear CDL ho8 hb8
          go_wp2_with fail
          with_reducible refine (CLN.out).mono ?_
          rintro e9 w9 ⟨rfl, b9⟩
          have ho9 := own_below HO8.out b9
          have hb9 := HB8.out.trans (b9.mono HB8.out.size)
          obtain ⟨A9, c9, ea, hR9, hl9, hC9⟩ := rows_of_own encI_len (by omega) ho9
          injection ea with ea1 _ ea3
          subst ea1
          subst ea3
          obtain ⟨W3, hW3⟩ : ∃ W3, w9.alloc (.cells #[.slice A2 i c2, .slice AA am ac] 22) = W3 := ⟨_, rfl⟩
          have x3 : Below w9.heap.size w9 W3 := by rw [← hW3]; exact (Below.refl _ _).alloc (Nat.le_refl _) _
          have R3 : RawAt 22 W3 w9.heap.size #[.slice A2 i c2, .slice AA am ac] := by rw [← hW3]; exact heap_alloc_new w9 _
          have g0 := RawAt.cell R3 0
          have g1 := RawAt.cell R3 1
          simp at g0 g1
          have hi2 : i ≤ 1000 := by have := List.length_filter_le (fun a : In => decide (a.id ∉ rem)) o; rw [HN.out] at this; unfold left at hl9; omega
          have CCC := Lib.hid (iConcat_any w9.heap.size A2 AA i c2 am ac 2 (left o rem) add W3 g0 g1 R3.lt (hR9.below x3) hl9 hC9 (HAD.out.below (hb9.trans (x3.mono hb9.size))) HAL.out HAC.out (by omega) (by omega))
          have HB3 := Lib.hid (hb9.trans (x3.mono hb9.size))
          clear R3 x3 hR9 hC9 g0 g1 ho9 hb9 CLN b9
          go_wp2_with fail
          with_reducible refine (CCC.out).mono ?_
          rintro e10 w10 ⟨v10, rfl, ho10, hb10⟩
          obtain ⟨A10, c10, rfl, hR10, hl10, hC10⟩ := rows_of_own encI_len (by omega) ho10
          have HB10 := Lib.hid (HB3.out.trans (hb10.mono HB3.out.size))
          have CNW := Lib.hid (iNew_any n A10 (i + am) c10 (left o rem ++ add) w10 hR10 hC10 hl10 HWL.out HTL.out r HE.out.symm)
          clear CCC ho10 hb10 hR10 hC10
          go_wp2_with fail
          with_reducible refine (CNW.out).mono ?_
          rintro e11 w11 ⟨ptr, rfl, p1, p2, b11⟩
          have HB11 := Lib.hid (HB10.out.trans (b11.mono HB10.out.size))
          have P1 := Lib.hid p1
          have P2 := Lib.hid p2
          clear p1 p2 b11 CNW
          go_wp2
          go_ret2
          exact ⟨_, rfl, P1.out, P2.out, HB11.out⟩
end Go.Proofs.YtbeclkhahdcmbaaGreat
