/- Weaves: a weave in memory; the contracts of kept, Sizes, Height, New, Pieces. Weaves: the contracts of Out and of Pieces. A struct stored whole into a variable within a drawn region. Weaves: the contract of In. -/
import Derived.Test.YtbeclkhahdcmbaaGreatWvB
import Derived.Test.YtbeclkhahdcmbaaGreatTreeT
import Derived.Test.YtbeclkhahdcmbaaGreatTreeKQ
import Derived.BigQuiet
import Derived.Test.YtbeclkhahdcmbaaGreatTreeF
import Derived.Deep.RegionHeld3
import Derived.Test.YtbeclkhahdcmbaaGreatBase
import Derived.Laws.CopyOwn
import Derived.Deep.DeepCutAuto
namespace Go.Proofs.YtbeclkhahdcmbaaGreat
open Go.RowKit
set_option linter.unusedVariables false
/-- A weave, or none. -/
def WvAt (w : World) (p : Option Addr) (l : List I7) (h : Nat) : Prop :=
  (p = none ∧ l = [] ∧ h = 0) ∨ (∃ b q, p = some ⟨b, 0, none⟩ ∧ RawAt 74 w b #[.pointer q] ∧ TP w q l h)
theorem WvAt.below {w w' : World} {p : Option Addr} {l : List I7} {h : Nat} (ht : WvAt w p l h) (hb : Below w.heap.size w w') : WvAt w' p l h := by
  rcases ht with h1 | ⟨b, q, h1, h2, h3⟩
  · exact .inl h1
  · exact .inr ⟨b, q, h1, h2.below hb h2.lt, h3.below hb⟩
theorem wvkept_nil (w : World) : Calls Tryz.prog 36 #[.pointer none] w fun e w' => e = .returned (.pointer none) ∧ w' = w := by
  go_enter Tryz.func36, Tryz.ntmps36
  go_wp2
  go_ret
  exact ⟨rfl, rfl⟩
theorem wvkept_some (b : Nat) (q : Option Addr) (w : World) (e0 : w.cell? ⟨b, 0, none⟩ = some (.pointer q)) : Calls Tryz.prog 36 #[.pointer (some ⟨b, 0, none⟩)] w fun e w' => e = .returned (.pointer q) ∧ w' = w := by
  go_enter Tryz.func36, Tryz.ntmps36
  go_wp2
  go_ret
  exact ⟨rfl, rfl⟩
theorem wvkept {p : Option Addr} {l : List I7} {h : Nat} {w : World} (ht : WvAt w p l h) : ∃ q, TP w q l h ∧ ∀ W, Below w.heap.size w W → Calls Tryz.prog 36 #[.pointer p] W fun e w' => e = .returned (.pointer q) ∧ w' = W := by
  rcases ht with ⟨rfl, rfl, rfl⟩ | ⟨b, q, rfl, h2, h3⟩
  · exact ⟨none, .inl ⟨rfl, rfl, rfl⟩, fun W _ => wvkept_nil W⟩
  · exact ⟨q, h3, fun W hW => wvkept_some b q W (RawAt.cell (h2.below hW h2.lt) 0)⟩
theorem WvAt.okl {w : World} {p : Option Addr} {l : List I7} {h : Nat} (ht : WvAt w p l h) : Okl l ∧ l.length ≤ 30000 := by
  obtain ⟨q, hq, _⟩ := wvkept ht
  exact hq.okl
set_option maxHeartbeats 4000000 in
set_option maxRecDepth 100000 in
theorem wvHeight {p : Option Addr} {l : List I7} {h : Nat} {w : World} (ht : WvAt w p l h) : Calls Tryz.prog 17 #[.pointer p] w fun e w' => e = .returned (.int .i64 h) ∧ Below w.heap.size w w' := by
  obtain ⟨q, hq, hk⟩ := wvkept ht
  have CK := Lib.hid (hk w (Below.refl _ _))
  have CS := Lib.hid (theight_any q _ h w hq)
  clear hk hq ht
  go_enter Tryz.func17, Tryz.ntmps17
  go_wp2_with fail
  refine CK.out.mono ?_
  rintro e w1 ⟨rfl, rfl⟩
  go_wp2_with fail
  refine CS.out.mono ?_
  rintro e w2 ⟨rfl, b2⟩
  go_wp2
  go_ret
  exact ⟨rfl, b2⟩
set_option maxHeartbeats 4000000 in
set_option maxRecDepth 100000 in
theorem wvSizes {p : Option Addr} {l : List I7} {h : Nat} {w : World} (ht : WvAt w p l h) : Calls Tryz.prog 34 #[.pointer p] w fun e w' => e = .returned (.tuple #[.int .i64 (wdsum 0 l), .int .i64 (wdsum 1 l)]) ∧ Below w.heap.size w w' := by
  obtain ⟨q, hq, hk⟩ := wvkept ht
  obtain ⟨e0, e1⟩ := sall_dz _ l rfl hq.okl.1
  rw [← e0, ← e1]
  have CK := Lib.hid (hk w (Below.refl _ _))
  have CS := Lib.hid (tsum_n q l h w hq)
  clear hk hq ht e0 e1
  generalize sall l = s at *
  have hfl : ∀ (k : Int) (u : World), (Instr.field 84 (.agg #[.int .i64 k, .int .i64 s.d0, .int .i64 s.d1, .int .i64 s.d2, .int .i64 s.mx, .int .i64 s.pl]) 1).run Tryz.prog u = .ok (.agg #[.int .i64 s.d0, .int .i64 s.d1, .int .i64 s.d2]) u := fun k u => by kernel_rfl
  go_enter Tryz.func34, Tryz.ntmps34
  go_wp2_with fail
  refine CK.out.mono ?_
  rintro e w1 ⟨rfl, rfl⟩
  go_wp2_with fail
  refine CS.out.mono ?_
  rintro e w2 ⟨rfl, b2⟩
  have R3 : RawAt 82 (w2.alloc (.cells #[.int .i64 s.d0, .int .i64 s.d1, .int .i64 s.d2] 82)) w2.heap.size #[.int .i64 s.d0, .int .i64 s.d1, .int .i64 s.d2] := heap_alloc_new w2 _
  have x3 : Below w2.heap.size w2 (w2.alloc (.cells #[.int .i64 s.d0, .int .i64 s.d1, .int .i64 s.d2] 82)) := (Below.refl _ _).alloc (Nat.le_refl _) _
  have HB3 := Lib.hid (b2.trans (x3.mono b2.size))
  have c0 := RawAt.cell R3 0
  have c1 := RawAt.cell R3 1
  simp at c0 c1
  clear R3 x3
  go_wp2_with fail
  go_quiet (fail)
  have HQ := drewN_below HB3.out nq
  go_wp2
  go_ret2
  exact ⟨rfl, HQ⟩
/-- A right set's weave: so many pieces. -/
theorem wvP_ok {f t : Int} {l : List In} (hb : ∀ a ∈ l, 0 ≤ a.pl ∧ a.pl ≤ 1099511627776 ∧ wcnt a ≤ 1000000) (hf : 0 ≤ f) (hf2 : f ≤ 1099511627776) (ht : t ≤ 1099511627776) : Okl (wvP f l t) := by
  have hg : ∀ x y : Int, 0 ≤ x → y ≤ 1099511627776 → Okl (wgap x y) := by
    intro x y hx hy i hi
    unfold wgap at hi
    split at hi
    · rw [List.mem_singleton.1 hi]
      unfold Oki Okd Okn wpc
      simp only
      omega
    · cases hi
  induction l generalizing f with
  | nil => exact hg f t hf ht
  | cons a l ih =>
    obtain ⟨h1, h2, h3⟩ := hb a (by simp)
    rw [wvP_cons]
    intro i hi
    rcases List.mem_append.1 hi with hi | hi
    · exact hg f a.pl hf h2 i hi
    · rcases List.mem_cons.1 hi with rfl | hi
      · unfold Oki Okd Okn wpc
        simp only
        omega
      · exact ih (fun x hx => hb x (List.mem_cons_of_mem _ hx)) h1 h2 i hi
set_option maxHeartbeats 4000000 in
set_option maxRecDepth 100000 in
/-- New, of a set whose All and Len answer so. -/
theorem wvNew_of (p : Option Addr) (o : List In) (n : Int) (w : World) (h0 : 0 ≤ n) (hn : n ≤ 1099511627776) (ho : o.length ≤ 1000) (hb : ∀ a ∈ o, 0 ≤ a.pl ∧ a.pl ≤ 1099511627776 ∧ a.tx.size ≤ 1000000)
    (hAll : ∀ W, Below w.heap.size w W → Calls Tryz.prog 14 #[.pointer p] W fun e w' => ∃ v, e = .returned v ∧ w'.ownsRow W.heap.size 48 5 v o.length (kfl encI o) ∧ Below W.heap.size W w')
    (hLen : ∀ W, Below w.heap.size w W → Calls Tryz.prog 29 #[.pointer p] W fun e w' => e = .returned (.int .i64 n) ∧ Below W.heap.size W w') :
    Calls Tryz.prog 8 #[.pointer p] w fun e w' => ∃ a h, e = .returned (.pointer (some a)) ∧ WvAt w' (some a) (wvP 0 o n) h ∧ Below w.heap.size w w' := by
  have hcn : ∀ a ∈ o, wcnt a ≤ 1000000 := fun a ha => Nat.le_trans (dec_len a.tx) (hb a ha).2.2
  have HOK := Lib.hid (wvP_ok (f := 0) (t := n) (l := o) (fun a ha => ⟨(hb a ha).1, (hb a ha).2.1, hcn a ha⟩) (Int.le_refl 0) (by omega) hn)
  have HLE := Lib.hid (wvP_len 0 o n)
  have C1 := Lib.hid hAll
  have C2 := Lib.hid hLen
  have CP := Lib.hid fun (A : Option Addr) (c : Nat) (W : World) (hA : RowsAt encI 5 W A o) => wvPieces_any A o.length c o 0 n W hA rfl (by omega) (by omega) (by omega) (fun a ha => ⟨by have := hb a ha; omega, by have := hb a ha; omega⟩)
  clear hAll hLen hb hcn
  go_enter Tryz.func8, Tryz.ntmps8
  go_wp2_with fail
  with_reducible refine (C1.out _ (Below.refl _ _)).mono ?_
  rintro e w1 ⟨v, rfl, hO, b1⟩
  obtain ⟨A, c, rfl, hR, _, hC⟩ := rows_of_own encI_len (by omega) hO
  have HR := Lib.hid hR
  clear hR hO hC
  go_wp2_with fail
  with_reducible refine (C2.out _ b1).mono ?_
  rintro e w2 ⟨rfl, b2⟩
  have HB2 := Lib.hid (b1.trans (b2.mono b1.size))
  have HR2 := Lib.hid (HR.out.below b2)
  clear b1 b2 HR
  go_wp2_with fail
  with_reducible refine (CP.out A c _ HR2.out).mono ?_
  rintro e w3 ⟨v3, rfl, hO3, b3⟩
  have HB3 := Lib.hid (HB2.out.trans (b3.mono HB2.out.size))
  obtain ⟨A3, c3, rfl, hI, _, hC3⟩ := its_of_own (l := wvP 0 o n) hO3
  have CN := Lib.hid (tnew_any A3 _ c3 (wvP 0 o n) w3 hI rfl hC3 (by have := HLE.out; omega) HOK.out)
  clear hO3 hI hC3 b3 HR2 CP
  generalize hwl : wvP 0 o n = l at *
  have HWL := Lib.hid hwl
  clear hwl
  go_wp2_with fail
  with_reducible refine (CN.out).mono ?_
  rintro e w4 ⟨a', h', rfl, hT, b4⟩
  have HT := Lib.hid hT
  have HB4 := Lib.hid (HB3.out.trans (b4.mono HB3.out.size))
  have x5 : Below w4.heap.size w4 (w4.alloc (.cells #[.pointer (some a')] 74)) := (Below.refl _ _).alloc (Nat.le_refl _) _
  have HF : Hid (WvAt (w4.alloc (.cells #[.pointer (some a')] 74)) (some ⟨w4.heap.size, 0, none⟩) l h') := Lib.hid (.inr ⟨w4.heap.size, some a', rfl, heap_alloc_new w4 _, HT.out.below x5⟩)
  have HB5 := Lib.hid (HB4.out.trans (x5.mono HB4.out.size))
  clear hT b4 x5
  go_wp2
  go_ret
  exact ⟨_, h', rfl, by rw [HWL.out]; exact HF.out, HB5.out⟩
set_option linter.unusedVariables false
/-- May a place be asked for so? -/
def WvAsk (k : Nat) (l : List I7) (v : Int) : Prop := 0 ≤ v ∧ v ≤ wdsum k l
theorem wv_ask {l : List I7} (ho : Okl l) {k : Nat} (hk : k < 2) (v b : Int) : AskOk l k v b ↔ WvAsk k l v ∧ (b = 0 ∨ b = 1) := by
  unfold AskOk WvAsk
  rw [show ((k : Nat) : Int).toNat = k from by omega, sdim_dz ho hk]
  constructor
  · rintro ⟨_, _, h1, h2, h3⟩
    exact ⟨⟨h1, h2⟩, h3⟩
  · rintro ⟨⟨h1, h2⟩, h3⟩
    exact ⟨by omega, by omega, h1, h2, h3⟩
theorem wtake_sums {l : List I7} (ho : Okl l) (hl : l.length ≤ 30000) (k : Nat) : (sall (l.take k)).d0 = wdsum 0 (l.take k) ∧ (sall (l.take k)).d1 = wdsum 1 (l.take k) ∧ 0 ≤ wdsum 0 (l.take k) ∧ wdsum 0 (l.take k) ≤ 40000000000000000 ∧ 0 ≤ wdsum 1 (l.take k) ∧ wdsum 1 (l.take k) ≤ 40000000000000000 := by
  have hot := ho.take_ k
  obtain ⟨e0, e1⟩ := sall_dz _ _ rfl hot
  obtain ⟨h1, h2, h3, h4, h5, h6, _⟩ := sall_ok _ _ rfl hot
  have : (l.take k).length ≤ 30000 := by rw [List.length_take]; omega
  rw [e0] at h3 h4
  rw [e1] at h5 h6
  exact ⟨e0, e1, h3, by omega, h5, by omega⟩
theorem wdsum_bd {l : List I7} (ho : Okl l) (hl : l.length ≤ 30000) (k : Nat) (hk : k < 2) : 0 ≤ wdsum k l ∧ wdsum k l ≤ 40000000000000000 := by
  obtain ⟨_, _, h1, h2, h3, h4⟩ := wtake_sums ho hl l.length
  rw [List.take_length] at h1 h2 h3 h4
  rcases (by omega : k = 0 ∨ k = 1) with rfl | rfl
  · exact ⟨h1, h2⟩
  · exact ⟨h3, h4⟩
set_option maxHeartbeats 4000000 in
set_option maxRecDepth 100000 in
theorem wvOut_yes {p : Option Addr} {l : List I7} {h : Nat} {w : World} (ht : WvAt w p l h) (v b : Int) (hv : WvAsk 0 l v) (hb : b = 0 ∨ b = 1) :
    Calls Tryz.prog 15 #[.pointer p, .int .i64 v, .int .i64 b] w fun e w' => e = .returned (.tuple #[.int .i64 (woutP l v b), .int .i64 0]) ∧ Below w.heap.size w w' := by
  obtain ⟨q, hq, hk⟩ := wvkept ht
  obtain ⟨hol, hll⟩ := hq.okl
  have CK := Lib.hid (hk w (Below.refl _ _))
  have CS := Lib.hid (tfind_any q l h ((0 : Nat) : Int) v b w hq ((wv_ask hol (by omega) v b).2 ⟨hv, hb⟩))
  have HFI := Lib.hid (wfnd_is hol (show 0 < 2 by omega) v b)
  have HTS := Lib.hid (wtake_sums hol hll)
  have hvb := (wdsum_bd hol hll 0 (by omega)).2
  have hv1 := hv.1
  have hv2 := hv.2
  clear hk hq ht hv hb hol
  go_enter Tryz.func15, Tryz.ntmps15
  go_wp2_with fail
  refine CK.out.mono ?_
  rintro e w1 ⟨rfl, rfl⟩
  go_wp2_with fail
  refine CS.out.mono ?_
  rintro e w2 ⟨k, z, hf, hz1, hz2, rfl, b2⟩
  obtain rfl := hf.unique HFI.out
  obtain ⟨t1, t2, t3, t4, t5, t6⟩ := HTS.out (wfnd 0 l v b)
  have HOUT : Hid (woutP l v b = (sall (l.take (wfnd 0 l v b))).d1 + v - (sall (l.take (wfnd 0 l v b))).d0) := Lib.hid (by rw [t1, t2]; rfl)
  rw [← t1] at t3 t4
  rw [← t2] at t5 t6
  clear t1 t2 hf HFI HTS CS CK
  generalize wfnd 0 l v b = k at *
  generalize sall (l.take k) = s at *
  have w1' : IntKind.i64.wrap (s.d1 + v) = s.d1 + v := IntWalk.i64_in _ (by omega)
  have w2' : IntKind.i64.wrap (s.d1 + v - s.d0) = s.d1 + v - s.d0 := IntWalk.i64_in _ (by omega)
  have R3 : RawAt 86 (w2.alloc (.cells #[.int .i64 k, .int .i64 s.n, .int .i64 s.d0, .int .i64 s.d1, .int .i64 s.d2, .int .i64 s.mx, .int .i64 s.pl, .int .i64 z] 86)) w2.heap.size #[.int .i64 k, .int .i64 s.n, .int .i64 s.d0, .int .i64 s.d1, .int .i64 s.d2, .int .i64 s.mx, .int .i64 s.pl, .int .i64 z] := heap_alloc_new w2 _
  have x3 : Below w2.heap.size w2 (w2.alloc (.cells #[.int .i64 k, .int .i64 s.n, .int .i64 s.d0, .int .i64 s.d1, .int .i64 s.d2, .int .i64 s.mx, .int .i64 s.pl, .int .i64 z] 86)) := (Below.refl _ _).alloc (Nat.le_refl _) _
  have HB3 := Lib.hid (b2.trans (x3.mono b2.size))
  have c2 := RawAt.cell R3 2
  have c3 := RawAt.cell R3 3
  simp at c2 c3
  unfold vcs
  clear R3 x3
  go_wp2
  go_ret2
  exact ⟨by rw [HOUT.out]; rfl, HB3.out⟩
set_option maxHeartbeats 4000000 in
set_option maxRecDepth 100000 in
theorem wvOut_no {p : Option Addr} {l : List I7} {h : Nat} {w : World} (ht : WvAt w p l h) (v b : Int) (hv : ¬ (WvAsk 0 l v ∧ (b = 0 ∨ b = 1))) :
    Calls Tryz.prog 15 #[.pointer p, .int .i64 v, .int .i64 b] w fun e w' => e = .returned (.tuple #[.int .i64 0, .int .i64 1]) ∧ Below w.heap.size w w' := by
  obtain ⟨q, hq, hk⟩ := wvkept ht
  obtain ⟨hol, hll⟩ := hq.okl
  have CK := Lib.hid (hk w (Below.refl _ _))
  have CS := Lib.hid (tfind_bad q l h ((0 : Nat) : Int) v b w hq (fun hh => hv ((wv_ask hol (by omega) v b).1 hh)))
  clear hk hq ht hv hol
  go_enter Tryz.func15, Tryz.ntmps15
  go_wp2_with fail
  refine CK.out.mono ?_
  rintro e w1 ⟨rfl, rfl⟩
  go_wp2_with fail
  refine CS.out.mono ?_
  rintro e w2 ⟨rfl, b2⟩
  unfold vcs s0
  have HB3 := Lib.hid (b2.alloc b2.size (.cells (vcs 0 s0 0) 86))
  unfold vcs s0 at HB3
  go_wp2
  go_ret2
  exact ⟨rfl, HB3.out⟩
/-- A block whose cells are all written anew; a store of that kind in a drawn region. -/
theorem raw_row {t : TypeId} {w : World} {b : Nat} {cs : Array Value} (h : RawAt t w b cs) (vs : Array Value) : RawAt t (w.setRow b vs) b vs := setRow_heap w b cs vs t (0, 0) h
theorem raw_row_ne {t t' : TypeId} {w : World} {b b' : Nat} {cs cs' : Array Value} (h : RawAt t w b cs) (_h' : RawAt t' w b' cs') (hne : b ≠ b') (vs : Array Value) : RawAt t (w.setRow b' vs) b cs := (setRow_other w b' b vs hne).trans h
theorem step_store_row {P : Program} {w : World} {a : Act} {ops : Array Oper} {o : Oper} {Q : Exit → Act → World → Prop} {K : Act → World → Prop} {E : Prop} (hgd : o.guard = none) (ty : TypeId) (x y : Operand) (ho : o.op = .store ty x y)
    (g : Nat) (cells : Array Value) (hx : a.eval x = .pointer (some ⟨g, 0, none⟩)) (hy : a.eval y = .agg cells) {t : TypeId} {old : Array Value} (hg : RawAt t w g old) (hi : (P.info? ty).map (·.size) = some cells.size)
    (hold : old.size = cells.size) (h1 : cells.all (·.oneCell') = true) (h : K (a.put o.dst undef) (w.setRow g cells)) : if Region.wanted o (yielded ops a.tmps) = true then Oper.wp P o a w K Q else E := by
  have hw : Region.wanted o (yielded ops a.tmps) = true := by simp [Region.wanted, hgd]
  rw [if_pos hw]
  exact wp_store_row ty x y ho g cells hx hy t old hg hi hold h1 h
set_option linter.unusedVariables false
/-- An item at a place, or none: nothing then. -/
theorem wat_any (p : Option Addr) (l : List I7) (h k : Nat) (w : World) (ht : TP w p l h) : Calls Tryz.prog 38 #[.pointer p, .int .i64 k] w fun e w' => (∃ r : Int, e = .returned (.tuple #[.agg (ics (ith l k)), .int .i64 r])) ∧ Below w.heap.size w w' := by
  by_cases hk : k < l.length
  · exact (tat_any p l h k w ht hk).mono fun e w' ⟨h1, h2⟩ => ⟨⟨0, h1⟩, h2⟩
  · refine (tat_bad p l h (k : Int) w ht (by omega)).mono fun e w' ⟨h1, h2⟩ => ⟨⟨1, ?_⟩, h2⟩
    rw [h1, show ith l k = default from by simp [ith, List.getD, Nat.le_of_not_lt hk]]
    rfl
set_option maxHeartbeats 8000000 in
set_option maxRecDepth 100000 in
theorem wvIn_yes {p : Option Addr} {l : List I7} {h : Nat} {w : World} (ht : WvAt w p l h) (v : Int) (hv : WvAsk 1 l v) :
    Calls Tryz.prog 16 #[.pointer p, .int .i64 v] w fun e w' => e = .returned (.tuple #[.int .i64 (winP l v).1, .int .i64 (winP l v).2, .int .i64 0]) ∧ Below w.heap.size w w' := by
  obtain ⟨q, hq, hk⟩ := wvkept ht
  obtain ⟨hol, hll⟩ := hq.okl
  have CK := Lib.hid hk
  have CS := Lib.hid (tfind_any q l h ((1 : Nat) : Int) v 1 w hq ((wv_ask hol (by omega) v 1).2 ⟨hv, .inr rfl⟩))
  have CA := Lib.hid fun (k : Nat) (W : World) (hW : Below w.heap.size w W) => wat_any q l h k W (hq.below hW)
  have HFI := Lib.hid (wfnd_is hol (show 1 < 2 by omega) v 1)
  have HTS := Lib.hid (wtake_sums hol hll)
  have hvb := (wdsum_bd hol hll 1 (by omega)).2
  have hv1 := hv.1
  have hv2 := hv.2
  clear hk hq ht hv hol
  go_enter Tryz.func16, Tryz.ntmps16
  go_wp2_with fail
  refine (CK.out _ (Below.refl _ _)).mono ?_
  rintro e w1 ⟨rfl, rfl⟩
  go_wp2_with fail
  refine CS.out.mono ?_
  rintro e w2 ⟨k, z, hf, hz1, hz2, rfl, b2⟩
  obtain rfl := hf.unique HFI.out
  obtain ⟨t1, t2, t3, t4, t5, t6⟩ := HTS.out (wfnd 1 l v 1)
  have HOUT : Hid (winP l v = if (ith l (wfnd 1 l v 1)).id = 0 ∨ v - (sall (l.take (wfnd 1 l v 1))).d1 = 0 then ((sall (l.take (wfnd 1 l v 1))).d0 + (v - (sall (l.take (wfnd 1 l v 1))).d1), 0) else ((sall (l.take (wfnd 1 l v 1))).d0, (ith l (wfnd 1 l v 1)).id)) := Lib.hid (by rw [t1, t2]; rfl)
  rw [← t1] at t3 t4
  rw [← t2] at t5 t6
  have CA2 := Lib.hid (CA.out (wfnd 1 l v 1))
  clear t1 t2 hf HFI HTS CS CA
  generalize wfnd 1 l v 1 = k at *
  generalize sall (l.take k) = s at *
  generalize ith l k = own at *
  obtain ⟨tg, id, o0, o1, o2, omx, otx⟩ := own
  have w1' : IntKind.i64.wrap (v - s.d1) = v - s.d1 := IntWalk.i64_in _ (by omega)
  have w2' : IntKind.i64.wrap (s.d0 + (v - s.d1)) = s.d0 + (v - s.d1) := IntWalk.i64_in _ (by omega)
  have R3 : RawAt 86 (w2.alloc (.cells #[.int .i64 k, .int .i64 s.n, .int .i64 s.d0, .int .i64 s.d1, .int .i64 s.d2, .int .i64 s.mx, .int .i64 s.pl, .int .i64 z] 86)) w2.heap.size #[.int .i64 k, .int .i64 s.n, .int .i64 s.d0, .int .i64 s.d1, .int .i64 s.d2, .int .i64 s.mx, .int .i64 s.pl, .int .i64 z] := heap_alloc_new w2 _
  have x3 : Below w2.heap.size w2 (w2.alloc (.cells #[.int .i64 k, .int .i64 s.n, .int .i64 s.d0, .int .i64 s.d1, .int .i64 s.d2, .int .i64 s.mx, .int .i64 s.pl, .int .i64 z] 86)) := (Below.refl _ _).alloc (Nat.le_refl _) _
  have HB3 := Lib.hid (b2.trans (x3.mono b2.size))
  have HR3 := Lib.hid R3
  unfold vcs
  clear R3 x3 b2
  go_upto_region 4 with fail
  generalize hWD : (w2.alloc (.cells #[.int .i64 k, .int .i64 s.n, .int .i64 s.d0, .int .i64 s.d1, .int .i64 s.d2, .int .i64 s.mx, .int .i64 s.pl, .int .i64 z] 86)) = W3 at *
  have hbp := HR3.out.lt
  generalize w2.heap.size = bp at *
  go_cut [9, 10] from 12 (fun s9 s10 wx => ∃ bx : Nat, s9 = .pointer (some ⟨bx, 0, none⟩) ∧ Hid (RawAt 91 wx bx #[.int .i64 tg, .int .i64 id, .int .i64 o0, .int .i64 o1, .int .i64 o2, .int .i64 omx, .string otx]) ∧ Hid (RawAt 86 wx bp #[.int .i64 k, .int .i64 s.n, .int .i64 s.d0, .int .i64 s.d1, .int .i64 s.d2, .int .i64 s.mx, .int .i64 s.pl, .int .i64 z]) ∧ Hid (Below w1.heap.size w1 wx))
  case first =>
    have Rp := HR3.out
    have c0 : W3.cell? ⟨bp, 0, none⟩ = some (.int .i64 k) := RawAt.cell Rp 0
    have hW2 : Below W3.heap.size W3 W3.drew := (Below.refl _ _).drew
    have Rp : RawAt 86 W3.drew bp #[.int .i64 k, .int .i64 s.n, .int .i64 s.d0, .int .i64 s.d1, .int .i64 s.d2, .int .i64 s.mx, .int .i64 s.pl, .int .i64 z] := Rp
    have ltRp := Rp.lt
    have MK : Hid (∀ V : World, RawAt 86 V bp #[.int .i64 k, .int .i64 s.n, .int .i64 s.d0, .int .i64 s.d1, .int .i64 s.d2, .int .i64 s.mx, .int .i64 s.pl, .int .i64 z] → (fun V : World => V.cell? ⟨bp, 0, none⟩ = some (.int .i64 k)) V) := Lib.hid fun V hRp => RawAt.cell hRp 0
    have RZ0 : RawAt 91 (W3.alloc (.cells #[.int .i64 0, .int .i64 0, .int .i64 0, .int .i64 0, .int .i64 0, .int .i64 0, .string ⟨#[]⟩] 91)).drew W3.heap.size #[.int .i64 0, .int .i64 0, .int .i64 0, .int .i64 0, .int .i64 0, .int .i64 0, .string ⟨#[]⟩] := heap_alloc_new W3 _
    have hWE : Below W3.heap.size W3 (W3.alloc (.cells #[.int .i64 0, .int .i64 0, .int .i64 0, .int .i64 0, .int .i64 0, .int .i64 0, .string ⟨#[]⟩] 91)).drew := ((Below.refl _ _).alloc (Nat.le_refl _) _).drew
    have RpE : RawAt 86 (W3.alloc (.cells #[.int .i64 0, .int .i64 0, .int .i64 0, .int .i64 0, .int .i64 0, .int .i64 0, .string ⟨#[]⟩] 91)).drew bp #[.int .i64 k, .int .i64 s.n, .int .i64 s.d0, .int .i64 s.d1, .int .i64 s.d2, .int .i64 s.mx, .int .i64 s.pl, .int .i64 z] := RawAt.below Rp ((Below.refl _ _).alloc (Nat.le_refl _) _) Rp.lt
    refine wp_region_noPanic ?_
    refine wp_region_held_drew (S := (fun V => V.cell? ⟨bp, 0, none⟩ = some (.int .i64 k))) (by kernel_rfl) (MK.out _ Rp) (fun hHeld => ?_)
    refine wpAnyH_take (i := 0) (v := ?_) rfl (by kernel_rfl) (by kernel_rfl) (by kernel_rfl) (fun _ _ _ h => h) (Or.inl ⟨by rfl, ?_⟩) hHeld ?_
    rotate_left
    · intro w hSw
      (try dsimp only at hSw)
      go_simp
      try with_reducible rfl
    go_simp
    refine wpAnyH_take (i := 2) (v := ?_) rfl (by kernel_rfl) (by kernel_rfl) (by kernel_rfl) (fun _ _ _ h => h) (Or.inl ⟨by rfl, ?_⟩) hHeld ?_
    rotate_left
    · intro w hSw
      (try dsimp only at hSw)
      go_simp
      try with_reducible rfl
    go_simp
    refine wpAnyH_take (i := 3) (v := ?_) rfl (by kernel_rfl) (by kernel_rfl) (by kernel_rfl) (fun _ _ _ h => h) (Or.inl ⟨by rfl, ?_⟩) hHeld ?_
    rotate_left
    · intro w hSw
      (try dsimp only at hSw)
      go_simp
      try with_reducible rfl
    go_simp
    refine wpAnyH_ready (rs := [1, 8]) (by kernel_rfl) (by simp) ?_
    refine AllReadyH.cons rfl (fun K hK => ?_) (AllReadyH.cons rfl (fun K hK => ?_) AllReadyH.nil)
    · go_simp
      go_wp2_with (first | (go_at_call 36; ((refine (CK.out _ (HB3.out.trans (hW2.mono HB3.out.size))).mono ?_); rintro e wK ⟨rfl, hwK⟩); have hwK := hwK.symm; subst hwK) | (go_at_call 38; ((refine (CA2.out _ (HB3.out.trans (hW2.mono HB3.out.size))).mono ?_); rintro e wC ⟨⟨r, rfl⟩, bC⟩); unfold ics; have Rp := RawAt.below Rp bC Rp.lt; have hW2 := hW2.trans (bC.mono hW2.size); have RZ : RawAt 91 (wC.alloc (.cells #[.int .i64 0, .int .i64 0, .int .i64 0, .int .i64 0, .int .i64 0, .int .i64 0, .string ⟨#[]⟩] 91)) wC.heap.size #[.int .i64 0, .int .i64 0, .int .i64 0, .int .i64 0, .int .i64 0, .int .i64 0, .string ⟨#[]⟩] := heap_alloc_new wC _; have hWA := hW2.alloc hW2.size (.cells #[.int .i64 0, .int .i64 0, .int .i64 0, .int .i64 0, .int .i64 0, .int .i64 0, .string ⟨#[]⟩] 91); have RpA : RawAt 86 (wC.alloc (.cells #[.int .i64 0, .int .i64 0, .int .i64 0, .int .i64 0, .int .i64 0, .int .i64 0, .string ⟨#[]⟩] 91)) bp #[.int .i64 k, .int .i64 s.n, .int .i64 s.d0, .int .i64 s.d1, .int .i64 s.d2, .int .i64 s.mx, .int .i64 s.pl, .int .i64 z] := RawAt.below Rp ((Below.refl _ _).alloc (Nat.le_refl _) _) Rp.lt))
      refine hK.out _ _ (by first | (with_reducible exact MK.out _ Rp) | (with_reducible exact MK.out _ RpE) | (with_reducible exact MK.out _ RpA) | (with_reducible exact MK.out _ RpS)) (fun hHeld => ?_)
      clear hK K
      go_simp
      refine wpAnyH_ready (rs := [4, 8]) (by kernel_rfl) (by simp) ?_
      refine AllReadyH.cons rfl (fun K hK => ?_) (AllReadyH.cons rfl (fun K hK => ?_) AllReadyH.nil)
      · go_simp
        go_wp2_with (first | (go_at_call 36; ((refine (CK.out _ (HB3.out.trans (hW2.mono HB3.out.size))).mono ?_); rintro e wK ⟨rfl, hwK⟩); have hwK := hwK.symm; subst hwK) | (go_at_call 38; ((refine (CA2.out _ (HB3.out.trans (hW2.mono HB3.out.size))).mono ?_); rintro e wC ⟨⟨r, rfl⟩, bC⟩); unfold ics; have Rp := RawAt.below Rp bC Rp.lt; have hW2 := hW2.trans (bC.mono hW2.size); have RZ : RawAt 91 (wC.alloc (.cells #[.int .i64 0, .int .i64 0, .int .i64 0, .int .i64 0, .int .i64 0, .int .i64 0, .string ⟨#[]⟩] 91)) wC.heap.size #[.int .i64 0, .int .i64 0, .int .i64 0, .int .i64 0, .int .i64 0, .int .i64 0, .string ⟨#[]⟩] := heap_alloc_new wC _; have hWA := hW2.alloc hW2.size (.cells #[.int .i64 0, .int .i64 0, .int .i64 0, .int .i64 0, .int .i64 0, .int .i64 0, .string ⟨#[]⟩] 91); have RpA : RawAt 86 (wC.alloc (.cells #[.int .i64 0, .int .i64 0, .int .i64 0, .int .i64 0, .int .i64 0, .int .i64 0, .string ⟨#[]⟩] 91)) bp #[.int .i64 k, .int .i64 s.n, .int .i64 s.d0, .int .i64 s.d1, .int .i64 s.d2, .int .i64 s.mx, .int .i64 s.pl, .int .i64 z] := RawAt.below Rp ((Below.refl _ _).alloc (Nat.le_refl _) _) Rp.lt))
        refine hK.out _ _ (by first | (with_reducible exact MK.out _ Rp) | (with_reducible exact MK.out _ RpE) | (with_reducible exact MK.out _ RpA) | (with_reducible exact MK.out _ RpS)) (fun hHeld => ?_)
        clear hK K
        go_simp
        refine wpAnyH_take (i := 5) (v := ?_) rfl (by kernel_rfl) (by kernel_rfl) (by kernel_rfl) (fun _ _ _ h => h) (Or.inl ⟨by rfl, ?_⟩) hHeld ?_
        rotate_left
        · intro w hSw
          (try dsimp only at hSw)
          go_simp
          try with_reducible rfl
        go_simp
        refine wpAnyH_take (i := 6) (v := ?_) rfl (by kernel_rfl) (by kernel_rfl) (by kernel_rfl) (fun _ _ _ h => h) (Or.inl ⟨by rfl, ?_⟩) hHeld ?_
        rotate_left
        · intro w hSw
          (try dsimp only at hSw)
          go_simp
          try with_reducible rfl
        go_simp
        refine wpAnyH_take (i := 7) (v := ?_) rfl (by kernel_rfl) (by kernel_rfl) (by kernel_rfl) (fun _ _ _ h => h) (Or.inl ⟨by rfl, ?_⟩) hHeld ?_
        rotate_left
        · intro w hSw
          (try dsimp only at hSw)
          go_simp
          try with_reducible rfl
        go_simp
        refine wpAnyH_ready (rs := [8]) (by kernel_rfl) (by simp) ?_
        refine AllReadyH.cons rfl (fun K hK => ?_) ?_
        rotate_left
        · exact AllReadyH.nil
        go_simp
        go_wp2_with (first | (go_at_call 36; ((refine (CK.out _ (HB3.out.trans (hW2.mono HB3.out.size))).mono ?_); rintro e wK ⟨rfl, hwK⟩); have hwK := hwK.symm; subst hwK) | (go_at_call 38; ((refine (CA2.out _ (HB3.out.trans (hW2.mono HB3.out.size))).mono ?_); rintro e wC ⟨⟨r, rfl⟩, bC⟩); unfold ics; have Rp := RawAt.below Rp bC Rp.lt; have hW2 := hW2.trans (bC.mono hW2.size); have RZ : RawAt 91 (wC.alloc (.cells #[.int .i64 0, .int .i64 0, .int .i64 0, .int .i64 0, .int .i64 0, .int .i64 0, .string ⟨#[]⟩] 91)) wC.heap.size #[.int .i64 0, .int .i64 0, .int .i64 0, .int .i64 0, .int .i64 0, .int .i64 0, .string ⟨#[]⟩] := heap_alloc_new wC _; have hWA := hW2.alloc hW2.size (.cells #[.int .i64 0, .int .i64 0, .int .i64 0, .int .i64 0, .int .i64 0, .int .i64 0, .string ⟨#[]⟩] 91); have RpA : RawAt 86 (wC.alloc (.cells #[.int .i64 0, .int .i64 0, .int .i64 0, .int .i64 0, .int .i64 0, .int .i64 0, .string ⟨#[]⟩] 91)) bp #[.int .i64 k, .int .i64 s.n, .int .i64 s.d0, .int .i64 s.d1, .int .i64 s.d2, .int .i64 s.mx, .int .i64 s.pl, .int .i64 z] := RawAt.below Rp ((Below.refl _ _).alloc (Nat.le_refl _) _) Rp.lt))
        refine hK.out _ _ (by first | (with_reducible exact MK.out _ Rp) | (with_reducible exact MK.out _ RpE) | (with_reducible exact MK.out _ RpA) | (with_reducible exact MK.out _ RpS)) (fun hHeld => ?_)
        clear hK K
        go_simp
        refine wpAnyH_ready (rs := [9]) (by kernel_rfl) (by simp) ?_
        refine AllReadyH.cons rfl (fun K hK => ?_) ?_
        rotate_left
        · exact AllReadyH.nil
        have RpS := raw_row_ne RpA RZ (Nat.ne_of_lt Rp.lt) #[.int .i64 tg, .int .i64 id, .int .i64 o0, .int .i64 o1, .int .i64 o2, .int .i64 omx, .string otx]
        refine step_store_row rfl 91 _ _ rfl wC.heap.size #[.int .i64 tg, .int .i64 id, .int .i64 o0, .int .i64 o1, .int .i64 o2, .int .i64 omx, .string otx] rfl rfl RZ (by kernel_rfl) rfl (by simp [Value.oneCell']) ?_
        refine hK.out _ _ (by first | (with_reducible exact MK.out _ Rp) | (with_reducible exact MK.out _ RpE) | (with_reducible exact MK.out _ RpA) | (with_reducible exact MK.out _ RpS)) (fun hHeld => ?_)
        clear hK K
        go_simp
        refine wpAnyH_take (i := 10) (v := ?_) rfl (by kernel_rfl) (by kernel_rfl) (by kernel_rfl) (fun _ _ _ h => h) (Or.inl ⟨by rfl, ?_⟩) hHeld ?_
        rotate_left
        · intro w hSw
          (try dsimp only at hSw)
          go_simp
          try with_reducible rfl
        go_simp
        refine wpAnyH_done (by kernel_rfl) ?_ _
        refine NoPanic.normal ?_
        go_wp2_with fail
        have RN := raw_row RZ #[.int .i64 tg, .int .i64 id, .int .i64 o0, .int .i64 o1, .int .i64 o2, .int .i64 omx, .string otx]
        have Rp := RpS
        have HN := Lib.hid (HB3.out.trans ((below_setRow (g := wC.heap.size) hWA (by first | exact Nat.le_refl _ | exact hW2.size) #[.int .i64 tg, .int .i64 id, .int .i64 o0, .int .i64 o1, .int .i64 o2, .int .i64 omx, .string otx]).mono HB3.out.size))
        go_meet
        exact ⟨wC.heap.size, rfl, Lib.hid RN, Lib.hid Rp, HN⟩
      · go_simp
        go_wp2_with (first | (go_at_call 36; ((refine (CK.out _ (HB3.out.trans (hWE.mono HB3.out.size))).mono ?_); rintro e wK ⟨rfl, hwK⟩); have hwK := hwK.symm; subst hwK) | (go_at_call 38; ((refine (CA2.out _ (HB3.out.trans (hWE.mono HB3.out.size))).mono ?_); rintro e wC ⟨⟨r, rfl⟩, bC⟩); unfold ics; have Rp := RawAt.below RpE bC RpE.lt; have RZ : RawAt 91 wC W3.heap.size #[.int .i64 0, .int .i64 0, .int .i64 0, .int .i64 0, .int .i64 0, .int .i64 0, .string ⟨#[]⟩] := RawAt.below RZ0 bC RZ0.lt; have hW2 := hWE.trans (bC.mono hWE.size)))
        refine hK.out _ _ (by first | (with_reducible exact MK.out _ Rp) | (with_reducible exact MK.out _ RpE) | (with_reducible exact MK.out _ RpA) | (with_reducible exact MK.out _ RpS)) (fun hHeld => ?_)
        clear hK K
        go_simp
        refine wpAnyH_ready (rs := [4]) (by kernel_rfl) (by simp) ?_
        refine AllReadyH.cons rfl (fun K hK => ?_) ?_
        rotate_left
        · exact AllReadyH.nil
        go_simp
        go_wp2_with (first | (go_at_call 36; ((refine (CK.out _ (HB3.out.trans (hWE.mono HB3.out.size))).mono ?_); rintro e wK ⟨rfl, hwK⟩); have hwK := hwK.symm; subst hwK) | (go_at_call 38; ((refine (CA2.out _ (HB3.out.trans (hWE.mono HB3.out.size))).mono ?_); rintro e wC ⟨⟨r, rfl⟩, bC⟩); unfold ics; have Rp := RawAt.below RpE bC RpE.lt; have RZ : RawAt 91 wC W3.heap.size #[.int .i64 0, .int .i64 0, .int .i64 0, .int .i64 0, .int .i64 0, .int .i64 0, .string ⟨#[]⟩] := RawAt.below RZ0 bC RZ0.lt; have hW2 := hWE.trans (bC.mono hWE.size)))
        refine hK.out _ _ (by first | (with_reducible exact MK.out _ Rp) | (with_reducible exact MK.out _ RpE) | (with_reducible exact MK.out _ RpA) | (with_reducible exact MK.out _ RpS)) (fun hHeld => ?_)
        clear hK K
        go_simp
        refine wpAnyH_take (i := 5) (v := ?_) rfl (by kernel_rfl) (by kernel_rfl) (by kernel_rfl) (fun _ _ _ h => h) (Or.inl ⟨by rfl, ?_⟩) hHeld ?_
        rotate_left
        · intro w hSw
          (try dsimp only at hSw)
          go_simp
          try with_reducible rfl
        go_simp
        refine wpAnyH_take (i := 6) (v := ?_) rfl (by kernel_rfl) (by kernel_rfl) (by kernel_rfl) (fun _ _ _ h => h) (Or.inl ⟨by rfl, ?_⟩) hHeld ?_
        rotate_left
        · intro w hSw
          (try dsimp only at hSw)
          go_simp
          try with_reducible rfl
        go_simp
        refine wpAnyH_take (i := 7) (v := ?_) rfl (by kernel_rfl) (by kernel_rfl) (by kernel_rfl) (fun _ _ _ h => h) (Or.inl ⟨by rfl, ?_⟩) hHeld ?_
        rotate_left
        · intro w hSw
          (try dsimp only at hSw)
          go_simp
          try with_reducible rfl
        go_simp
        refine wpAnyH_ready (rs := [9]) (by kernel_rfl) (by simp) ?_
        refine AllReadyH.cons rfl (fun K hK => ?_) ?_
        rotate_left
        · exact AllReadyH.nil
        have RpS := raw_row_ne Rp RZ (Nat.ne_of_lt ltRp) #[.int .i64 tg, .int .i64 id, .int .i64 o0, .int .i64 o1, .int .i64 o2, .int .i64 omx, .string otx]
        refine step_store_row rfl 91 _ _ rfl W3.heap.size #[.int .i64 tg, .int .i64 id, .int .i64 o0, .int .i64 o1, .int .i64 o2, .int .i64 omx, .string otx] rfl rfl RZ (by kernel_rfl) rfl (by simp [Value.oneCell']) ?_
        refine hK.out _ _ (by first | (with_reducible exact MK.out _ Rp) | (with_reducible exact MK.out _ RpE) | (with_reducible exact MK.out _ RpA) | (with_reducible exact MK.out _ RpS)) (fun hHeld => ?_)
        clear hK K
        go_simp
        refine wpAnyH_take (i := 10) (v := ?_) rfl (by kernel_rfl) (by kernel_rfl) (by kernel_rfl) (fun _ _ _ h => h) (Or.inl ⟨by rfl, ?_⟩) hHeld ?_
        rotate_left
        · intro w hSw
          (try dsimp only at hSw)
          go_simp
          try with_reducible rfl
        go_simp
        refine wpAnyH_done (by kernel_rfl) ?_ _
        refine NoPanic.normal ?_
        go_wp2_with fail
        have RN := raw_row RZ #[.int .i64 tg, .int .i64 id, .int .i64 o0, .int .i64 o1, .int .i64 o2, .int .i64 omx, .string otx]
        have Rp := RpS
        have HN := Lib.hid (HB3.out.trans ((below_setRow (g := W3.heap.size) hW2 (by first | exact Nat.le_refl _ | exact hW2.size) #[.int .i64 tg, .int .i64 id, .int .i64 o0, .int .i64 o1, .int .i64 o2, .int .i64 omx, .string otx]).mono HB3.out.size))
        go_meet
        exact ⟨W3.heap.size, rfl, Lib.hid RN, Lib.hid Rp, HN⟩
    · go_simp
      go_wp2_with (first | (go_at_call 36; ((refine (CK.out _ (HB3.out.trans (hWE.mono HB3.out.size))).mono ?_); rintro e wK ⟨rfl, hwK⟩); have hwK := hwK.symm; subst hwK) | (go_at_call 38; ((refine (CA2.out _ (HB3.out.trans (hWE.mono HB3.out.size))).mono ?_); rintro e wC ⟨⟨r, rfl⟩, bC⟩); unfold ics; have Rp := RawAt.below RpE bC RpE.lt; have RZ : RawAt 91 wC W3.heap.size #[.int .i64 0, .int .i64 0, .int .i64 0, .int .i64 0, .int .i64 0, .int .i64 0, .string ⟨#[]⟩] := RawAt.below RZ0 bC RZ0.lt; have hW2 := hWE.trans (bC.mono hWE.size)))
      refine hK.out _ _ (by first | (with_reducible exact MK.out _ Rp) | (with_reducible exact MK.out _ RpE) | (with_reducible exact MK.out _ RpA) | (with_reducible exact MK.out _ RpS)) (fun hHeld => ?_)
      clear hK K
      go_simp
      refine wpAnyH_ready (rs := [1]) (by kernel_rfl) (by simp) ?_
      refine AllReadyH.cons rfl (fun K hK => ?_) ?_
      rotate_left
      · exact AllReadyH.nil
      go_simp
      go_wp2_with (first | (go_at_call 36; ((refine (CK.out _ (HB3.out.trans (hWE.mono HB3.out.size))).mono ?_); rintro e wK ⟨rfl, hwK⟩); have hwK := hwK.symm; subst hwK) | (go_at_call 38; ((refine (CA2.out _ (HB3.out.trans (hWE.mono HB3.out.size))).mono ?_); rintro e wC ⟨⟨r, rfl⟩, bC⟩); unfold ics; have Rp := RawAt.below RpE bC RpE.lt; have RZ : RawAt 91 wC W3.heap.size #[.int .i64 0, .int .i64 0, .int .i64 0, .int .i64 0, .int .i64 0, .int .i64 0, .string ⟨#[]⟩] := RawAt.below RZ0 bC RZ0.lt; have hW2 := hWE.trans (bC.mono hWE.size)))
      refine hK.out _ _ (by first | (with_reducible exact MK.out _ Rp) | (with_reducible exact MK.out _ RpE) | (with_reducible exact MK.out _ RpA) | (with_reducible exact MK.out _ RpS)) (fun hHeld => ?_)
      clear hK K
      go_simp
      refine wpAnyH_ready (rs := [4]) (by kernel_rfl) (by simp) ?_
      refine AllReadyH.cons rfl (fun K hK => ?_) ?_
      rotate_left
      · exact AllReadyH.nil
      go_simp
      go_wp2_with (first | (go_at_call 36; ((refine (CK.out _ (HB3.out.trans (hWE.mono HB3.out.size))).mono ?_); rintro e wK ⟨rfl, hwK⟩); have hwK := hwK.symm; subst hwK) | (go_at_call 38; ((refine (CA2.out _ (HB3.out.trans (hWE.mono HB3.out.size))).mono ?_); rintro e wC ⟨⟨r, rfl⟩, bC⟩); unfold ics; have Rp := RawAt.below RpE bC RpE.lt; have RZ : RawAt 91 wC W3.heap.size #[.int .i64 0, .int .i64 0, .int .i64 0, .int .i64 0, .int .i64 0, .int .i64 0, .string ⟨#[]⟩] := RawAt.below RZ0 bC RZ0.lt; have hW2 := hWE.trans (bC.mono hWE.size)))
      refine hK.out _ _ (by first | (with_reducible exact MK.out _ Rp) | (with_reducible exact MK.out _ RpE) | (with_reducible exact MK.out _ RpA) | (with_reducible exact MK.out _ RpS)) (fun hHeld => ?_)
      clear hK K
      go_simp
      refine wpAnyH_take (i := 5) (v := ?_) rfl (by kernel_rfl) (by kernel_rfl) (by kernel_rfl) (fun _ _ _ h => h) (Or.inl ⟨by rfl, ?_⟩) hHeld ?_
      rotate_left
      · intro w hSw
        (try dsimp only at hSw)
        go_simp
        try with_reducible rfl
      go_simp
      refine wpAnyH_take (i := 6) (v := ?_) rfl (by kernel_rfl) (by kernel_rfl) (by kernel_rfl) (fun _ _ _ h => h) (Or.inl ⟨by rfl, ?_⟩) hHeld ?_
      rotate_left
      · intro w hSw
        (try dsimp only at hSw)
        go_simp
        try with_reducible rfl
      go_simp
      refine wpAnyH_take (i := 7) (v := ?_) rfl (by kernel_rfl) (by kernel_rfl) (by kernel_rfl) (fun _ _ _ h => h) (Or.inl ⟨by rfl, ?_⟩) hHeld ?_
      rotate_left
      · intro w hSw
        (try dsimp only at hSw)
        go_simp
        try with_reducible rfl
      go_simp
      refine wpAnyH_ready (rs := [9]) (by kernel_rfl) (by simp) ?_
      refine AllReadyH.cons rfl (fun K hK => ?_) ?_
      rotate_left
      · exact AllReadyH.nil
      have RpS := raw_row_ne Rp RZ (Nat.ne_of_lt ltRp) #[.int .i64 tg, .int .i64 id, .int .i64 o0, .int .i64 o1, .int .i64 o2, .int .i64 omx, .string otx]
      refine step_store_row rfl 91 _ _ rfl W3.heap.size #[.int .i64 tg, .int .i64 id, .int .i64 o0, .int .i64 o1, .int .i64 o2, .int .i64 omx, .string otx] rfl rfl RZ (by kernel_rfl) rfl (by simp [Value.oneCell']) ?_
      refine hK.out _ _ (by first | (with_reducible exact MK.out _ Rp) | (with_reducible exact MK.out _ RpE) | (with_reducible exact MK.out _ RpA) | (with_reducible exact MK.out _ RpS)) (fun hHeld => ?_)
      clear hK K
      go_simp
      refine wpAnyH_take (i := 10) (v := ?_) rfl (by kernel_rfl) (by kernel_rfl) (by kernel_rfl) (fun _ _ _ h => h) (Or.inl ⟨by rfl, ?_⟩) hHeld ?_
      rotate_left
      · intro w hSw
        (try dsimp only at hSw)
        go_simp
        try with_reducible rfl
      go_simp
      refine wpAnyH_done (by kernel_rfl) ?_ _
      refine NoPanic.normal ?_
      go_wp2_with fail
      have RN := raw_row RZ #[.int .i64 tg, .int .i64 id, .int .i64 o0, .int .i64 o1, .int .i64 o2, .int .i64 omx, .string otx]
      have Rp := RpS
      have HN := Lib.hid (HB3.out.trans ((below_setRow (g := W3.heap.size) hW2 (by first | exact Nat.le_refl _ | exact hW2.size) #[.int .i64 tg, .int .i64 id, .int .i64 o0, .int .i64 o1, .int .i64 o2, .int .i64 omx, .string otx]).mono HB3.out.size))
      go_meet
      exact ⟨W3.heap.size, rfl, Lib.hid RN, Lib.hid Rp, HN⟩
  case rest =>
    obtain ⟨bx, rfl, HX, HP, HB⟩ := hcut
    have x0 : wc.cell? ⟨bx, 0, none⟩ = some (.int .i64 tg) := RawAt.cell HX.out 0
    have x1 : wc.cell? ⟨bx, 1, none⟩ = some (.int .i64 id) := RawAt.cell HX.out 1
    have x2 : wc.cell? ⟨bx, 2, none⟩ = some (.int .i64 o0) := RawAt.cell HX.out 2
    have x3 : wc.cell? ⟨bx, 3, none⟩ = some (.int .i64 o1) := RawAt.cell HX.out 3
    have x4 : wc.cell? ⟨bx, 4, none⟩ = some (.int .i64 o2) := RawAt.cell HX.out 4
    have x5 : wc.cell? ⟨bx, 5, none⟩ = some (.int .i64 omx) := RawAt.cell HX.out 5
    have x6 : wc.cell? ⟨bx, 6, none⟩ = some (.string otx) := RawAt.cell HX.out 6
    have p2 : wc.cell? ⟨bp, 2, none⟩ = some (.int .i64 s.d0) := RawAt.cell HP.out 2
    have p3 : wc.cell? ⟨bp, 3, none⟩ = some (.int .i64 s.d1) := RawAt.cell HP.out 3
    have hW3 := hWD
    clear hWD hW3 HR3 HB3
    obtain ⟨r, hr⟩ : ∃ r, r = decide (id = 0) := ⟨_, rfl⟩
    have CPL := Lib.hid (wvPlain_any tg id o0 o1 o2 omx otx r hr wc)
    have HR := Lib.hid hr
    clear hr
    go_wp2_with fail
    with_reducible refine (CPL.out).mono ?_
    rintro e w5 ⟨rfl, b5⟩
    have HB5 := Lib.hid (HB.out.trans (b5.mono HB.out.size))
    have q1 : w5.cell? ⟨bx, 1, none⟩ = some (.int .i64 id) := RawAt.cell (RawAt.below HX.out b5 HX.out.lt) 1
    have q2 : w5.cell? ⟨bp, 2, none⟩ = some (.int .i64 s.d0) := RawAt.cell (RawAt.below HP.out b5 HP.out.lt) 2
    clear b5 x0 x1 x2 x3 x4 x5 x6 p2 p3 CPL CK CA2
    by_cases g1 : id = 0
    · have h1 : r = true := by rw [HR.out]; exact decide_eq_true g1
      have HO : Hid (winP l v = (s.d0 + (v - s.d1), 0)) := Lib.hid (by rw [HOUT.out]; exact if_pos (.inl g1))
      clear HR HOUT g1
      subst h1
      go_wp2
      refine bodyPost_ret (v := .tuple #[.int .i64 (s.d0 + (v - s.d1)), .int .i64 0, .int .i64 0]) (by simp [results, Tryz.results16, go_sem]) rfl ⟨by rw [HO.out], HB5.out⟩
    · have h1 : r = false := by rw [HR.out]; exact decide_eq_false g1
      clear HR
      subst h1
      by_cases g2 : v - s.d1 = 0
      · have HO : Hid (winP l v = (s.d0 + (v - s.d1), 0)) := Lib.hid (by rw [HOUT.out]; exact if_pos (.inr g2))
        have k2 : (v - s.d1 == 0) = true := by simpa using g2
        have G2 := Lib.hid g2
        clear HOUT g1 g2
        go_wp2
        refine bodyPost_ret (v := .tuple #[.int .i64 (s.d0 + (v - s.d1)), .int .i64 0, .int .i64 0]) (by simp [results, Tryz.results16, go_sem]) rfl ⟨by rw [HO.out], HB5.out⟩
      · have HO : Hid (winP l v = (s.d0, id)) := Lib.hid (by rw [HOUT.out]; exact if_neg (by omega))
        have k2 : (v - s.d1 == 0) = false := by simpa using g2
        clear HOUT g1 g2
        go_wp2_with fail
        go_quiet (fail)
        have HQ := drewN_below HB5.out nq
        go_wp2
        refine bodyPost_ret (v := .tuple #[.int .i64 s.d0, .int .i64 id, .int .i64 0]) (by simp [results, Tryz.results16, go_sem]) rfl ⟨by rw [HO.out], HQ⟩
set_option maxHeartbeats 4000000 in
set_option maxRecDepth 100000 in
theorem wvIn_no {p : Option Addr} {l : List I7} {h : Nat} {w : World} (ht : WvAt w p l h) (v : Int) (hv : ¬ WvAsk 1 l v) :
    Calls Tryz.prog 16 #[.pointer p, .int .i64 v] w fun e w' => e = .returned (.tuple #[.int .i64 0, .int .i64 0, .int .i64 1]) ∧ Below w.heap.size w w' := by
  obtain ⟨q, hq, hk⟩ := wvkept ht
  obtain ⟨hol, hll⟩ := hq.okl
  have CK := Lib.hid (hk w (Below.refl _ _))
  have CS := Lib.hid (tfind_bad q l h ((1 : Nat) : Int) v 1 w hq (fun hh => hv ((wv_ask hol (by omega) v 1).1 hh).1))
  clear hk hq ht hv hol
  go_enter Tryz.func16, Tryz.ntmps16
  go_wp2_with fail
  refine CK.out.mono ?_
  rintro e w1 ⟨rfl, rfl⟩
  go_wp2_with fail
  refine CS.out.mono ?_
  rintro e w2 ⟨rfl, b2⟩
  have HB3 := Lib.hid (b2.alloc b2.size (.cells (vcs 0 s0 0) 86))
  unfold vcs s0 at HB3 ⊢
  go_wp2
  refine bodyPost_ret (v := .tuple #[.int .i64 0, .int .i64 0, .int .i64 1]) (by simp [results, Tryz.results16, go_sem]) rfl ⟨rfl, HB3.out⟩
end Go.Proofs.YtbeclkhahdcmbaaGreat
