/- Weaves: a weave in memory; the contracts of kept, Sizes, Height, New, Pieces. Weaves: the contracts of Out and of Pieces. A struct stored whole into a variable within a drawn region. Weaves: the contract of In. -/
import Derived.Test.YtjkmkobnfhepaaaGreatWvB
import Derived.Test.YtjkmkobnfhepaaaGreatTreeT
import Derived.Test.YtjkmkobnfhepaaaGreatTreeKQ
import Derived.BigQuiet
import Derived.Test.YtjkmkobnfhepaaaGreatTreeF
import Derived.Deep.RegionHeld3
import Derived.Test.YtjkmkobnfhepaaaGreatBase
import Derived.Laws.CopyOwn
import Derived.Deep.DeepCutAuto
namespace Go.Proofs.YtjkmkobnfhepaaaGreat
open Go.RowKit
set_option linter.unusedVariables false
/-- A weave, or none. -/
def WvAt (w : World) (p : Option Addr) (l : List I7) (h : Nat) : Prop :=
  (p = none ∧ l = [] ∧ h = 0) ∨ (∃ b q, p = some ⟨b, 0, none⟩ ∧ RawAt 111 w b #[.pointer q] ∧ TP w q l h)
theorem WvAt.below {w w' : World} {p : Option Addr} {l : List I7} {h : Nat} (ht : WvAt w p l h) (hb : Below w.heap.size w w') : WvAt w' p l h := by
  rcases ht with h1 | ⟨b, q, h1, h2, h3⟩
  · exact .inl h1
  · exact .inr ⟨b, q, h1, h2.below hb h2.lt, h3.below hb⟩
theorem wvkept_nil (w : World) : Calls Tryz.prog 65 #[.pointer none] w fun e w' => e = .returned (.pointer none) ∧ w' = w := by
  go_enter Tryz.func65, Tryz.ntmps65
  go_wp2
  go_ret
  exact ⟨rfl, rfl⟩
theorem wvkept_some (b : Nat) (q : Option Addr) (w : World) (e0 : w.cell? ⟨b, 0, none⟩ = some (.pointer q)) : Calls Tryz.prog 65 #[.pointer (some ⟨b, 0, none⟩)] w fun e w' => e = .returned (.pointer q) ∧ w' = w := by
  go_enter Tryz.func65, Tryz.ntmps65
  go_wp2
  go_ret
  exact ⟨rfl, rfl⟩
theorem wvkept {p : Option Addr} {l : List I7} {h : Nat} {w : World} (ht : WvAt w p l h) : ∃ q, TP w q l h ∧ ∀ W, Below w.heap.size w W → Calls Tryz.prog 65 #[.pointer p] W fun e w' => e = .returned (.pointer q) ∧ w' = W := by
  rcases ht with ⟨rfl, rfl, rfl⟩ | ⟨b, q, rfl, h2, h3⟩
  · exact ⟨none, .inl ⟨rfl, rfl, rfl⟩, fun W _ => wvkept_nil W⟩
  · exact ⟨q, h3, fun W hW => wvkept_some b q W (RawAt.cell (h2.below hW h2.lt) 0)⟩
theorem WvAt.okl {w : World} {p : Option Addr} {l : List I7} {h : Nat} (ht : WvAt w p l h) : Okl l ∧ l.length ≤ 30000 := by
  obtain ⟨q, hq, _⟩ := wvkept ht
  exact hq.okl
set_option maxHeartbeats 4000000 in
set_option maxRecDepth 100000 in
theorem wvSizes {p : Option Addr} {l : List I7} {h : Nat} {w : World} (ht : WvAt w p l h) : Calls Tryz.prog 31 #[.pointer p] w fun e w' => e = .returned (.tuple #[.int .i64 (wdsum 0 l), .int .i64 (wdsum 1 l)]) ∧ Below w.heap.size w w' := by
  obtain ⟨q, hq, hk⟩ := wvkept ht
  obtain ⟨e0, e1⟩ := sall_dz _ l rfl hq.okl.1
  rw [← e0, ← e1]
  have CK := Lib.hid (hk w (Below.refl _ _))
  have CS := Lib.hid (tsum_n q l h w hq)
  clear hk hq ht e0 e1
  generalize sall l = s at *
  have hfl : ∀ (k : Int) (u : World), (Instr.field 114 (.agg #[.int .i64 k, .int .i64 s.d0, .int .i64 s.d1, .int .i64 s.d2, .int .i64 s.mx, .int .i64 s.pl]) 1).run Tryz.prog u = .ok (.agg #[.int .i64 s.d0, .int .i64 s.d1, .int .i64 s.d2]) u := fun k u => by kernel_rfl
  go_enter Tryz.func31, Tryz.ntmps31
  go_wp2_with fail
  refine CK.out.mono ?_
  rintro e w1 ⟨rfl, rfl⟩
  go_wp2_with fail
  refine CS.out.mono ?_
  rintro e w2 ⟨rfl, b2⟩
  have R3 : RawAt 112 (w2.alloc (.cells #[.int .i64 s.d0, .int .i64 s.d1, .int .i64 s.d2] 112)) w2.heap.size #[.int .i64 s.d0, .int .i64 s.d1, .int .i64 s.d2] := heap_alloc_new w2 _
  have x3 : Below w2.heap.size w2 (w2.alloc (.cells #[.int .i64 s.d0, .int .i64 s.d1, .int .i64 s.d2] 112)) := (Below.refl _ _).alloc (Nat.le_refl _) _
  have HB3 := Lib.hid (b2.trans (x3.mono b2.size))
  have c0 := RawAt.cell R3 0
  have c1 := RawAt.cell R3 1
  simp at c0 c1
  clear R3 x3
  go_wp2_with fail
  go_quiet (fail)
  have HQ := drewN_below HB3.out nq
  go_wp2
  go_ret2
  exact ⟨rfl, HQ⟩
/-- A right set's weave: so many pieces. -/
theorem wvP_ok {f t : Int} {l : List In} (hb : ∀ a ∈ l, 0 ≤ a.pl ∧ a.pl ≤ 1099511627776 ∧ wcnt a ≤ 1000000) (hf : 0 ≤ f) (hf2 : f ≤ 1099511627776) (ht : t ≤ 1099511627776) : Okl (wvP f l t) := by
  have hg : ∀ x y : Int, 0 ≤ x → y ≤ 1099511627776 → Okl (wgap x y) := by
    intro x y hx hy i hi
    unfold wgap at hi
    split at hi
    · rw [List.mem_singleton.1 hi]
      unfold Oki Okd Okn wpc
      simp only
      omega
    · cases hi
  induction l generalizing f with
  | nil => exact hg f t hf ht
  | cons a l ih =>
    obtain ⟨h1, h2, h3⟩ := hb a (by simp)
    rw [wvP_cons]
    intro i hi
    rcases List.mem_append.1 hi with hi | hi
    · exact hg f a.pl hf h2 i hi
    · rcases List.mem_cons.1 hi with rfl | hi
      · unfold Oki Okd Okn wpc
        simp only
        omega
      · exact ih (fun x hx => hb x (List.mem_cons_of_mem _ hx)) h1 h2 i hi
set_option maxHeartbeats 4000000 in
set_option maxRecDepth 100000 in
/-- New, of a set whose All and Len answer so. -/
theorem wvNew_of (p : Option Addr) (o : List In) (n : Int) (w : World) (h0 : 0 ≤ n) (hn : n ≤ 1099511627776) (ho : o.length ≤ 1000) (hb : ∀ a ∈ o, 0 ≤ a.pl ∧ a.pl ≤ 1099511627776 ∧ a.tx.size ≤ 1000000)
    (hAll : ∀ W, Below w.heap.size w W → Calls Tryz.prog 56 #[.pointer p] W fun e w' => ∃ v, e = .returned v ∧ w'.ownsRow W.heap.size 56 5 v o.length (kfl encI o) ∧ Below W.heap.size W w')
    (hLen : ∀ W, Below w.heap.size w W → Calls Tryz.prog 57 #[.pointer p] W fun e w' => e = .returned (.int .i64 n) ∧ Below W.heap.size W w') :
    Calls Tryz.prog 21 #[.pointer p] w fun e w' => ∃ a h, e = .returned (.pointer (some a)) ∧ WvAt w' (some a) (wvP 0 o n) h ∧ Below w.heap.size w w' := by
  have hcn : ∀ a ∈ o, wcnt a ≤ 1000000 := fun a ha => Nat.le_trans (dec_len a.tx) (hb a ha).2.2
  have HOK := Lib.hid (wvP_ok (f := 0) (t := n) (l := o) (fun a ha => ⟨(hb a ha).1, (hb a ha).2.1, hcn a ha⟩) (Int.le_refl 0) (by omega) hn)
  have HLE := Lib.hid (wvP_len 0 o n)
  have C1 := Lib.hid hAll
  have C2 := Lib.hid hLen
  have CP := Lib.hid fun (A : Option Addr) (c : Nat) (W : World) (hA : RowsAt encI 5 W A o) => wvPieces_any A o.length c o 0 n W hA rfl (by omega) (by omega) (by omega) (fun a ha => ⟨by have := hb a ha; omega, by have := hb a ha; omega⟩)
  clear hAll hLen hb hcn
  go_enter Tryz.func21, Tryz.ntmps21
  go_wp2_with fail
  with_reducible refine (C1.out _ (Below.refl _ _)).mono ?_
  rintro e w1 ⟨v, rfl, hO, b1⟩
  obtain ⟨A, c, rfl, hR, _, hC⟩ := rows_of_own encI_len (by omega) hO
  have HR := Lib.hid hR
  clear hR hO hC
  go_wp2_with fail
  with_reducible refine (C2.out _ b1).mono ?_
  rintro e w2 ⟨rfl, b2⟩
  have HB2 := Lib.hid (b1.trans (b2.mono b1.size))
  have HR2 := Lib.hid (HR.out.below b2)
  clear b1 b2 HR
  go_wp2_with fail
  with_reducible refine (CP.out A c _ HR2.out).mono ?_
  rintro e w3 ⟨v3, rfl, hO3, b3⟩
  have HB3 := Lib.hid (HB2.out.trans (b3.mono HB2.out.size))
  obtain ⟨A3, c3, rfl, hI, _, hC3⟩ := its_of_own (l := wvP 0 o n) hO3
  have CN := Lib.hid (tnew_any A3 _ c3 (wvP 0 o n) w3 hI rfl hC3 (by have := HLE.out; omega) HOK.out)
  clear hO3 hI hC3 b3 HR2 CP
  generalize hwl : wvP 0 o n = l at *
  have HWL := Lib.hid hwl
  clear hwl
  go_wp2_with fail
  with_reducible refine (CN.out).mono ?_
  rintro e w4 ⟨a', h', rfl, hT, b4⟩
  have HT := Lib.hid hT
  have HB4 := Lib.hid (HB3.out.trans (b4.mono HB3.out.size))
  have x5 : Below w4.heap.size w4 (w4.alloc (.cells #[.pointer (some a')] 111)) := (Below.refl _ _).alloc (Nat.le_refl _) _
  have HF : Hid (WvAt (w4.alloc (.cells #[.pointer (some a')] 111)) (some ⟨w4.heap.size, 0, none⟩) l h') := Lib.hid (.inr ⟨w4.heap.size, some a', rfl, heap_alloc_new w4 _, HT.out.below x5⟩)
  have HB5 := Lib.hid (HB4.out.trans (x5.mono HB4.out.size))
  clear hT b4 x5
  go_wp2
  go_ret
  exact ⟨_, h', rfl, by rw [HWL.out]; exact HF.out, HB5.out⟩
set_option linter.unusedVariables false
/-- May a place be asked for so? -/
def WvAsk (k : Nat) (l : List I7) (v : Int) : Prop := 0 ≤ v ∧ v ≤ wdsum k l
theorem wv_ask {l : List I7} (ho : Okl l) {k : Nat} (hk : k < 2) (v b : Int) : AskOk l k v b ↔ WvAsk k l v ∧ (b = 0 ∨ b = 1) := by
  unfold AskOk WvAsk
  rw [show ((k : Nat) : Int).toNat = k from by omega, sdim_dz ho hk]
  constructor
  · rintro ⟨_, _, h1, h2, h3⟩
    exact ⟨⟨h1, h2⟩, h3⟩
  · rintro ⟨⟨h1, h2⟩, h3⟩
    exact ⟨by omega, by omega, h1, h2, h3⟩
theorem wtake_sums {l : List I7} (ho : Okl l) (hl : l.length ≤ 30000) (k : Nat) : (sall (l.take k)).d0 = wdsum 0 (l.take k) ∧ (sall (l.take k)).d1 = wdsum 1 (l.take k) ∧ 0 ≤ wdsum 0 (l.take k) ∧ wdsum 0 (l.take k) ≤ 40000000000000000 ∧ 0 ≤ wdsum 1 (l.take k) ∧ wdsum 1 (l.take k) ≤ 40000000000000000 := by
  have hot := ho.take_ k
  obtain ⟨e0, e1⟩ := sall_dz _ _ rfl hot
  obtain ⟨h1, h2, h3, h4, h5, h6, _⟩ := sall_ok _ _ rfl hot
  have : (l.take k).length ≤ 30000 := by rw [List.length_take]; omega
  rw [e0] at h3 h4
  rw [e1] at h5 h6
  exact ⟨e0, e1, h3, by omega, h5, by omega⟩
theorem wdsum_bd {l : List I7} (ho : Okl l) (hl : l.length ≤ 30000) (k : Nat) (hk : k < 2) : 0 ≤ wdsum k l ∧ wdsum k l ≤ 40000000000000000 := by
  obtain ⟨_, _, h1, h2, h3, h4⟩ := wtake_sums ho hl l.length
  rw [List.take_length] at h1 h2 h3 h4
  rcases (by omega : k = 0 ∨ k = 1) with rfl | rfl
  · exact ⟨h1, h2⟩
  · exact ⟨h3, h4⟩
set_option maxHeartbeats 4000000 in
set_option maxRecDepth 100000 in
theorem wvOut_yes {p : Option Addr} {l : List I7} {h : Nat} {w : World} (ht : WvAt w p l h) (v b : Int) (hv : WvAsk 0 l v) (hb : b = 0 ∨ b = 1) :
    Calls Tryz.prog 64 #[.pointer p, .int .i64 v, .int .i64 b] w fun e w' => e = .returned (.tuple #[.int .i64 (woutP l v b), .int .i64 0]) ∧ Below w.heap.size w w' := by
  obtain ⟨q, hq, hk⟩ := wvkept ht
  obtain ⟨hol, hll⟩ := hq.okl
  have CK := Lib.hid (hk w (Below.refl _ _))
  have CS := Lib.hid (tfind_any q l h ((0 : Nat) : Int) v b w hq ((wv_ask hol (by omega) v b).2 ⟨hv, hb⟩))
  have HFI := Lib.hid (wfnd_is hol (show 0 < 2 by omega) v b)
  have HTS := Lib.hid (wtake_sums hol hll)
  have hvb := (wdsum_bd hol hll 0 (by omega)).2
  have hv1 := hv.1
  have hv2 := hv.2
  clear hk hq ht hv hb hol
  go_enter Tryz.func64, Tryz.ntmps64
  go_wp2_with fail
  refine CK.out.mono ?_
  rintro e w1 ⟨rfl, rfl⟩
  go_wp2_with fail
  refine CS.out.mono ?_
  rintro e w2 ⟨k, z, hf, hz1, hz2, rfl, b2⟩
  obtain rfl := hf.unique HFI.out
  obtain ⟨t1, t2, t3, t4, t5, t6⟩ := HTS.out (wfnd 0 l v b)
  have HOUT : Hid (woutP l v b = (sall (l.take (wfnd 0 l v b))).d1 + v - (sall (l.take (wfnd 0 l v b))).d0) := Lib.hid (by rw [t1, t2]; rfl)
  rw [← t1] at t3 t4
  rw [← t2] at t5 t6
  clear t1 t2 hf HFI HTS CS CK
  generalize wfnd 0 l v b = k at *
  generalize sall (l.take k) = s at *
  have w1' : IntKind.i64.wrap (s.d1 + v) = s.d1 + v := IntWalk.i64_in _ (by omega)
  have w2' : IntKind.i64.wrap (s.d1 + v - s.d0) = s.d1 + v - s.d0 := IntWalk.i64_in _ (by omega)
  have R3 : RawAt 116 (w2.alloc (.cells #[.int .i64 k, .int .i64 s.n, .int .i64 s.d0, .int .i64 s.d1, .int .i64 s.d2, .int .i64 s.mx, .int .i64 s.pl, .int .i64 z] 116)) w2.heap.size #[.int .i64 k, .int .i64 s.n, .int .i64 s.d0, .int .i64 s.d1, .int .i64 s.d2, .int .i64 s.mx, .int .i64 s.pl, .int .i64 z] := heap_alloc_new w2 _
  have x3 : Below w2.heap.size w2 (w2.alloc (.cells #[.int .i64 k, .int .i64 s.n, .int .i64 s.d0, .int .i64 s.d1, .int .i64 s.d2, .int .i64 s.mx, .int .i64 s.pl, .int .i64 z] 116)) := (Below.refl _ _).alloc (Nat.le_refl _) _
  have HB3 := Lib.hid (b2.trans (x3.mono b2.size))
  have c2 := RawAt.cell R3 2
  have c3 := RawAt.cell R3 3
  simp at c2 c3
  unfold vcs
  clear R3 x3
  go_wp2
  go_ret2
  exact ⟨by rw [HOUT.out]; rfl, HB3.out⟩
/-- A block whose cells are all written anew; a store of that kind in a drawn region. -/
theorem raw_row {t : TypeId} {w : World} {b : Nat} {cs : Array Value} (h : RawAt t w b cs) (vs : Array Value) : RawAt t (w.setRow b vs) b vs := setRow_heap w b cs vs t (0, 0) h
theorem raw_row_ne {t t' : TypeId} {w : World} {b b' : Nat} {cs cs' : Array Value} (h : RawAt t w b cs) (_h' : RawAt t' w b' cs') (hne : b ≠ b') (vs : Array Value) : RawAt t (w.setRow b' vs) b cs := (setRow_other w b' b vs hne).trans h
theorem step_store_row {P : Program} {w : World} {a : Act} {ops : Array Oper} {o : Oper} {Q : Exit → Act → World → Prop} {K : Act → World → Prop} {E : Prop} (hgd : o.guard = none) (ty : TypeId) (x y : Operand) (ho : o.op = .store ty x y)
    (g : Nat) (cells : Array Value) (hx : a.eval x = .pointer (some ⟨g, 0, none⟩)) (hy : a.eval y = .agg cells) {t : TypeId} {old : Array Value} (hg : RawAt t w g old) (hi : (P.info? ty).map (·.size) = some cells.size)
    (hold : old.size = cells.size) (h1 : cells.all (·.oneCell') = true) (h : K (a.put o.dst undef) (w.setRow g cells)) : if Region.wanted o (yielded ops a.tmps) = true then Oper.wp P o a w K Q else E := by
  have hw : Region.wanted o (yielded ops a.tmps) = true := by simp [Region.wanted, hgd]
  rw [if_pos hw]
  exact wp_store_row ty x y ho g cells hx hy t old hg hi hold h1 h
set_option linter.unusedVariables false
/-- An item at a place, or none: nothing then. -/
theorem wat_any (p : Option Addr) (l : List I7) (h k : Nat) (w : World) (ht : TP w p l h) : Calls Tryz.prog 59 #[.pointer p, .int .i64 k] w fun e w' => (∃ r : Int, e = .returned (.tuple #[.agg (ics (ith l k)), .int .i64 r])) ∧ Below w.heap.size w w' := by
  by_cases hk : k < l.length
  · exact (tat_any p l h k w ht hk).mono fun e w' ⟨h1, h2⟩ => ⟨⟨0, h1⟩, h2⟩
  · refine (tat_bad p l h (k : Int) w ht (by omega)).mono fun e w' ⟨h1, h2⟩ => ⟨⟨1, ?_⟩, h2⟩
    rw [h1, show ith l k = default from by simp [ith, List.getD, Nat.le_of_not_lt hk]]
    rfl
end Go.Proofs.YtjkmkobnfhepaaaGreat
