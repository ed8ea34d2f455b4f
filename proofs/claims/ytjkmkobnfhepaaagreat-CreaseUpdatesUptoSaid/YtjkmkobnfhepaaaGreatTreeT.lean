/- A node's items behind a row: the contract of tree.gather. A tree lies at an address; its small methods: root, Sum, Height, Items, At, spans, Sound. Methods of trees: Items, At, spans, Sound. Methods of trees: Height. -/
import Derived.Test.YtjkmkobnfhepaaaGreatTop
import Derived.Test.YtjkmkobnfhepaaaGreatTreeQ
import Derived.Test.YtjkmkobnfhepaaaGreatCutP
import Derived.Deep.RegionWith
namespace Go.Proofs.YtjkmkobnfhepaaaGreat
open Go.RowKit
set_option maxHeartbeats 4000000 in
set_option maxRecDepth 100000 in
theorem gather_nil (v : Value) (w : World) : Calls Tryz.prog 107 #[v, .nilIface] w fun e w' => e = .returned v ∧ w' = w := by
  have t1 := ta_nl
  have t2 := ta_nb
  go_enter Tryz.func107, Tryz.ntmps107
  go_wp2
  go_ret
  exact ⟨rfl, rfl⟩
set_option maxHeartbeats 4000000 in
set_option maxRecDepth 100000 in
theorem gather_leaf (k : Kd) (v : Value) (m base : Nat) (pre : List I7) (w0 w : World) (hk : NodeAt 1 w0 k) (hb : Below w0.heap.size w0 w) (h0 : w0.heap.size ≤ base) (h1 : base ≤ w.heap.size) (hown : w.ownsRow base 120 7 v m (iflat pre)) (hz : m + k.l.length ≤ 100000) :
    Calls Tryz.prog 107 #[v, k.v] w fun e w' => ∃ v', e = .returned v' ∧ w'.ownsRow base 120 7 v' (m + k.l.length) (iflat (pre ++ k.l)) ∧ Below w0.heap.size w0 w' ∧ w.heap.size ≤ w'.heap.size := by
  obtain ⟨b, A, c, q⟩ := hk
  have t1 := ta_ll
  have e0 := (raw_lcs (q.raw.below hb q.raw.lt)).1
  have HI := Lib.hid (q.its.below hb)
  have HC := Lib.hid q.caps
  have HL := Lib.hid q.len
  have hlen := q.len
  rw [q.v]
  have hz2 : m + k.c ≤ 100000 := by omega
  rw [hlen]
  clear q hlen hz
  unfold lfv at *
  go_enter Tryz.func107, Tryz.ntmps107
  go_wp2_with (at_builtin; refine wpList_append_items rfl (.tmp 13) (.tmp 17) rfl base v m (iflat pre) rfl hown A k.c c k.l rfl HI.out HC.out HL.out (by omega) h1 ?_; intro v4 w4 hown4 hg4)
  have hb4 : Below w0.heap.size w0 w4 := hb.grown hg4 hb.size (fun k hk => by have := (hown.lt k hk).1; omega)
  have hs4 := hg4.size
  rw [← iflat_append] at hown4
  have HO := Lib.hid hown4; clear hown4 hg4 hown
  go_wp2
  go_ret
  exact ⟨_, rfl, HO.out, hb4, hs4⟩
set_option maxHeartbeats 4000000 in
set_option maxRecDepth 100000 in
theorem gather_branch (h : Nat) (k : Kd) (v : Value) (m base : Nat) (pre : List I7) (w0 w : World) (hk : NodeAt (h + 2) w0 k) (hb : Below w0.heap.size w0 w) (_h0 : w0.heap.size ≤ base) (h1 : base ≤ w.heap.size) (hown : w.ownsRow base 120 7 v m (iflat pre)) (hz : m + k.l.length ≤ 100000)
    (IH : ∀ (j : Kd) (v : Value) (m : Nat) (pre : List I7) (w : World), NodeAt (h + 1) w0 j → Below w0.heap.size w0 w → base ≤ w.heap.size → w.ownsRow base 120 7 v m (iflat pre) → m + j.l.length ≤ 100000 →
      Calls Tryz.prog 107 #[v, j.v] w fun e w' => ∃ v', e = .returned v' ∧ w'.ownsRow base 120 7 v' (m + j.l.length) (iflat (pre ++ j.l)) ∧ Below w0.heap.size w0 w' ∧ w.heap.size ≤ w'.heap.size) :
    Calls Tryz.prog 107 #[v, k.v] w fun e w' => ∃ v', e = .returned v' ∧ w'.ownsRow base 120 7 v' (m + k.l.length) (iflat (pre ++ k.l)) ∧ Below w0.heap.size w0 w' ∧ w.heap.size ≤ w'.heap.size := by
  obtain ⟨b, A, c, ks, q, r⟩ := hk
  have t1 := ta_bl
  have t2 := ta_bb
  have e0 := (raw_bcs (q.raw.below hb q.raw.lt)).1
  have HA := Lib.hid q.kids
  have HL := Lib.hid q.len
  have HR := Lib.hid (show Row (h + 1) w0 ks from fun x hx => (r x hx).1)
  have HF := Lib.hid q.fl
  have hlen : m + (fl ks).length ≤ 100000 := by rw [q.fl]; exact hz
  rw [q.v, ← q.fl]
  have HI := Lib.hid IH
  have hws : w.heap.size ≤ w.heap.size := Nat.le_refl _
  have hn8 := q.most
  have HO := Lib.hid hown
  clear q r hz IH hown
  generalize k.c = n at *
  unfold brv at *
  go_enter Tryz.func107, Tryz.ntmps107
  go_wp2_with fail
  go_loopg [0, 27] n (fun g u i wr => ∃ j : Nat, i = .int .i64 j ∧ j ≤ n ∧ n - j ≤ g ∧ Below w0.heap.size w0 wr ∧ w.heap.size ≤ wr.heap.size ∧ Hid (wr.ownsRow base 120 7 u (m + (fl (ks.take j)).length) (iflat (pre ++ fl (ks.take j)))))
  case atStart => exact ⟨0, rfl, by omega, by omega, hb, hws, by simpa [fl] using HO⟩
  case round =>
    obtain ⟨j, rfl, g1, g2, hbr, hsr, hO⟩ := hrel
    by_cases hlt : j < n
    · have hm : j < ks.length := by rw [HL.out]; exact hlt
      obtain ⟨bA, off, rfl, hbA, hcell⟩ := HA.out (by rw [kvs_length]; omega)
      have eK := ((old_cells hbr).1 _ _ hbA).trans (hcell j (by rw [kvs_length]; exact hm))
      rw [vth_kvs ks hm] at eK
      clear hcell
      have hle : (fl (ks.take (j + 1))).length ≤ (fl ks).length := by
        have e : fl ks = fl (ks.take (j + 1)) ++ fl (ks.drop (j + 1)) := by rw [← fl_append, List.take_append_drop]
        rw [e, List.length_append]
        omega
      have HT := Lib.hid (fl_take ks hm)
      rw [HT.out, List.length_append] at hle
      have CK := Lib.hid (HI.out (kth ks j) _ _ _ wr (HR.out _ (kth_mem ks hm)) hbr (by omega) hO.out (by omega))
      go_wp2_with fail
      refine CK.out.mono ?_
      rintro e w2 ⟨v2, rfl, hO2, hb2, hs2⟩
      have HO2 := Lib.hid hO2; clear hO2
      go_wp2_with fail
      go_roundg (gk - 1)
      case measure => omega
      case rel => exact ⟨j + 1, by go_num, by omega, by omega, hb2, by omega, by rw [HT.out, List.length_append, ← List.append_assoc, ← Nat.add_assoc]; exact HO2⟩
    · have e1 : ks.take j = ks := List.take_of_length_le (by rw [HL.out]; omega)
      rw [e1] at hO
      go_wp2_with fail
      go_ret
      exact ⟨_, rfl, hO.out, hbr, hsr⟩
theorem gather_node : ∀ (h : Nat) (k : Kd) (v : Value) (m base : Nat) (pre : List I7) (w0 w : World), NodeAt h w0 k → Below w0.heap.size w0 w → w0.heap.size ≤ base → base ≤ w.heap.size → w.ownsRow base 120 7 v m (iflat pre) → m + k.l.length ≤ 100000 →
    Calls Tryz.prog 107 #[v, k.v] w fun e w' => ∃ v', e = .returned v' ∧ w'.ownsRow base 120 7 v' (m + k.l.length) (iflat (pre ++ k.l)) ∧ Below w0.heap.size w0 w' ∧ w.heap.size ≤ w'.heap.size := by
  intro h
  induction h with
  | zero => intro k v m base pre w0 w hk; exact hk.elim
  | succ h ih =>
    intro k v m base pre w0 w hk hb h0 h1 hown hz
    match h, hk, ih with
    | 0, hk, _ => exact gather_leaf k v m base pre w0 w hk hb h0 h1 hown hz
    | h + 1, hk, ih => exact gather_branch h k v m base pre w0 w hk hb h0 h1 hown hz (fun j v m pre w a1 a2 a3 a4 a5 => ih j v m base pre w0 w a1 a2 h0 a3 a4 a5)
theorem gather_any (u : Value) (l : List I7) (h : Nat) (v : Value) (base : Nat) (w0 w : World) (ht : Top w0 u l h) (hb : Below w0.heap.size w0 w) (h0 : w0.heap.size ≤ base) (h1 : base ≤ w.heap.size) (hown : w.ownsRow base 120 7 v 0 []) (hz : l.length ≤ 100000) :
    Calls Tryz.prog 107 #[v, u] w fun e w' => ∃ A c, e = .returned (.slice A l.length c) ∧ Below w0.heap.size w0 w' ∧ ItsAt w' A l ∧ Caps A l.length c := by
  have key : Calls Tryz.prog 107 #[v, u] w fun e w' => ∃ v', e = .returned v' ∧ w'.ownsRow base 120 7 v' l.length (iflat l) ∧ Below w0.heap.size w0 w' := by
    rcases ht with ⟨rfl, rfl, rfl⟩ | ⟨c, hk, _⟩
    · refine (gather_nil v w).mono ?_
      rintro e w' ⟨rfl, rfl⟩
      exact ⟨_, rfl, hown, hb⟩
    · refine (gather_node h ⟨u, l, c⟩ v 0 base [] w0 w hk hb h0 h1 hown (by simpa using hz)).mono ?_
      rintro e w' ⟨v', rfl, hO, hb', _⟩
      refine ⟨v', rfl, ?_, hb'⟩
      simpa using hO
  refine key.mono ?_
  rintro e w' ⟨v', rfl, hO, hb'⟩
  obtain ⟨A, c, rfl, h2, _, h4⟩ := its_of_own hO
  exact ⟨A, c, rfl, hb', h2, h4⟩
/-- A tree's address, or none. -/
def TP (w : World) (p : Option Addr) (l : List I7) (h : Nat) : Prop :=
  (p = none ∧ l = [] ∧ h = 0) ∨ (∃ b v, p = some ⟨b, 0, none⟩ ∧ RawAt 135 w b #[v] ∧ Top w v l h ∧ Okl l ∧ l.length ≤ 30000)
theorem TP.below {w w' : World} {p : Option Addr} {l : List I7} {h : Nat} (ht : TP w p l h) (hb : Below w.heap.size w w') : TP w' p l h := by
  rcases ht with h1 | ⟨b, v, h1, h2, h3, h4⟩
  · exact .inl h1
  · exact .inr ⟨b, v, h1, h2.below hb h2.lt, h3.below hb, h4⟩
theorem TP.okl {w : World} {p : Option Addr} {l : List I7} {h : Nat} (ht : TP w p l h) : Okl l ∧ l.length ≤ 30000 := by
  rcases ht with ⟨_, rfl, _⟩ | ⟨b, v, h1, h2, h3, h4, h5⟩
  · exact ⟨fun i hi => absurd hi (by simp), by simp⟩
  · exact ⟨h4, h5⟩
theorem root_any (p : Option Addr) (l : List I7) (h : Nat) (w : World) (ht : TP w p l h) :
    Calls Tryz.prog 75 #[.pointer p] w fun e w' => ∃ v, e = .returned v ∧ Top w v l h ∧ w' = w := by
  rcases ht with ⟨rfl, rfl, rfl⟩ | ⟨b, v, rfl, h2, h3, _⟩
  · have HX : Hid (Top w .nilIface [] 0) := .inl ⟨rfl, rfl, rfl⟩
    go_enter Tryz.func75, Tryz.ntmps75
    go_wp2
    go_ret
    exact ⟨_, rfl, HX.out, rfl⟩
  · have HX := Lib.hid h3
    have e0 : w.cell? ⟨b, 0, none⟩ = some v := RawAt.cell h2 0
    clear h3 h2
    go_enter Tryz.func75, Tryz.ntmps75
    go_wp2
    go_ret
    exact ⟨_, rfl, HX.out, rfl⟩
theorem Top.sumK {w : World} {v : Value} {l : List I7} {h : Nat} (ht : Top w v l h) (c : Nat) : SumK w ⟨v, l, c⟩ := by
  rcases ht with ⟨_, rfl, rfl⟩ | ⟨c', hk, _⟩
  · exact ⟨fun i hi => absurd hi (by simp), .inl ⟨rfl, rfl⟩⟩
  · exact hk.sumK
theorem Top.one {w : World} {v : Value} {l : List I7} {h : Nat} (ht : Top w v l h) : v = .nilIface ∨ ∃ t x, v = .iface t x := by
  rcases ht with ⟨_, rfl, rfl⟩ | ⟨c', hk, _⟩
  · exact .inl rfl
  · exact .inr hk.ifc
theorem raw_six' {t : TypeId} {w : World} {b : Nat} {a0 a1 a2 a3 a4 a5 : Value} (h : RawAt t w b #[a0, a1, a2, a3, a4, a5]) : w.cell? ⟨b, 0, none⟩ = some a0 ∧ w.cell? ⟨b, 1, none⟩ = some a1 ∧ w.cell? ⟨b, 2, none⟩ = some a2 ∧ w.cell? ⟨b, 3, none⟩ = some a3 ∧ w.cell? ⟨b, 4, none⟩ = some a4 ∧ w.cell? ⟨b, 5, none⟩ = some a5 :=
  ⟨RawAt.cell h 0, RawAt.cell h 1, RawAt.cell h 2, RawAt.cell h 3, RawAt.cell h 4, RawAt.cell h 5⟩
theorem one_vs {w : World} {b : Nat} {x : Value} {t : TypeId} (h : w.heap[b]? = some (.cells #[x] t (0, 0))) : VsAt w (some ⟨b, 0, none⟩) [x] := by
  intro _
  refine ⟨b, 0, rfl, block_lt h, fun k hk => ?_⟩
  rw [cell_of_row w b _ _ _ _ h, Nat.zero_add]
  obtain rfl : k = 0 := by simpa using hk
  rfl
set_option maxHeartbeats 4000000 in
set_option maxRecDepth 100000 in
theorem tsum_any (p : Option Addr) (l : List I7) (h : Nat) (w : World) (ht : TP w p l h) :
    Calls Tryz.prog 66 #[.pointer p] w fun e w' => e = .returned (.agg (scs (sall l))) ∧ Below w.heap.size w w' := by
  have hb1 : Below w.heap.size w (w.alloc (.cells (scs s0) 114)) := (Below.refl _ _).alloc (Nat.le_refl _) _
  have r1 : RawAt 114 (w.alloc (.cells (scs s0) 114)) w.heap.size (scs s0) := heap_alloc_new w _
  have hs1 : (w.alloc (.cells (scs s0) 114)).heap.size = w.heap.size + 1 := by simp
  have C1 := root_any p l h _ (ht.below hb1)
  obtain ⟨ho, hz⟩ := ht.okl
  clear ht
  unfold scs s0 at hb1 r1 C1 hs1
  obtain ⟨W1, hW1⟩ : ∃ W1, W1 = w.alloc (.cells #[.int .i64 0, .int .i64 0, .int .i64 0, .int .i64 0, .int .i64 0, .int .i64 0] 114) := ⟨_, rfl⟩
  rw [← hW1] at hb1 r1 C1 hs1
  have HR1 := Lib.hid r1; clear r1
  have HS1 := Lib.hid hs1; clear hs1
  have HC1 := Lib.hid C1; clear C1
  have HO := Lib.hid ho; clear ho
  go_enter Tryz.func66, Tryz.ntmps66
  go_wp2_with fail
  rw [← hW1]
  clear hW1
  refine HC1.out.mono ?_
  rintro e w1 ⟨v, rfl, hT, rfl⟩
  have hbv : Below w1.heap.size w1 (w1.alloc (.cells #[v] 132)) := (Below.refl _ _).alloc (Nat.le_refl _) _
  have CS := Lib.hid (sumOf_any (some ⟨w1.heap.size, 0, none⟩) 1 1 [⟨v, l, 1⟩] (w1.alloc (.cells #[v] 132)) (one_vs (heap_alloc_new w1 _)) rfl (by omega) (fun k hk => by rw [List.mem_singleton.1 hk]; exact (hT.sumK 1).below hbv) (by simp [fl]; omega))
  rw [fl_one] at CS
  unfold scs at CS
  have hv := hT.one
  clear hT
  generalize hs : sall l = s at *
  have HSS := Lib.hid hs; clear hs
  rcases hv with rfl | ⟨t, x, rfl⟩
  all_goals
    go_wp2_with fail
    refine CS.out.mono ?_
    rintro e w2 ⟨rfl, hb2⟩
    have a2 : Below w.heap.size w w2 := (hb1.trans (hbv.mono hb1.size)).trans (hb2.mono (by simp; have := hb1.size; omega))
    have r2 := (HR1.out.below hbv HR1.out.lt).below hb2 (by simp; have := HS1.out; omega)
    have f0 := r2.free 0
    have f1 := r2.free 1
    have f2 := r2.free 2
    have f3 := r2.free 3
    have f4 := r2.free 4
    have f5 := r2.free 5
    obtain ⟨c0, c1, c2, c3, c4, c5⟩ := raw_six' r2
    go_wp2
    refine bodyPost_ret (v := .agg #[.int .i64 s.n, .int .i64 s.d0, .int .i64 s.d1, .int .i64 s.d2, .int .i64 s.mx, .int .i64 s.pl]) (by simp [results, Tryz.results66, go_sem, c0, c1, c2, c3, c4, c5]) rfl ⟨by rw [HSS.out]; rfl, ?_⟩
    (repeat' (first | (with_reducible exact a2) | (with_reducible refine Below.setCell ?_ ?_ _) | (with_reducible refine Below.drew ?_))) <;> first | exact Nat.le_refl _ | (simp; done) | (simp; omega)
theorem tsum_n (p : Option Addr) (l : List I7) (h : Nat) (w : World) (ht : TP w p l h) :
    Calls Tryz.prog 66 #[.pointer p] w fun e w' => e = .returned (.agg #[.int .i64 l.length, .int .i64 (sall l).d0, .int .i64 (sall l).d1, .int .i64 (sall l).d2, .int .i64 (sall l).mx, .int .i64 (sall l).pl]) ∧ Below w.heap.size w w' := by
  have := tsum_any p l h w ht
  unfold scs at this
  rwa [sall_n _ ht.okl.1] at this
theorem root_nil (w : World) : Calls Tryz.prog 75 #[.pointer none] w fun e w' => e = .returned .nilIface ∧ w' = w := by
  go_enter Tryz.func75, Tryz.ntmps75
  go_wp2
  go_ret
  exact ⟨rfl, rfl⟩
theorem root_some (b : Nat) (v : Value) (w : World) (e0 : w.cell? ⟨b, 0, none⟩ = some v) : Calls Tryz.prog 75 #[.pointer (some ⟨b, 0, none⟩)] w fun e w' => e = .returned v ∧ w' = w := by
  go_enter Tryz.func75, Tryz.ntmps75
  go_wp2
  go_ret
  exact ⟨rfl, rfl⟩
theorem root_fix {p : Option Addr} {l : List I7} {h : Nat} {w : World} (ht : TP w p l h) : ∃ v, Top w v l h ∧ ∀ W, Below w.heap.size w W → Calls Tryz.prog 75 #[.pointer p] W fun e w' => e = .returned v ∧ w' = W := by
  rcases ht with ⟨rfl, rfl, rfl⟩ | ⟨b, v, rfl, h2, h3, _⟩
  · exact ⟨_, .inl ⟨rfl, rfl, rfl⟩, fun W _ => root_nil W⟩
  · exact ⟨v, h3, fun W hW => root_some b v W (RawAt.cell (h2.below hW h2.lt) 0)⟩
theorem make_items (N : Nat) (hN : N ≤ 1000000) : ∃ M : Array Value, M.size = N * 7 ∧ ∀ W : World, (Instr.makeSlice 77 (.int .i64 0) (.int .i64 N)).run Tryz.prog W = .ok (.slice (some ⟨W.heap.size, 0, none⟩) 0 N) (W.alloc (.cells M 120)) := by
  obtain ⟨i0, hi0, hz0, hz1, hz2⟩ := info_parts item_info
  refine ⟨madeCells (Value.agg #[.int .i64 0, .int .i64 0, .int .i64 0, .int .i64 0, .int .i64 0, .int .i64 0, .string ⟨#[]⟩]).cells (N * i0.size), by rw [size_madeCells, hz1], fun W => ?_⟩
  have := run_make (P := Tryz.prog) W 77 120 i0 _ Tryz.underlying77 hi0 hz0 .i64 .i64 0 (N : Int) (by omega) (by omega) (by rw [hz2]; omega) (by omega)
  simpa only [Int.toNat_zero, Int.toNat_natCast] using this
theorem own_make (w : World) (N : Nat) (hN : N ≤ 1000000) (M : Array Value) (hM : M.size = N * 7) : (w.alloc (.cells M 120)).ownsRow w.heap.size 120 7 (.slice (some ⟨w.heap.size, 0, none⟩) 0 N) 0 [] :=
  ⟨by simp, .inr ⟨w.heap.size, N, _, rfl, Nat.le_refl _, heap_alloc_new w _, Nat.zero_le _, by unfold maxLen; omega, hM, by simp⟩⟩
set_option maxHeartbeats 4000000 in
set_option maxRecDepth 100000 in
theorem titems_any (p : Option Addr) (l : List I7) (h : Nat) (w : World) (ht : TP w p l h) :
    Calls Tryz.prog 77 #[.pointer p] w fun e w' => ∃ A c, e = .returned (.slice A l.length c) ∧ Below w.heap.size w w' ∧ ItsAt w' A l ∧ Caps A l.length c := by
  have C1 := Lib.hid fun (W : World) (hW : Below w.heap.size w W) => tsum_n p l h W (ht.below hW)
  obtain ⟨v, hT, hroot⟩ := root_fix ht
  have C2 := Lib.hid hroot
  have HT := Lib.hid hT
  obtain ⟨ho, hz⟩ := ht.okl
  have tf := fld_n
  clear hroot hT ht ho
  have C3 := Lib.hid fun (u : Value) (W : World) (base : Nat) (hb : Below w.heap.size w W) (h0 : w.heap.size ≤ base) (h1 : base ≤ W.heap.size) (hown : W.ownsRow base 120 7 u 0 []) => gather_any v l h u base w W HT.out hb h0 h1 hown (by omega)
  generalize hN : l.length = N at *
  clear hN
  obtain ⟨M, hM, mk⟩ := make_items N (by omega)
  go_enter Tryz.func77, Tryz.ntmps77
  go_wp2_with fail
  have hW2 : Below w.heap.size w w.drew := (Below.refl _ _).drew
  go_region_with (first
    | (go_at_call 66; ((with_reducible refine (C1.out _ hW2).mono ?_); rintro e w1 ⟨rfl, hb1⟩); have hW2 := hW2.trans (hb1.mono hW2.size); have hA0 := hW2.alloc hW2.size (.cells M 120))
    | (go_at_call 75; ((with_reducible refine (C2.out _ (by first | (with_reducible exact hW2) | (with_reducible exact hA0))).mono ?_); rintro e w2 ⟨rfl, hw2⟩); have hw2 := hw2.symm; subst hw2)
    | (go_at_call 107; ((with_reducible refine (C3.out _ _ w1.heap.size hA0 hW2.size (by simp) (own_make w1 N (by omega) M hM)).mono ?_); rintro e w3 ⟨A3, c3, rfl, hb3, hI3, hC3⟩)))
  all_goals
    have HI3 := Lib.hid hI3
    have HC3 := Lib.hid hC3
    clear hI3 hC3
    go_wp2
    go_ret
    exact ⟨A3, c3, rfl, hb3, HI3.out, HC3.out⟩
set_option maxHeartbeats 4000000 in
set_option maxRecDepth 100000 in
theorem spans_any (p : Option Addr) (l : List I7) (h : Nat) (x y : Int) (w : World) (ht : TP w p l h) (sb : Bool) (hsb : sb = true ↔ 0 ≤ x ∧ x ≤ y ∧ y ≤ l.length) :
    Calls Tryz.prog 73 #[.pointer p, .int .i64 x, .int .i64 y] w fun e w' => e = .returned (.bool sb) ∧ Below w.heap.size w w' := by
  have C1 := Lib.hid (tsum_n p l h w ht)
  have tf := fld_n
  have HF := Lib.hid hsb; clear hsb
  clear ht
  by_cases g1 : x < 0
  · have HX := Lib.hid (ab_no HF.out (fun h => by omega))
    go_enter Tryz.func73, Tryz.ntmps73
    go_wp2_with fail
    go_ret
    exact ⟨ret_bool HX.out, Below.refl _ _⟩
  · by_cases g2 : y < x
    · have HX := Lib.hid (ab_no HF.out (fun h => by omega))
      go_enter Tryz.func73, Tryz.ntmps73
      go_wp2_with fail
      go_ret
      exact ⟨ret_bool HX.out, Below.refl _ _⟩
    · by_cases g3 : y ≤ l.length
      · have HX := Lib.hid (ab_yes HF.out ⟨by omega, by omega, g3⟩)
        go_enter Tryz.func73, Tryz.ntmps73
        go_wp2_with fail
        refine C1.out.mono ?_
        rintro e w1 ⟨rfl, hb1⟩
        go_wp2_with fail
        go_ret
        exact ⟨ret_bool (by simpa using HX.out), hb1⟩
      · have HX := Lib.hid (ab_no HF.out (fun h => by omega))
        go_enter Tryz.func73, Tryz.ntmps73
        go_wp2_with fail
        refine C1.out.mono ?_
        rintro e w1 ⟨rfl, hb1⟩
        go_wp2_with fail
        go_ret
        exact ⟨ret_bool (by first | exact HX.out | exact (decide_eq_false (by omega)).trans HX.out), hb1⟩
set_option maxHeartbeats 4000000 in
set_option maxRecDepth 100000 in
theorem theight_any (p : Option Addr) (l : List I7) (h : Nat) (w : World) (ht : TP w p l h) :
    Calls Tryz.prog 60 #[.pointer p] w fun e w' => e = .returned (.int .i64 h) ∧ Below w.heap.size w w' := by
  have C1 := Lib.hid (root_any p l h w ht)
  go_enter Tryz.func60, Tryz.ntmps60
  go_wp2_with fail
  refine C1.out.mono ?_
  rintro e w1 ⟨v, rfl, hT, rfl⟩
  have C2 : Hid (Calls Tryz.prog 95 #[v] w1 fun e w' => e = .returned (.int .i64 h) ∧ w' = w1) := by
    rcases hT with ⟨rfl, rfl, rfl⟩ | ⟨c, hk, _⟩
    · exact heightOf_nil w1
    · exact heightOf_any h w1 ⟨v, l, c⟩ hk
  go_wp2_with fail
  refine C2.out.mono ?_
  rintro e w2 ⟨rfl, rfl⟩
  go_wp2
  go_ret
  exact ⟨rfl, Below.refl _ _⟩
end Go.Proofs.YtjkmkobnfhepaaaGreat
