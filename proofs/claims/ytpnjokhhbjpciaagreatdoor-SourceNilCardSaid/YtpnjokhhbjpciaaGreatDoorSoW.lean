/- Source: a line's parts in memory, told by the blocks in which they lie. Source: virt: an inlay as a part. Source: plain: a rune of the buffer behind parts. -/
import Derived.Test.YtpnjokhhbjpciaaGreatDoorSep
import Derived.Test.YtpnjokhhbjpciaaGreatDoorSoT
import Derived.Test.YtpnjokhhbjpciaaGreatDoorPtv
import Derived.Test.YtpnjokhhbjpciaaGreatDoorStoR
import Derived.Test.YtpnjokhhbjpciaaGreatDoorSoD
import Derived.Deep.RegionLaw
namespace Go.Proofs.YtpnjokhhbjpciaaGreatDoor
section
open Go.RowKit Go.Shelf
set_option linter.unusedVariables false
/-- A part without its memory. -/
def ptP (s : PtV) : Pt := ⟨s.k, s.p, s.rs⟩
/-- A part's runes. -/
abbrev rnV (s : PtV) : Value := .slice s.A s.n s.c
/-- Parts in memory: each has a row of its own. -/
structure PrAt (S : Bk) (W : World) (v : Value) (ps : List PtV) : Prop where
  row : W.ownsRow 0 78 3 v ps.length (kfl ptcs ps)
  rns : ∀ s ∈ ps, W.ownsRow 0 21 1 (rnV s) s.n (s.rs.map (.int .i32))
  dis : ps.Pairwise fun a b => ∀ k, (rnV a).ownBlock = some k → (rnV b).ownBlock ≠ some k
  inS : ∀ k, v.ownBlock = some k → S k
  inR : ∀ s ∈ ps, ∀ k, (rnV s).ownBlock = some k → S k
theorem PrAt.nil (S : Bk) (W : World) : PrAt S W (.slice none 0 0) [] :=
  ⟨World.ownsRow_nil _ _ _ _, fun s h => (by cases h), List.Pairwise.nil, fun k h => (by cases h), fun s h => (by cases h)⟩
theorem PrAt.grow {S S' : Bk} {W : World} {v : Value} {ps : List PtV} (h : PrAt S W v ps) (hs : ∀ k, S k → S' k) : PrAt S' W v ps :=
  ⟨h.row, h.rns, h.dis, fun k hk => hs k (h.inS k hk), fun s hsm k hk => hs k (h.inR s hsm k hk)⟩
theorem PrAt.same {S : Bk} {W W' : World} {v : Value} {ps : List PtV} (h : PrAt S W v ps) (hs : ∀ k, S k → W'.heap[k]? = W.heap[k]?) : PrAt S W' v ps :=
  ⟨own_same h.row (fun k hk => hs k (h.inS k hk)), fun s hsm => own_same (h.rns s hsm) (fun k hk => hs k (h.inR s hsm k hk)), h.dis, h.inS, h.inR⟩
/-- The blocks of parts. -/
def prB (v : Value) (ps : List PtV) : Bk := fun k => v.ownBlock = some k ∨ ∃ s ∈ ps, (rnV s).ownBlock = some k
theorem PrAt.tight {S : Bk} {W : World} {v : Value} {ps : List PtV} (h : PrAt S W v ps) : PrAt (prB v ps) W v ps :=
  ⟨h.row, h.rns, h.dis, fun k hk => .inl hk, fun s hsm k hk => .inr ⟨s, hsm, hk⟩⟩
theorem PrAt.sub {S : Bk} {W : World} {v : Value} {ps : List PtV} (h : PrAt S W v ps) : ∀ k, prB v ps k → S k := by
  rintro k (hk | ⟨s, hs, hk⟩)
  · exact h.inS k hk
  · exact h.inR s hs k hk
theorem PrAt.same' {S : Bk} {W W' : World} {v : Value} {ps : List PtV} (h : PrAt S W v ps) (hs : ∀ k, prB v ps k → W'.heap[k]? = W.heap[k]?) : PrAt S W' v ps := (h.tight.same hs).grow h.sub
theorem PrAt.lt {S : Bk} {W : World} {v : Value} {ps : List PtV} (h : PrAt S W v ps) : ∀ k, prB v ps k → k < W.heap.size := by
  rintro k (hk | ⟨s, hs, hk⟩)
  · exact (own_lt h.row hk).2.1
  · exact (own_lt (h.rns s hs) hk).2.1
/-- Which kinds of blocks parts lie in. -/
theorem PrAt.kind {S : Bk} {W : World} {v : Value} {ps : List PtV} (h : PrAt S W v ps) : ∀ k, prB v ps k → ∃ cur : Array Value, W.heap[k]? = some (Obj.cells cur 78 (0, 0)) ∨ W.heap[k]? = some (Obj.cells cur 21 (0, 0)) := by
  rintro k (hk | ⟨s, hs, hk⟩)
  · obtain ⟨_, _, cur, hc⟩ := own_lt h.row hk
    exact ⟨cur, .inl hc⟩
  · obtain ⟨_, _, cur, hc⟩ := own_lt (h.rns s hs) hk
    exact ⟨cur, .inr hc⟩
theorem PrAt.len {S : Bk} {W : World} {v : Value} {ps : List PtV} (h : PrAt S W v ps) : ∃ A c, v = .slice A ps.length c := own_form h.row
theorem PrAt.rlen {S : Bk} {W : World} {v : Value} {ps : List PtV} (h : PrAt S W v ps) : ∀ s ∈ ps, s.rs.length = s.n := fun s hs => by
  have := (h.rns s hs).1
  simpa using this
theorem ptcs_len (s : PtV) : (ptcs s).length = 3 := rfl
theorem ptcs_one (s : PtV) : ∀ v ∈ ptcs s, v.oneCell' = true := by intro v hv; simp [ptcs] at hv; rcases hv with rfl | rfl | rfl <;> rfl
/-- One part more, of which the runes lie elsewhere. -/
theorem PrAt.snoc {S : Bk} {W W' : World} {v v' : Value} {ps : List PtV} {s : PtV} (h : PrAt S W v ps) (hrow : W'.ownsRow 0 78 3 v' (ps.length + 1) (kfl ptcs ps ++ kfl ptcs [s]))
    (hg : W.grownBy W' v.ownBlock) (hs : W.ownsRow 0 21 1 (rnV s) s.n (s.rs.map (.int .i32))) (hn : ∀ k, (rnV s).ownBlock = some k → ¬ prB v ps k) : PrAt (fun k => S k ∨ v'.ownBlock = some k ∨ (rnV s).ownBlock = some k) W' v' (ps ++ [s]) := by
  have keep : ∀ k : Nat, (∃ cur : Array Value, W.heap[k]? = some (Obj.cells cur 21 (0, 0))) → W'.heap[k]? = W.heap[k]? := by
    rintro k ⟨cur, hc⟩
    refine hg.block k (Array.getElem?_eq_some_iff.1 hc).1 (fun e => ?_)
    obtain ⟨_, _, cur', hc'⟩ := own_lt h.row e.symm
    rw [hc] at hc'
    simp at hc'
  refine ⟨?_, ?_, ?_, ?_, ?_⟩
  · rw [List.length_append, kfl_append]; exact hrow
  · intro x hx
    rcases List.mem_append.1 hx with hx | hx
    · exact own_same (h.rns x hx) (fun k hk => keep k (own_lt (h.rns x hx) hk).2.2)
    · rw [List.mem_singleton.1 hx]; exact own_same hs (fun k hk => keep k (own_lt hs hk).2.2)
  · rw [List.pairwise_append]
    refine ⟨h.dis, List.pairwise_singleton _ _, fun a ha b hb' k hk e => ?_⟩
    rw [List.mem_singleton.1 hb'] at e
    exact hn k e (.inr ⟨a, ha, hk⟩)
  · intro k hk
    exact .inr (.inl hk)
  · intro x hx k hk
    rcases List.mem_append.1 hx with hx | hx
    · exact .inl (h.inR x hx k hk)
    · rw [List.mem_singleton.1 hx] at hk; exact .inr (.inr hk)
/-- The last part has a rune more. -/
theorem PrAt.last {S : Bk} {W W1 W2 : World} {v : Value} {ps : List PtV} {s : PtV} {A' : Option Addr} {c' : Nat} {r : Int} (h : PrAt S W v (ps ++ [s])) (hr : W1.ownsRow 0 21 1 (.slice A' (s.n + 1) c') (s.n + 1) ((s.rs ++ [r]).map (.int .i32)))
    (hb : (Value.slice A' (s.n + 1) c').ownBlock = (rnV s).ownBlock ∨ ∃ k, (Value.slice A' (s.n + 1) c').ownBlock = some k ∧ W.heap.size ≤ k) (hk1 : ∀ k, k < W.heap.size → (rnV s).ownBlock ≠ some k → W1.heap[k]? = W.heap[k]?)
    (hrow : W2.ownsRow 0 78 3 v (ps.length + 1) (kfl ptcs (ps ++ [⟨s.k, s.p, A', s.n + 1, c', s.rs ++ [r]⟩]))) (hk2 : ∀ k, v.ownBlock ≠ some k → W2.heap[k]? = W1.heap[k]?) : PrAt (fun k => S k ∨ (Value.slice A' (s.n + 1) c').ownBlock = some k) W2 v (ps ++ [⟨s.k, s.p, A', s.n + 1, c', s.rs ++ [r]⟩]) := by
  have hdis := List.pairwise_append.1 h.dis
  have ty : ∀ k : Nat, (∃ cur : Array Value, W1.heap[k]? = some (Obj.cells cur 21 (0, 0))) → v.ownBlock ≠ some k := by
    rintro k ⟨cur, hc⟩ e
    obtain ⟨_, hlt, cur', hc'⟩ := own_lt h.row e
    have hne : (rnV s).ownBlock ≠ some k := fun e2 => by
      obtain ⟨_, _, cur2, hc2⟩ := own_lt (h.rns s (by simp)) e2
      rw [hc'] at hc2
      simp at hc2
    rw [hk1 k hlt hne, hc'] at hc
    simp at hc
  refine ⟨by simpa using hrow, ?_, ?_, fun k hk => .inl (h.inS k hk), ?_⟩
  · intro x hx
    rcases List.mem_append.1 hx with hx | hx
    · have h1 := h.rns x (List.mem_append_left _ hx)
      have h2 : W1.ownsRow 0 21 1 (rnV x) x.n (x.rs.map (.int .i32)) := own_same h1 (fun k hk => hk1 k (own_lt h1 hk).2.1 (fun e => hdis.2.2 x hx s (by simp) k hk e))
      exact own_same h2 (fun k hk => hk2 k (ty k (own_lt h2 hk).2.2))
    · rw [List.mem_singleton.1 hx]
      exact own_same hr (fun k hk => hk2 k (ty k (own_lt hr hk).2.2))
  · rw [List.pairwise_append]
    refine ⟨hdis.1, List.pairwise_singleton _ _, fun a ha b hb' k hk e => ?_⟩
    rw [List.mem_singleton.1 hb'] at e
    rcases hb with hb | ⟨k', hb, hk'⟩
    · exact hdis.2.2 a ha s (by simp) k hk (by rw [← hb]; exact e)
    · have e' : (Value.slice A' (s.n + 1) c').ownBlock = some k := e
      rw [hb] at e'
      injection e' with e'
      have := (own_lt (h.rns a (List.mem_append_left _ ha)) hk).2.1
      omega
  · intro x hx k hk
    rcases List.mem_append.1 hx with hx | hx
    · exact .inl (h.inR x (List.mem_append_left _ hx) k hk)
    · rw [List.mem_singleton.1 hx] at hk; exact .inr hk
end
section
open Go.RowKit
set_option linter.unusedVariables false
theorem below_setRowN {n g : Nat} (h : n ≤ g) (w : World) (cs : Array Value) : Below n w (w.setRow g cs) :=
  ⟨rfl, rfl, rfl, by simp [World.setRow], fun k hk => setRow_other _ _ _ _ (by omega)⟩
set_option maxHeartbeats 4000000 in
set_option maxRecDepth 100000 in
theorem soVirt (id pl bi ky : Int) (tx : ByteArray) (hs : tx.size ≤ 1000000000) (w : World) :
    Calls Tryz.prog 57 #[.agg #[.int .i64 id, .int .i64 pl, .int .i64 bi, .int .i64 ky, .string tx]] w fun e w' => ∃ A c, e = .returned (.agg #[.int .i64 2, .int .i64 pl, .slice A (dec tx).length c]) ∧ Below w.heap.size w w' ∧ w'.ownsRow w.heap.size 21 1 (.slice A (dec tx).length c) (dec tx).length ((dec tx).map (.int .i32)) := by
  have CD := Lib.hid fun (V : World) => decode_own tx V hs
  obtain ⟨W0, hW0⟩ : ∃ W0, W0 = (w.alloc (.cells #[.int .i64 id, .int .i64 pl, .int .i64 bi, .int .i64 ky, .string tx] 63)).alloc (.cells #[.int .i64 0, .int .i64 0, .slice none 0 0] 78) := ⟨_, rfl⟩
  have HW0 := Lib.hid hW0
  have HB0 : Hid (Below w.heap.size w W0) := Lib.hid (by rw [hW0]; exact ((Below.refl _ _).alloc (Nat.le_refl _) _).alloc (by simp) _)
  have HR0 : Hid (RawAt 63 W0.drew w.heap.size #[.int .i64 id, .int .i64 pl, .int .i64 bi, .int .i64 ky, .string tx]) := Lib.hid (by rw [hW0]; exact (new2 w _ _ _ _).1)
  have HP0 : Hid (RawAt 78 W0.drew (w.heap.size + 1) #[.int .i64 0, .int .i64 0, .slice none 0 0]) := Lib.hid (by rw [hW0]; exact (new2 w _ _ _ _).2.1)
  have MK : Hid (∀ V : World, RawAt 63 V w.heap.size #[.int .i64 id, .int .i64 pl, .int .i64 bi, .int .i64 ky, .string tx] → (fun V => V.cell? ⟨w.heap.size, 1, none⟩ = some (.int .i64 pl) ∧ V.cell? ⟨w.heap.size, 4, none⟩ = some (.string tx)) V) := Lib.hid fun V h => ⟨h.cell 1, h.cell 4⟩
  clear hW0
  go_enter Tryz.func57, Tryz.ntmps57
  go_wp2_with fail
  rw [← HW0.out]
  refine wp_region_noPanic ?_
  refine wp_region_held_drew (S := (fun V => V.cell? ⟨w.heap.size, 1, none⟩ = some (.int .i64 pl) ∧ V.cell? ⟨w.heap.size, 4, none⟩ = some (.string tx))) (by kernel_rfl) (MK.out _ HR0.out) (fun hHeld => ?_)
  refine wpAnyH_take (i := 0) (v := ?_) rfl (by kernel_rfl) (by kernel_rfl) (by kernel_rfl) (fun _ _ _ h => h) (Or.inl ⟨by rfl, ?_⟩) hHeld ?_
  rotate_left
  · intro w hSw
    (try dsimp only at hSw)
    go_simp
    try with_reducible rfl
  go_simp
  refine wpAnyH_take (i := 1) (v := ?_) rfl (by kernel_rfl) (by kernel_rfl) (by kernel_rfl) (fun _ _ _ h => h) (Or.inl ⟨by rfl, ?_⟩) hHeld ?_
  rotate_left
  · intro w hSw
    (try dsimp only at hSw)
    go_simp
    try with_reducible rfl
  go_simp
  refine wpAnyH_take (i := 2) (v := ?_) rfl (by kernel_rfl) (by kernel_rfl) (by kernel_rfl) (fun _ _ _ h => h) (Or.inl ⟨by rfl, ?_⟩) hHeld ?_
  rotate_left
  · intro w hSw
    (try dsimp only at hSw)
    go_simp
    try with_reducible rfl
  go_simp
  refine wpAnyH_take (i := 3) (v := ?_) rfl (by kernel_rfl) (by kernel_rfl) (by kernel_rfl) (fun _ _ _ h => h) (Or.inl ⟨by rfl, ?_⟩) hHeld ?_
  rotate_left
  · intro w hSw
    (try dsimp only at hSw)
    go_simp
    try with_reducible rfl
  go_simp
  refine wpAnyH_ready (rs := [4]) (by kernel_rfl) (by simp) ?_
  refine AllReadyH.cons rfl (fun K hK => ?_) ?_
  rotate_left
  · exact AllReadyH.nil
  go_simp
  go_wp2_with (go_at_call 75; ((refine (CD.out _).mono ?_); rintro e w3 ⟨A3, c3, rfl, hb3, ho3⟩; have hr3 := HR0.out.below hb3 HR0.out.lt; have hp3 := HP0.out.below hb3 HP0.out.lt))
  refine hK.out _ _ (by first | (with_reducible exact MK.out _ hr3) | (with_reducible exact MK.out _ hr4)) (fun hHeld => ?_)
  clear hK K
  go_simp
  refine wpAnyH_take (i := 5) (v := ?_) rfl (by kernel_rfl) (by kernel_rfl) (by kernel_rfl) (fun _ _ _ h => h) (Or.inl ⟨by rfl, ?_⟩) hHeld ?_
  rotate_left
  · intro w hSw
    (try dsimp only at hSw)
    go_simp
    try with_reducible rfl
  go_simp
  refine wpAnyH_ready (rs := [6]) (by kernel_rfl) (by simp) ?_
  refine AllReadyH.cons rfl (fun K hK => ?_) ?_
  rotate_left
  · exact AllReadyH.nil
  have hr4 := raw_row_ne hr3 hp3 (show w.heap.size ≠ w.heap.size + 1 by omega) #[.int .i64 2, .int .i64 pl, .slice A3 (dec tx).length c3]
  refine step_store_row rfl 78 _ _ rfl (w.heap.size + 1) #[.int .i64 2, .int .i64 pl, .slice A3 (dec tx).length c3] rfl rfl hp3 (by kernel_rfl) rfl (by simp [Value.oneCell']) ?_
  refine hK.out _ _ (by first | (with_reducible exact MK.out _ hr3) | (with_reducible exact MK.out _ hr4)) (fun hHeld => ?_)
  clear hK K
  go_simp
  refine wpAnyH_done (by kernel_rfl) ?_ _
  refine NoPanic.normal ?_
  have hp5 := raw_row hp3 #[.int .i64 2, .int .i64 pl, .slice A3 (dec tx).length c3]
  have ho5 : (w3.setRow (w.heap.size + 1) #[.int .i64 2, .int .i64 pl, .slice A3 (dec tx).length c3]).ownsRow w.heap.size 21 1 (.slice A3 (dec tx).length c3) (dec tx).length ((dec tx).map (.int .i32)) := own_base (own_same ho3 (fun k hk => setRow_other _ _ _ _ (fun e => by
    have := (own_lt ho3 hk).1
    have h2 := HP0.out.lt
    omega))) HB0.out.drew.size
  have hb5 : Below w.heap.size w (w3.setRow (w.heap.size + 1) #[.int .i64 2, .int .i64 pl, .slice A3 (dec tx).length c3]) := (HB0.out.drew.trans (hb3.mono HB0.out.size)).trans (below_setRowN (by omega) _ _)
  have HO5 := Lib.hid ho5
  have HB5 := Lib.hid hb5
  have c0 := hp5.cell 0
  have c1 := hp5.cell 1
  have c2 := hp5.cell 2
  clear hb5 ho5
  go_wp2
  refine bodyPost_ret (v := .agg #[.int .i64 2, .int .i64 pl, .slice A3 (dec tx).length c3]) (by simp [results, Tryz.results57, go_sem, c0, c1, c2]) rfl ⟨_, _, rfl, HB5.out, HO5.out⟩
end
section
open Go.RowKit
set_option linter.unusedVariables false
theorem part_info : (Tryz.prog.info? 78).map (fun i => (i.zero, i.size, i.bytes)) = some (some (.agg #[.int .i64 0, .int .i64 0, .slice none 0 0]), 3, 40) := by kernel_rfl
theorem part_slt : SlT Tryz.prog 38 78 3 40 := slt_of Tryz.underlying38 part_info rfl (by kernel_rfl)
theorem rune_info4 : (Tryz.prog.info? 21).map (fun i => (i.zero, i.size, i.bytes)) = some (some (.int .i32 0), 1, 4) := by kernel_rfl
theorem rune_slt4 : SlT Tryz.prog 30 21 1 4 := slt_of Tryz.underlying30 rune_info4 rfl (by kernel_rfl)
/-- A new block with one rune. -/
theorem own_one (w : World) (r : Int) : (w.alloc (.cells #[.int .i32 r] 21)).ownsRow 0 21 1 (.slice (some ⟨w.heap.size, 0, none⟩) 1 1) 1 [.int .i32 r] :=
  ⟨rfl, .inr ⟨_, 1, #[.int .i32 r], rfl, Nat.zero_le _, heap_alloc_new w _, Nat.le_refl _, by unfold maxLen; omega, rfl, rfl⟩⟩
/-- The cells of the last part. -/
theorem PrAt.lastc {S : Bk} {W : World} {v : Value} {ps : List PtV} {s : PtV} (h : PrAt S W v (ps ++ [s])) : ∃ g c, v = .slice (some ⟨g, 0, none⟩) (ps.length + 1) c ∧ v.ownBlock = some g ∧ W.cell? ⟨g, ps.length * 3, none⟩ = some (.int .i64 s.k) ∧ W.cell? ⟨g, ps.length * 3 + 1, none⟩ = some (.int .i64 s.p) ∧ W.cell? ⟨g, ps.length * 3 + 2, none⟩ = some (rnV s) := by
  have hr := h.row
  obtain ⟨A, c, e, hR, hl, hC⟩ := rows_of_own ptcs_len (by omega) hr
  obtain ⟨b, off, e2, h1, hc⟩ := hR.at1 (j := ps.length) (by simp)
  rcases hr.2 with ⟨_, h2⟩ | ⟨g, cap, cur, hv, hbg, hh, hnc, _, hsz, htake⟩
  · simp at h2
  · rw [hv] at e
    injection e with e3 e4 e5
    rw [← e3] at e2
    injection e2 with e2
    injection e2 with e6 e7
    subst e6 e7
    have hg : (ps ++ [s])[ps.length]'(by simp) = s := by simp
    rw [hg] at hc
    have c0 := hc 0 (by show 0 < 3; omega)
    have c1 := hc 1 (by show 1 < 3; omega)
    have c2 := hc 2 (by show 2 < 3; omega)
    simp only [Nat.zero_add, Nat.add_zero] at c0 c1 c2
    exact ⟨g, cap, by rw [hv, List.length_append, List.length_singleton], by rw [hv]; rfl, c0, c1, c2⟩
/-- What plain leaves. -/
def PlRes (w : World) (v : Value) (ps : List PtV) (a : Nat) (r : Int) (e : Ending) (w' : World) : Prop := ∃ v' ps', e = .returned v' ∧ KeptS (prB v ps) w w' ∧ PrAt (fun k => prB v ps k ∨ (w.heap.size ≤ k ∧ k < w'.heap.size)) w' v' ps' ∧ ps'.map ptP = plP (ps.map ptP) a r ∧ ps'.length ≤ ps.length + 1 ∧ ∀ M, (∀ s ∈ ps, s.n ≤ M) → ∀ s ∈ ps', s.n ≤ M + 1

set_option maxHeartbeats 8000000 in
set_option maxRecDepth 100000 in
theorem soPlain_new (S : Bk) (v : Value) (ps : List PtV) (a : Nat) (x r : Int) (w : World) (h : PrAt S w v ps) (hn : ps.length ≤ 1000000) (hk : ∀ s, ps.getLast? = some s → s.k ≠ 1) :
    Calls Tryz.prog 58 #[v, .agg #[.int .i64 (a : Int), .int .i64 x, .int .i32 r]] w (PlRes w v ps a r) := by
  have hpl : plP (ps.map ptP) a r = ps.map ptP ++ [⟨1, a, [r]⟩] := by
    unfold plP
    rw [List.getLast?_map]
    cases e : ps.getLast? with
    | none => rfl
    | some s => rw [Option.map_some]; dsimp only; rw [if_neg (by exact hk s e)]
  have HPL := Lib.hid hpl
  have x1 : Below w.heap.size w (w.alloc (.cells #[.int .i64 (a : Int), .int .i64 x, .int .i32 r] 113)) := (Below.refl _ _).alloc (Nat.le_refl _) _
  have x2 : Below w.heap.size w ((w.alloc (.cells #[.int .i64 (a : Int), .int .i64 x, .int .i32 r] 113)).alloc (.cells #[.int .i32 r] 21)) := x1.alloc (by simp) _
  have x3 : Below w.heap.size w (((w.alloc (.cells #[.int .i64 (a : Int), .int .i64 x, .int .i32 r] 113)).alloc (.cells #[.int .i32 r] 21)).alloc (.cells #[.int .i64 1, .int .i64 (a : Int), .slice (some ⟨w.heap.size + 1, 0, none⟩) 1 1] 78)) := x2.alloc (by simp; omega) _
  have o2 := own_one (w.alloc (.cells #[.int .i64 (a : Int), .int .i64 x, .int .i32 r] 113)) r
  have hsz : (w.alloc (.cells #[.int .i64 (a : Int), .int .i64 x, .int .i32 r] 113)).heap.size = w.heap.size + 1 := by simp
  rw [hsz] at o2
  obtain ⟨W2, hW2⟩ : ∃ W2, W2 = (w.alloc (.cells #[.int .i64 (a : Int), .int .i64 x, .int .i32 r] 113)).alloc (.cells #[.int .i32 r] 21) := ⟨_, rfl⟩
  rw [← hW2] at x2 x3 o2
  have hsz2 : W2.heap.size = w.heap.size + 2 := by rw [hW2]; simp
  obtain ⟨W3, hW3⟩ : ∃ W3, W3 = W2.alloc (.cells #[.int .i64 1, .int .i64 (a : Int), .slice (some ⟨w.heap.size + 1, 0, none⟩) 1 1] 78) := ⟨_, rfl⟩
  rw [← hW3] at x3
  have hsz3 : W3.heap.size = w.heap.size + 3 := by rw [hW3]; simp [hsz2]
  have h3 := h.tight.same (W' := W3) (fun k hk => x3.block k (h.lt k hk))
  have o3 : W3.ownsRow 0 21 1 (.slice (some ⟨w.heap.size + 1, 0, none⟩) 1 1) 1 [.int .i32 r] := by rw [hW3]; exact o2.alloc _
  have hrw : RowsAt ptcs 3 W3 (some ⟨w.heap.size + 2, 0, none⟩) [⟨1, (a : Int), some ⟨w.heap.size + 1, 0, none⟩, 1, 1, [r]⟩] := by
    have := row_new ptcs_len W2 [⟨1, (a : Int), some ⟨w.heap.size + 1, 0, none⟩, 1, 1, [r]⟩] #[.int .i64 1, .int .i64 (a : Int), .slice (some ⟨w.heap.size + 1, 0, none⟩) 1 1] 78 rfl
    rw [hsz2, ← hW3] at this
    exact this
  have H := Lib.hid h
  have HT := Lib.hid h.tight
  have HTL := Lib.hid h.lt
  have H3 := Lib.hid h3
  have O3 := Lib.hid o3
  have HRW := Lib.hid hrw
  have X3 := Lib.hid x3
  have HW2 := Lib.hid hW2
  have HW3 := Lib.hid hW3
  have HS2 := Lib.hid hsz2
  have HS3 := Lib.hid hsz3
  clear h h3 o3 hrw x3 x2 x1 o2 hsz hsz2 hsz3 hW2 hW3 hpl
  have END : Hid (∀ v' w', w'.ownsRow 0 78 3 v' (ps.length + 1) (kfl ptcs ps ++ kfl ptcs [⟨1, (a : Int), some ⟨w.heap.size + 1, 0, none⟩, 1, 1, [r]⟩]) → W3.grownBy w' v.ownBlock → (v'.ownBlock = v.ownBlock ∨ v'.ownBlock = some W3.heap.size) → PlRes w v ps a r (.returned v') w') := Lib.hid (fun v' w' ho hg hb => by
    have hlt := H.out.lt
    refine ⟨v', _, rfl, ?_, ((H3.out.snoc (s := ⟨1, (a : Int), some ⟨w.heap.size + 1, 0, none⟩, 1, 1, [r]⟩) ho hg O3.out (fun k hk hp => ?_)).grow ?_), ?_, ?_, ?_⟩
    · exact (KeptS.of_below (S := prB v ps) X3.out).trans (KeptS.grown (S := prB v ps) hg (fun k hk => .inl hk)) (fun k h => .inl h)
    · have := hlt k hp
      have e : w.heap.size + 1 = k := by injection hk
      omega
    · have h9 : W3.heap.size ≤ w'.heap.size := hg.size
      have hs3 := HS3.out
      rintro k (g | g | g)
      · exact .inl g
      · have h8 := (own_lt ho g).2.1
        rcases hb with e | e
        · rw [e] at g; exact .inl (.inl g)
        · rw [e] at g; injection g with g; exact .inr ⟨by omega, h8⟩
      · exact .inr ⟨by have e : w.heap.size + 1 = k := (by injection g); omega, by have e : w.heap.size + 1 = k := (by injection g); omega⟩
    · rw [HPL.out, List.map_append]; rfl
    · simp
    · intro M hM s hs
      rcases List.mem_append.1 hs with hs | hs
      · have := hM s hs; omega
      · rw [List.mem_singleton.1 hs]; show 1 ≤ M + 1; omega)
  clear HPL H
  rcases List.eq_nil_or_concat ps with rfl | ⟨qs, z, rfl⟩
  · obtain ⟨A, c, rfl⟩ := own_form H3.out.row
    go_enter Tryz.func58, Tryz.ntmps58
    go_wp2_with (at_builtin; rw [← HW2.out, ← HW3.out]; go_loud (refine wpList_appK (enc := ptcs) part_slt ptcs_len (by omega) rfl (.tmp 19) (.tmp 26) rfl rfl H3.out.row (some ⟨w.heap.size + 2, 0, none⟩) 1 1 [⟨1, (a : Int), some ⟨w.heap.size + 1, 0, none⟩, 1, 1, [r]⟩] rfl HRW.out ⟨Nat.le_refl _, fun h => by cases h⟩ rfl (kfl_one' ptcs_one _) (by simp only [maxLen, List.length_nil] at *; omega) (by simp only [List.length_nil] at *; omega) (Nat.zero_le _) ?_; intro v5 w5 hown5 hg5 hn5))
    have HE := Lib.hid (END.out v5 w5 hown5 hg5 hn5)
    obtain ⟨A5, c5, rfl⟩ := own_form hown5
    clear END hown5 hg5 hn5
    go_wp2
    go_ret
    exact HE.out
  · rw [List.concat_eq_append] at *
    have hz := hk z (by simp)
    have h1 := HT.out.same (W' := w.alloc (.cells #[.int .i64 (a : Int), .int .i64 x, .int .i32 r] 113)) (fun k hk => ((Below.refl w.heap.size w).alloc (Nat.le_refl _) _).block k (HTL.out k hk))
    obtain ⟨g, c, hv, hgb, c0, c1, c2⟩ := h1.lastc
    subst hv
    have hn2 : qs.length + 1 ≤ 1000000 := by simpa using hn
    have b1 : (z.k != 1) = true := by simpa using hz
    have b2 : IntKind.i64.wrap ((qs.length : Int) + 1 - 1) = (qs.length : Int) := by rw [IntWalk.i64_in _ (by omega)]; omega
    have b3 : decide ((qs.length : Int) < 0) = false := decide_eq_false (by omega)
    have b4 : (0 : Int) ≤ (qs.length : Int) := by omega
    have b5 : (qs.length : Int) < (qs.length : Int) + 1 := by omega
    clear h1 hk hz
    go_enter Tryz.func58, Tryz.ntmps58
    go_wp2_with (at_builtin; rw [← HW2.out, ← HW3.out]; go_loud (refine wpList_appK (enc := ptcs) part_slt ptcs_len (by omega) rfl (.tmp 19) (.tmp 26) rfl rfl H3.out.row (some ⟨w.heap.size + 2, 0, none⟩) 1 1 [⟨1, (a : Int), some ⟨w.heap.size + 1, 0, none⟩, 1, 1, [r]⟩] rfl HRW.out ⟨Nat.le_refl _, fun h => by cases h⟩ rfl (kfl_one' ptcs_one _) (by simp only [maxLen, List.length_append, List.length_cons, List.length_nil] at *; omega) (by simp only [List.length_append, List.length_cons, List.length_nil] at *; omega) (Nat.zero_le _) ?_; intro v5 w5 hown5 hg5 hn5))
    have HE := Lib.hid (END.out v5 w5 hown5 hg5 hn5)
    obtain ⟨A5, c5, rfl⟩ := own_form hown5
    clear END hown5 hg5 hn5
    go_wp2
    go_ret
    exact HE.out
theorem own_setS {w : World} {base : Nat} {e : TypeId} {size g cap n : Nat} {xs : List Value} (h : w.ownsRow base e size (.slice (some ⟨g, 0, none⟩) n cap) n xs) (i : Nat) (u : Value) : (w.setCell ⟨g, i, none⟩ u).ownsRow base e size (.slice (some ⟨g, 0, none⟩) n cap) n (xs.set i u) := by
  refine ⟨by rw [List.length_set]; exact h.1, ?_⟩
  rcases h.2 with ⟨h1, _⟩ | ⟨g', cap', cur, hv, hbg, hh, hnc, hm, hsz, htake⟩
  · cases h1
  · injection hv with e1 e2 e3
    injection e1 with e1
    injection e1 with e1
    subst e1 e3
    refine .inr ⟨g, cap, cur.set! i u, rfl, hbg, ?_, hnc, hm, by simpa using hsz, ?_⟩
    · have := RawAt.set_ (t := e) (w := w) (b := g) (cs := cur) hh i u
      exact this
    · rw [← htake]
      simp [List.take_set]
theorem own_freeS {w : World} {base : Nat} {e : TypeId} {size g cap n : Nat} {xs : List Value} (h : w.ownsRow base e size (.slice (some ⟨g, 0, none⟩) n cap) n xs) (i : Nat) : w.frozen? ⟨g, i, none⟩ = false := by
  rcases h.2 with ⟨h2, _⟩ | ⟨g', cap', cur, hv, hB, c, h3, h4, h5, h6⟩
  · cases h2
  · injection hv with hv1 hv2 hv3
    injection hv1 with hv1
    injection hv1 with hv1
    subst hv1
    exact RawAt.free (t := e) c i
theorem ptcs_set : ∀ (qs : List PtV) (z : PtV) (A : Option Addr) (n c : Nat) (rs : List Int), (kfl ptcs (qs ++ [z])).set (qs.length * 3 + 2) (.slice A n c) = kfl ptcs (qs ++ [⟨z.k, z.p, A, n, c, rs⟩])
  | [], z, A, n, c, rs => rfl
  | q :: qs, z, A, n, c, rs => by
    have ih := ptcs_set qs z A n c rs
    rw [List.cons_append, kfl_cons, List.cons_append, kfl_cons, ← ih, List.length_cons, show (qs.length + 1) * 3 + 2 = (ptcs q).length + (qs.length * 3 + 2) by rw [ptcs_len]; omega, List.set_append_right _ _ (by omega), Nat.add_sub_cancel_left]
set_option maxHeartbeats 8000000 in
set_option maxRecDepth 100000 in
theorem soPlain_last (S : Bk) (v : Value) (qs : List PtV) (z : PtV) (a : Nat) (x r : Int) (w : World) (h : PrAt S w v (qs ++ [z])) (hn : qs.length + 1 ≤ 1000000) (hzn : z.n ≤ 1000000) (hz : z.k = 1) :
    Calls Tryz.prog 58 #[v, .agg #[.int .i64 (a : Int), .int .i64 x, .int .i32 r]] w (PlRes w v (qs ++ [z]) a r) := by
  have hpl : plP ((qs ++ [z]).map ptP) a r = qs.map ptP ++ [⟨1, z.p, z.rs ++ [r]⟩] := by
    unfold plP
    rw [List.map_append, List.map_singleton, List.getLast?_concat]
    dsimp only
    rw [if_pos (by exact hz), List.dropLast_concat]
    rfl
  have HPL := Lib.hid hpl
  have x1 : Below w.heap.size w (w.alloc (.cells #[.int .i64 (a : Int), .int .i64 x, .int .i32 r] 113)) := (Below.refl _ _).alloc (Nat.le_refl _) _
  obtain ⟨W1, hW1⟩ : ∃ W1, W1 = w.alloc (.cells #[.int .i64 (a : Int), .int .i64 x, .int .i32 r] 113) := ⟨_, rfl⟩
  have hr1 : RawAt 113 W1 w.heap.size #[.int .i64 (a : Int), .int .i64 x, .int .i32 r] := by rw [hW1]; exact heap_alloc_new w _
  have hs1 : W1.heap.size = w.heap.size + 1 := by rw [hW1]; simp
  rw [← hW1] at x1
  have h1 := h.tight.same (W' := W1) (fun k hk => x1.block k (h.lt k hk))
  obtain ⟨g, c, hv, hgb, c0, c1, c2⟩ := h1.lastc
  subst hv
  have b1 : (z.k != 1) = false := by simpa using hz
  have b2 : IntKind.i64.wrap ((qs.length : Int) + 1 - 1) = (qs.length : Int) := by rw [IntWalk.i64_in _ (by omega)]; omega
  have b3 : decide ((qs.length : Int) < 0) = false := decide_eq_false (by omega)
  have b4 : (0 : Int) ≤ (qs.length : Int) := by omega
  have b5 : (qs.length : Int) < (qs.length : Int) + 1 := by omega
  have hgl : g < w.heap.size := (own_lt h.row hgb).2.1
  have H := Lib.hid h
  have H1 := Lib.hid h1
  have X1 := Lib.hid x1
  have HW1 := Lib.hid hW1
  have HS1 := Lib.hid hs1
  have HR1 := Lib.hid hr1
  have d2 := hr1.cell 2
  have HZ := Lib.hid hz
  rw [hW1] at c0 c1 c2 d2
  clear h h1 x1 hW1 hs1 hr1 hpl hz
  go_enter Tryz.func58, Tryz.ntmps58
  go_wp2_with fail
  rw [← HW1.out] at c0 c1 c2 d2 ⊢
  obtain ⟨W2, hW2⟩ : ∃ W2, W2 = W1.drew.alloc (.cells #[.int .i32 r] 21) := ⟨_, rfl⟩
  have x2 : Below W1.heap.size W1 W2 := by rw [hW2]; exact (Below.refl W1.heap.size W1).drew.alloc (Nat.le_refl _) _
  have hrw : RowsAt (encN .i32) 1 W2 (some ⟨W1.heap.size, 0, none⟩) [r] := by
    have := row_new (encN_len .i32) W1.drew [r] #[.int .i32 r] 21 rfl
    rw [← hW2] at this
    exact this
  have hs2 : W2.heap.size = w.heap.size + 2 := by rw [hW2]; simp; exact HS1.out
  have X2 := Lib.hid x2
  have HRW := Lib.hid hrw
  have HW2 := Lib.hid hW2
  have HS2 := Lib.hid hs2
  have H2 := Lib.hid (H1.out.same (W' := W2) (fun k hk => x2.block k (Nat.lt_of_lt_of_le (H.out.lt k hk) X1.out.size)))
  have HZR := Lib.hid (H2.out.rns z (by simp))
  have HZN : Hid (z.rs.length = z.n) := Lib.hid (H.out.rlen z (by simp))
  clear x2 hrw hW2 hs2
  have NE : Hid (∀ k, (rnV z).ownBlock = some k → k ≠ g) := Lib.hid (fun k hk e => by
    subst e
    obtain ⟨_, _, cur, hc⟩ := own_lt HZR.out hk
    obtain ⟨_, _, cur', hc'⟩ := own_lt H2.out.row hgb
    rw [hc] at hc'
    simp at hc')
  have HG2 : Hid (g < W2.heap.size) := Lib.hid (own_lt H2.out.row hgb).2.1
  have HE1 : Hid (W2.heap[g]? = W1.heap[g]?) := Lib.hid (X2.out.block g (Nat.lt_of_lt_of_le hgl X1.out.size))
  have C2 := Lib.hid c2
  have HRO : Hid (W1.ownsRow 0 78 3 (.slice (some ⟨g, 0, none⟩) (qs.length + 1) c) (qs.length + 1) (kfl ptcs (qs ++ [z]))) := Lib.hid (by have := H1.out.row; rwa [List.length_append, List.length_singleton] at this)
  have END : Hid (∀ A5 c5 w5, w5.ownsRow 0 21 1 (.slice A5 (z.n + 1) c5) (z.n + 1) (z.rs.map (.int .i32) ++ kfl (encN .i32) [r]) → W2.grownBy w5 (rnV z).ownBlock → ((Value.slice A5 (z.n + 1) c5).ownBlock = (rnV z).ownBlock ∨ (Value.slice A5 (z.n + 1) c5).ownBlock = some W2.heap.size) →
      PlRes w (.slice (some ⟨g, 0, none⟩) (qs.length + 1) c) (qs ++ [z]) a r (.returned (.slice (some ⟨g, 0, none⟩) (qs.length + 1) c)) (w5.setCell ⟨g, qs.length * 3 + 2, none⟩ (.slice A5 (z.n + 1) c5))) := Lib.hid (fun A5 c5 w5 ho hg hb => by
    have hs2 := HS2.out
    have hlt := H.out.lt
    have hb5 : w5.heap[g]? = W1.heap[g]? := (hg.block g HG2.out (fun e => NE.out g e.symm rfl)).trans HE1.out
    have hro5 := own_same HRO.out (fun k hk => by have e : k = g := (by rw [hgb] at hk; injection hk with hk; exact hk.symm); subst e; exact hb5)
    have hro6 := own_setS hro5 (qs.length * 3 + 2) (.slice A5 (z.n + 1) c5)
    rw [ptcs_set qs z A5 (z.n + 1) c5 (z.rs ++ [r])] at hro6
    have hsz : W2.heap.size ≤ w5.heap.size := hg.size
    have kk : KeptS (prB (.slice (some ⟨g, 0, none⟩) (qs.length + 1) c) (qs ++ [z])) w w5 := (KeptS.of_below (X1.out.trans (X2.out.mono X1.out.size))).trans (KeptS.grown (S := prB (.slice (some ⟨g, 0, none⟩) (qs.length + 1) c) (qs ++ [z])) hg (fun k hk => .inr ⟨z, by simp, hk⟩)) (fun k h => .inl h)
    refine ⟨_, qs ++ [⟨z.k, z.p, A5, z.n + 1, c5, z.rs ++ [r]⟩], rfl, kk.trans (KeptS.set (S := prB (.slice (some ⟨g, 0, none⟩) (qs.length + 1) c) (qs ++ [z])) _ _ _ (.inl hgb)) (fun k h => .inl h), ?_, ?_, by simp, ?_⟩
    · refine (PrAt.last (W1 := w5) (r := r) (A' := A5) (c' := c5) H.out.tight (by rw [List.map_append]; exact ho) ?_ (fun k hk hne => ?_) hro6 (fun k hk => ?_)).grow ?_
      · rcases hb with e | e
        · exact .inl e
        · exact .inr ⟨_, e, by omega⟩
      · exact (hg.block k (by omega) (fun e => hne e.symm)).trans ((X2.out.block k (Nat.lt_of_lt_of_le hk X1.out.size)).trans (X1.out.block k hk))
      · exact Below.heap_setCell _ _ _ _ (fun e => hk (by rw [hgb]; exact congrArg some e.symm))
      · rintro k (hk | hk)
        · exact .inl hk
        · have h8 := (own_lt ho hk).2.1
          rcases hb with e | e
          · rw [e] at hk; exact .inl (.inr ⟨z, by simp, hk⟩)
          · rw [e] at hk; injection hk with hk; exact .inr ⟨by omega, by rw [World.size_setCell]; exact h8⟩
    · rw [HPL.out, List.map_append]
      show _ ++ [ptP _] = _
      unfold ptP
      rw [HZ.out]
    · intro M hM s hs
      rcases List.mem_append.1 hs with hs | hs
      · have := hM s (List.mem_append_left _ hs); omega
      · rw [List.mem_singleton.1 hs]; have := hM z (by simp); show z.n + 1 ≤ M + 1; omega)
  rw [HW2.out] at HZR HRW HG2 HE1 END
  have c2a : (W1.alloc (.cells #[.int .i32 r] 21)).cell? ⟨g, qs.length * 3 + 2, none⟩ = some (rnV z) := (World.cell?_of_block (a := ⟨g, qs.length * 3 + 2, none⟩) HE1.out).trans c2
  go_region_law (refine step_appK (enc := encN .i32) rune_slt4 (encN_len _) (by omega) rfl (.tmp 34) (.tmp 37) rfl rfl HZR.out (some ⟨W1.heap.size, 0, none⟩) 1 1 [r] rfl HRW.out ⟨Nat.le_refl _, fun h => by cases h⟩ rfl (kfl_one' (encN_one _) _) (by simp only [maxLen]; omega) (by omega) (Nat.zero_le _) ?_; intro v5 w5 hown5 hg5 hn5; obtain ⟨A5, c5, rfl⟩ := own_form hown5; have hb5 := (hg5.block g HG2.out (fun e => NE.out g e.symm rfl)).trans HE1.out; have q5 := (World.cell?_of_block (a := ⟨g, qs.length * 3 + 2, none⟩) hb5).trans C2.out; have f5 := own_freeS (own_same HRO.out (fun k hk => by have e : k = g := (by rw [hgb] at hk; injection hk with hk; exact hk.symm); subst e; exact hb5)) (qs.length * 3 + 2))
  all_goals
    have HE := Lib.hid (END.out A5 c5 w5 hown5 hg5 hn5)
    clear END hown5 hg5 hn5
    go_wp2
    go_ret
    exact HE.out
theorem soPlain_any (S : Bk) (v : Value) (ps : List PtV) (a : Nat) (x r : Int) (w : World) (h : PrAt S w v ps) (hn : ps.length ≤ 1000000) (hz : ∀ s ∈ ps, s.n ≤ 1000000) :
    Calls Tryz.prog 58 #[v, .agg #[.int .i64 (a : Int), .int .i64 x, .int .i32 r]] w (PlRes w v ps a r) := by
  rcases List.eq_nil_or_concat ps with rfl | ⟨qs, z, rfl⟩
  · exact soPlain_new S v [] a x r w h (by simp) (fun s hs => by cases hs)
  · rw [List.concat_eq_append] at *
    by_cases hk : z.k = 1
    · exact soPlain_last S v qs z a x r w h (by simpa using hn) (hz z (by simp)) hk
    · exact soPlain_new S v _ a x r w h hn (fun s hs => by rw [List.getLast?_concat] at hs; injection hs with hs; rw [← hs]; exact hk)
end
end Go.Proofs.YtpnjokhhbjpciaaGreatDoor
