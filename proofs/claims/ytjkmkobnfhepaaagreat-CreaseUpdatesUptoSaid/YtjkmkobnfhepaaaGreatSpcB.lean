/- What the laws on creases are told: a text by value: how many runes, inlays, hidden spans. What the law CreaseUpdates is told: a splice by value: a span, ids, inlays, hidden spans. What the law CreaseUpdates is told, where all that it is told is of small bulk: the texts are short. -/
import Derived.Test.YtjkmkobnfhepaaaGreatInO
import Derived.Test.YtjkmkobnfhepaaaGreatWvI
import Derived.Test.YtjkmkobnfhepaaaGreatRows
namespace Go.Proofs.YtjkmkobnfhepaaaGreat
open Go.ChangeShapes Go.WideShapes Go.ChangeAt Go.RowKit
set_option linter.unusedVariables false
structure Txt where
  n : Int
  A : Option Addr
  m : Nat
  c : Nat
  l : List In
  B : Option Addr
  k : Nat
  d : Nat
  o : List (Int × Int)
structure TxtOk (w : World) (s : Txt) : Prop where
  wf : (Lit.int .i64 s.n).wf = true
  la : s.l.length = s.m
  max : s.m ≤ maxLen
  caps : Caps s.A s.m s.c
  rows : RowsAt encI 5 w s.A s.l
  ok : ∀ a ∈ s.l, InOk a
  lb : s.o.length = s.k
  maxb : s.k ≤ maxLen
  capsb : Caps s.B s.k s.d
  rowsb : RowsAt wencS 2 w s.B s.o
  okb : ∀ x ∈ s.o, (Lit.int .i64 x.1).wf = true ∧ (Lit.int .i64 x.2).wf = true
theorem TxtOk.below {w w' : World} {s : Txt} (h : TxtOk w s) (hb : Below w.heap.size w w') : TxtOk w' s := ⟨h.wf, h.la, h.max, h.caps, h.rows.below hb, h.ok, h.lb, h.maxb, h.capsb, h.rowsb.below hb, h.okb⟩
section
variable {H : Type} {enc : TypeId × Value → H} {w : World} {base : Nat} {held : Bool}
theorem c_txt : Tryz.prog.cellsOf 25 = 3 := by kernel_rfl
theorem c_txtr : Tryz.prog.cellsOf 22 = 1 := by kernel_rfl
theorem c_txts : Tryz.prog.cellsOf 23 = 1 := by kernel_rfl
theorem c_txtp : Tryz.prog.cellsOf 27 = 2 := by kernel_rfl
theorem trod_spanp {fuel : Nat} {cs : List Value} {x : DataW H × List MemPlace} (h : DataW.trod enc Tryz.prog w base (fun _ => true) held fuel 27 cs = some x) : ∃ s : Int × Int, cs = wencS s ∧ ((Lit.int .i64 s.1).wf = true ∧ (Lit.int .i64 s.2).wf = true) := by
  obtain ⟨s, e, g⟩ := trod_spanv h
  exact ⟨(s.f, s.t), e, g.1, g.2⟩
set_option maxRecDepth 100000 in
theorem trod_txt {fuel : Nat} {cs : List Value} {x : DataW H × List MemPlace} (h : DataW.trod enc Tryz.prog w base (fun _ => true) held fuel 25 cs = some x) : ∃ s : Txt, cs = [.int .i64 s.n, .slice s.A s.m s.c, .slice s.B s.k s.d] ∧ TxtOk w s := by
  obtain ⟨ys, n, _, _, hlen, hyl, hf⟩ := DataW.trod_struct Tryz.underlying25 h
  rw [c_txt] at hlen
  match cs, hlen with
  | [c0, c2, c3], _ =>
    match ys, hyl with
    | [y0, y2, y3], _ =>
      have h0 : DataW.trod enc Tryz.prog w base (fun _ => true) held n 3 [c0] = some y0 := by simpa [ic_int, c_txts, c_txtr] using hf 0 _ rfl
      have h2 : DataW.trod enc Tryz.prog w base (fun _ => true) held n 22 [c2] = some y2 := by simpa [ic_int, c_txts, c_txtr] using hf 1 _ rfl
      have h3 : DataW.trod enc Tryz.prog w base (fun _ => true) held n 23 [c3] = some y3 := by simpa [ic_int, c_txts, c_txtr] using hf 2 _ rfl
      obtain ⟨z0, e0, _, g0⟩ := DataW.trod_int Tryz.underlying3 h0
      obtain ⟨A, m, c, l, e2, g3, g1, g2, g4, g5⟩ := ktrod (α := In) (enc := encI) (k := 5) (Ok := InOk) Tryz.underlying22 (fun _ => rfl) (by omega) ic_in (fun {_ _ _} h => trod_inlay h) h2
      obtain ⟨B, k, d, o, e3, g6, g7, g8, g9, g10⟩ := ktrod (α := Int × Int) (enc := wencS) (k := 2) (Ok := fun s => (Lit.int .i64 s.1).wf = true ∧ (Lit.int .i64 s.2).wf = true) Tryz.underlying23 (fun _ => rfl) (by omega) c_txtp (fun {_ _ _} h => trod_spanp h) h3
      simp only [List.cons.injEq, and_true] at e0 e2 e3
      exact ⟨⟨z0, A, m, c, l, B, k, d, o⟩, by rw [e0, e2, e3], g0, g3, g1, g2, g4, g5, g6, g7, g8, g9, g10⟩
set_option maxRecDepth 100000 in
theorem open_txt {r : Reach} {b0 : Nat} {v : Value} {d : DataW H} {ps : List MemPlace} (hv : Value.okWide Tryz.prog w r b0 25 v) (h : DataW.Trod enc Tryz.prog w base (fun _ => true) held 25 v d ps) : ∃ s : Txt, v = .agg #[.int .i64 s.n, .slice s.A s.m s.c, .slice s.B s.k s.d] ∧ TxtOk w s := by
  obtain ⟨cs, rfl, _⟩ := okWide_struct Tryz.underlying25 hv
  obtain ⟨fuel, hf⟩ := h
  obtain ⟨s, hi, g⟩ := trod_txt hf
  exact ⟨s, by rw [show cs = #[.int .i64 s.n, .slice s.A s.m s.c, .slice s.B s.k s.d] from Array.ext' (by simpa [Value.cells] using hi)], g⟩
end
set_option linter.unusedVariables false
structure Spc where
  f : Int
  t : Int
  R : Option Addr
  r : Nat
  rc : Nat
  l : List Int
  A : Option Addr
  n : Nat
  c : Nat
  a : List In
  B : Option Addr
  k : Nat
  d : Nat
  o : List (Int × Int)
structure SpcOk (w : World) (s : Spc) : Prop where
  wf : (Lit.int .i64 s.f).wf = true ∧ (Lit.int .i64 s.t).wf = true
  lr : s.l.length = s.r
  maxr : s.r ≤ maxLen
  ints : IntsAt .i64 w s.R s.l
  wfr : ∀ x ∈ s.l, (Lit.int .i64 x).wf = true
  la : s.a.length = s.n
  maxa : s.n ≤ maxLen
  caps : Caps s.A s.n s.c
  rows : RowsAt encI 5 w s.A s.a
  ok : ∀ x ∈ s.a, InOk x
  lb : s.o.length = s.k
  maxb : s.k ≤ maxLen
  capsb : Caps s.B s.k s.d
  rowsb : RowsAt wencS 2 w s.B s.o
theorem SpcOk.below {w w' : World} {s : Spc} (h : SpcOk w s) (hb : Below w.heap.size w w') : SpcOk w' s := ⟨h.wf, h.lr, h.maxr, h.ints.below hb, h.wfr, h.la, h.maxa, h.caps, h.rows.below hb, h.ok, h.lb, h.maxb, h.capsb, h.rowsb.below hb⟩
theorem ints_of_rows16 {w : World} {A : Option Addr} {l : List Int} (h : RowsAt (fun x : Int => [Value.int .i64 x]) 1 w A l) : IntsAt .i64 w A l := by
  intro hl
  obtain ⟨b, off, rfl, h1, h2⟩ := h hl
  refine ⟨b, off, rfl, h1, fun k hk => ?_⟩
  have e : nth l k = l[k] := by simp [nth, List.getD, hk]
  have := h2 k hk 0 (by omega)
  rw [e]
  simpa using this
section
variable {H : Type} {enc : TypeId × Value → H} {w : World} {base : Nat} {held : Bool}
theorem c_spc : Tryz.prog.cellsOf 30 = 5 := by kernel_rfl
theorem c_spci : Tryz.prog.cellsOf 28 = 1 := by kernel_rfl
end
set_option linter.unusedVariables false
def Blk {H : Type} (d : DataW H) : Prop := Rows.uptoBulk d ≤ 1048576
theorem blk_part {H : Type} {d : DataW H} {l : List (DataW H)} (h : d ∈ l) : Rows.uptoBulk d ≤ Rows.uptoBulkAll l := by
  induction l with
  | nil => cases h
  | cons x r ih =>
    simp only [Rows.uptoBulkAll]
    cases List.mem_cons.1 h with
    | inl e => subst e; omega
    | inr e => have := ih e; omega
theorem blk_slice {H : Type} {elems spare : List (DataW H)} (h : Blk (.slice elems spare)) : ∀ d ∈ elems ++ spare, Blk d := by
  intro d hd
  unfold Blk at *
  simp only [Rows.uptoBulk] at h
  rcases List.mem_append.1 hd with hd | hd
  · have := blk_part hd; omega
  · have := blk_part hd; omega
theorem blk_agg {H : Type} {l : List (DataW H)} (h : Blk (.agg l)) : ∀ d ∈ l, Blk d := by
  intro d hd
  unfold Blk at *
  simp only [Rows.uptoBulk] at h
  have := blk_part hd
  omega
theorem blk_all {H : Type} {l : List (DataW H)} (h : Rows.uptoSmall H l = true) : ∀ d ∈ l, Blk d := by
  intro d hd
  have h1 : Rows.uptoBulkAll l ≤ 1048576 := of_decide_eq_true h
  have := blk_part hd
  unfold Blk
  omega
section
variable {H : Type} {encH : TypeId × Value → H} {w : World} {base : Nat} {held : Bool} {P : Program}
set_option maxRecDepth 100000 in
theorem ktrodb {t e : TypeId} (ht : P.underlying t = some (.slice e)) {α : Type} {enc : α → List Value} {k : Nat} (hk : ∀ x, (enc x).length = k) (hp : 0 < k) (hc : P.cellsOf e = k) {Ok : α → Prop}
    (hd : ∀ {fuel : Nat} {cs : List Value} {x : DataW H × List MemPlace}, DataW.trod encH P w base (fun _ => true) held fuel e cs = some x → Blk x.1 → ∃ a : α, cs = enc a ∧ Ok a)
    {fuel : Nat} {cs : List Value} {x : DataW H × List MemPlace} (hf : DataW.trod encH P w base (fun _ => true) held fuel t cs = some x) (hw8 : Blk x.1) :
    ∃ (A : Option Addr) (n c : Nat) (l : List α), cs = [.slice A n c] ∧ l.length = n ∧ n ≤ maxLen ∧ Caps A n c ∧ RowsAt enc k w A l ∧ (∀ a ∈ l, Ok a) := by
  rcases Go.Deep.open_slice ht hf with ⟨hcs, _⟩ | ⟨a, len, cap, m, n', D, Pl, hcs, hb, hl, hm, hmm, hx, hi⟩
  · exact ⟨none, 0, 0, [], hcs, rfl, Nat.zero_le _, ⟨Nat.le_refl _, fun _ => rfl⟩, fun h => absurd h (by simp), fun a h => absurd h (by simp)⟩
  · have hmc : m = cap := by simpa using hmm
    subst hx
    have hwe := blk_slice hw8
    have hle : len ≤ m := by omega
    have hwD : ∀ j, j < m → Blk (D j) := fun j hj => by
      by_cases hjl : j < len
      · exact hwe _ (List.mem_append_left _ (List.mem_map.2 ⟨j, List.mem_range.2 hjl, rfl⟩))
      · refine hwe _ (List.mem_append_right _ (List.mem_map.2 ⟨j - len, List.mem_range.2 (by omega), ?_⟩))
        rw [show len + (j - len) = j from by omega]
    have each : ∀ j, j < m → ∃ s : α, Ok s ∧ ∀ f u, (enc s)[f]? = some u → w.cell? ((a.add (j * k)).add f) = some u := by
      intro j hj
      obtain ⟨cs', h1, h2⟩ := hi j hj
      obtain ⟨s, rfl, hs⟩ := hd h2 (hwD j hj)
      rw [hc] at h1
      obtain ⟨_, _, hat⟩ := World.cells?_some h1
      refine ⟨s, hs, fun f u hu => ?_⟩
      have hfk : f < k := by have := (List.getElem?_eq_some_iff.1 hu).1; rwa [hk] at this
      rw [hat f hfk]
      exact hu
    rcases Nat.eq_zero_or_pos m with hm0 | hmp
    · have hl0 : len = 0 := by omega
      subst hl0
      exact ⟨some a, 0, cap, [], hcs, rfl, Nat.zero_le _, ⟨Nat.zero_le _, fun h => by cases h⟩, fun h => absurd h (by simp), fun a h => absurd h (by simp)⟩
    · obtain ⟨s0, hs0, _⟩ := each 0 hmp
      have each' : ∀ j, ∃ s : α, j < m → Ok s ∧ ∀ f u, (enc s)[f]? = some u → w.cell? ((a.add (j * k)).add f) = some u := fun j => by
        by_cases h : j < m
        · obtain ⟨s, hs⟩ := each j h
          exact ⟨s, fun _ => hs⟩
        · exact ⟨s0, fun h' => absurd h' h⟩
      obtain ⟨q, hq⟩ := Classical.axiomOfChoice each'
      refine ⟨some a, len, cap, (List.range len).map q, hcs, by simp, by omega, ⟨hl, fun h => by cases h⟩, fun hpp => ?_, fun x hx => ?_⟩
      · have hn : 0 < len := by simpa using hpp
        obtain ⟨b, off, spot⟩ := a
        have hlen0 : 0 < (enc (q 0)).length := by rw [hk]; exact hp
        have h00 := (hq 0 (by omega)).2 0 _ (List.getElem?_eq_getElem hlen0)
        have hspot : spot = none := by simpa [Addr.add] using World.cell?_spot h00
        subst hspot
        rw [Go.Deep.add_add, add_plain] at h00
        refine ⟨b, off, rfl, cell_block_lt h00, fun j hj c hcc => ?_⟩
        have hjn : j < len := by simpa using hj
        have hlc : c < (enc (q j)).length := by rw [hk]; exact hcc
        have g := (hq j (by omega)).2 c _ (List.getElem?_eq_getElem hlc)
        rw [Go.Deep.add_add, add_plain, ← Nat.add_assoc] at g
        rw [g]
        simp [List.getElem?_eq_getElem hlc]
      · obtain ⟨j, hj, rfl⟩ := List.mem_map.1 hx
        exact (hq j (by have := List.mem_range.1 hj; omega)).1
end
section
variable {H : Type} {enc : TypeId × Value → H} {w : World} {base : Nat} {held : Bool}
set_option maxRecDepth 100000 in
theorem trod_inlayb {fuel : Nat} {cs : List Value} {x : DataW H × List MemPlace} (h : DataW.trod enc Tryz.prog w base (fun _ => true) held fuel 56 cs = some x) (hb : Blk x.1) : ∃ s : In, cs = encI s ∧ InOk s ∧ s.tx.size ≤ 1048576 := by
  obtain ⟨ys, n, _, hxe, hlen, hyl, hf⟩ := DataW.trod_struct Tryz.underlying56 h
  rw [ic_in] at hlen
  match cs, hlen with
  | [c0, c1, c2, c3, c4], _ =>
    match ys, hyl with
    | [y0, y1, y2, y3, y4], _ =>
      have h0 : DataW.trod enc Tryz.prog w base (fun _ => true) held n 3 [c0] = some y0 := by simpa [ic_int, ic_str] using hf 0 _ rfl
      have h1 : DataW.trod enc Tryz.prog w base (fun _ => true) held n 3 [c1] = some y1 := by simpa [ic_int, ic_str] using hf 1 _ rfl
      have h2 : DataW.trod enc Tryz.prog w base (fun _ => true) held n 3 [c2] = some y2 := by simpa [ic_int, ic_str] using hf 2 _ rfl
      have h3 : DataW.trod enc Tryz.prog w base (fun _ => true) held n 3 [c3] = some y3 := by simpa [ic_int, ic_str] using hf 3 _ rfl
      have h4 : DataW.trod enc Tryz.prog w base (fun _ => true) held n 9 [c4] = some y4 := by simpa [ic_int, ic_str] using hf 4 _ rfl
      obtain ⟨z0, e0, _, g0⟩ := DataW.trod_int Tryz.underlying3 h0
      obtain ⟨z1, e1, _, g1⟩ := DataW.trod_int Tryz.underlying3 h1
      obtain ⟨z2, e2, _, g2⟩ := DataW.trod_int Tryz.underlying3 h2
      obtain ⟨z3, e3, _, g3⟩ := DataW.trod_int Tryz.underlying3 h3
      obtain ⟨z4, e4, x4, g4⟩ := DataW.trod_string Tryz.underlying9 h4
      simp only [List.cons.injEq, and_true] at e0 e1 e2 e3 e4
      refine ⟨⟨z0, z1, z2, z3, z4⟩, by rw [e0, e1, e2, e3, e4]; rfl, ⟨g0, g1, g2, g3, g4⟩, ?_⟩
      subst hxe
      have h5 := blk_agg hb y4.1 (by simp)
      rw [x4] at h5
      unfold Blk at h5
      simp only [Rows.uptoBulk] at h5
      have e : z4.data.toList.length = z4.size := by rw [Array.length_toList]; rfl
      show z4.size ≤ 1048576
      omega
set_option maxRecDepth 100000 in
theorem trod_spcb {fuel : Nat} {cs : List Value} {x : DataW H × List MemPlace} (h : DataW.trod enc Tryz.prog w base (fun _ => true) held fuel 30 cs = some x) (hb : Blk x.1) : ∃ s : Spc, cs = [.int .i64 s.f, .int .i64 s.t, .slice s.R s.r s.rc, .slice s.A s.n s.c, .slice s.B s.k s.d] ∧ SpcOk w s ∧ ∀ x ∈ s.a, x.tx.size ≤ 1048576 := by
  obtain ⟨ys, n, _, hxe, hlen, hyl, hf⟩ := DataW.trod_struct Tryz.underlying30 h
  rw [c_spc] at hlen
  match cs, hlen with
  | [c0, c1, c2, c3, c4], _ =>
    match ys, hyl with
    | [y0, y2, y3, y4], _ =>
      have h0 : DataW.trod enc Tryz.prog w base (fun _ => true) held n 27 [c0, c1] = some y0 := by simpa [ic_int, c_txts, c_txtr, c_spci, c_txtp] using hf 0 _ rfl
      have h2 : DataW.trod enc Tryz.prog w base (fun _ => true) held n 28 [c2] = some y2 := by simpa [ic_int, c_txts, c_txtr, c_spci, c_txtp] using hf 1 _ rfl
      have h3 : DataW.trod enc Tryz.prog w base (fun _ => true) held n 22 [c3] = some y3 := by simpa [ic_int, c_txts, c_txtr, c_spci, c_txtp] using hf 2 _ rfl
      have h4 : DataW.trod enc Tryz.prog w base (fun _ => true) held n 23 [c4] = some y4 := by simpa [ic_int, c_txts, c_txtr, c_spci, c_txtp] using hf 3 _ rfl
      obtain ⟨s0, e0, g0⟩ := trod_spanp h0
      obtain ⟨R, r, rc, l, e2, r3, r0, r1, r4, r5⟩ := ktrod (α := Int) (enc := fun x : Int => [Value.int .i64 x]) (k := 1) (Ok := fun x => (Lit.int .i64 x).wf = true) Tryz.underlying28 (fun _ => rfl) (by omega) ic_int (fun {_ _ _} h => by obtain ⟨s, hs, _, g⟩ := DataW.trod_int Tryz.underlying3 h; exact ⟨s, hs, g⟩) h2
      have hb3 : Blk y3.1 := by subst hxe; exact blk_agg hb y3.1 (by simp)
      obtain ⟨A, m, c, a, e3, g3, g1, g2, g4, g5⟩ := ktrodb (α := In) (enc := encI) (k := 5) (Ok := fun a => InOk a ∧ a.tx.size ≤ 1048576) Tryz.underlying22 (fun _ => rfl) (by omega) ic_in (fun {_ _ _} h h' => trod_inlayb h h') h3 hb3
      obtain ⟨B, k, d, o, e4, g6, g7, g8, g9, g10⟩ := ktrod (α := Int × Int) (enc := wencS) (k := 2) (Ok := fun s => (Lit.int .i64 s.1).wf = true ∧ (Lit.int .i64 s.2).wf = true) Tryz.underlying23 (fun _ => rfl) (by omega) c_txtp (fun {_ _ _} h => trod_spanp h) h4
      simp only [wencS, List.cons.injEq, and_true] at e0 e2 e3 e4
      exact ⟨⟨s0.1, s0.2, R, r, rc, l, A, m, c, a, B, k, d, o⟩, by rw [e0.1, e0.2, e2, e3, e4], ⟨g0, r3, r0, ints_of_rows16 r4, r5, g3, g1, g2, g4, fun x hx => (g5 x hx).1, g6, g7, g8, g9⟩, fun x hx => (g5 x hx).2⟩
set_option maxRecDepth 100000 in
theorem open_spcb {r : Reach} {b0 : Nat} {v : Value} {d : DataW H} {ps : List MemPlace} (hv : Value.okWide Tryz.prog w r b0 30 v) (h : DataW.Trod enc Tryz.prog w base (fun _ => true) held 30 v d ps) (hb : Blk d) : ∃ s : Spc, v = .agg #[.int .i64 s.f, .int .i64 s.t, .slice s.R s.r s.rc, .slice s.A s.n s.c, .slice s.B s.k s.d] ∧ (SpcOk w s ∧ ∀ x ∈ s.a, x.tx.size ≤ 1048576) := by
  obtain ⟨cs, rfl, _⟩ := okWide_struct Tryz.underlying30 hv
  obtain ⟨fuel, hf⟩ := h
  obtain ⟨s, hi, g⟩ := trod_spcb hf hb
  exact ⟨s, by rw [show cs = #[.int .i64 s.f, .int .i64 s.t, .slice s.R s.r s.rc, .slice s.A s.n s.c, .slice s.B s.k s.d] from Array.ext' (by simpa [Value.cells] using hi)], g⟩
end
end Go.Proofs.YtjkmkobnfhepaaaGreat
