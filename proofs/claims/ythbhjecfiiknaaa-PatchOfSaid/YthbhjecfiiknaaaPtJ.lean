/- Patches: what between has of the pieces so far: the contract of its closure. -/
import Derived.Test.YthbhjecfiiknaaaPatQ
import Derived.Test.YthbhjecfiiknaaaPtB
import Derived.Deep.AppendLies
import Derived.Deep.RegionHeld3
namespace Go.Proofs.Ythbhjecfiiknaaa
open Go.RowKit
set_option maxHeartbeats 2000000 in
theorem psize_w (a b : Int) (w : World) (h1 : -1000000000000000 ≤ a) (h2 : a ≤ 1000000000000000) (h3 : -1000000000000000 ≤ b) (h4 : b ≤ 1000000000000000) : Calls Try.prog 37 #[.agg #[.int .i64 a, .int .i64 b]] w fun e w' => e = .returned (.int .i64 (b - a)) ∧ Below w.heap.size w w' := by
  have w1 : IntKind.i64.wrap (b - a) = b - a := IntWalk.i64_in _ (by omega)
  go_enter Try.func37, Try.ntmps37
  go_wp2
  go_ret
  exact ⟨by simp, (Below.refl _ _).alloc (Nat.le_refl _) _⟩
set_option maxHeartbeats 2000000 in
theorem pnothing_w (c : Ch) (w : World) (r : Bool) (h1 : 0 ≤ c.oa ∧ c.oa ≤ c.ob ∧ c.ob ≤ 1000000000000000) (h2 : 0 ≤ c.na ∧ c.na ≤ c.nb ∧ c.nb ≤ 1000000000000000) (hr : r = true ↔ c.oa = c.ob ∧ c.na = c.nb) : Calls Try.prog 28 #[.agg #[.int .i64 c.oa, .int .i64 c.ob, .int .i64 c.na, .int .i64 c.nb]] w fun e w' => e = .returned (.bool r) ∧ Below w.heap.size w w' := by
  have HF := Lib.hid hr; clear hr
  obtain ⟨a, b, x, y⟩ := c
  dsimp only at *
  obtain ⟨a1, a2, a3⟩ := h1
  obtain ⟨b1, b2, b3⟩ := h2
  have CO := Lib.hid fun W => psize_w a b W (by omega) (by omega) (by omega) (by omega)
  have CN := Lib.hid fun W => psize_w x y W (by omega) (by omega) (by omega) (by omega)
  obtain ⟨z1, hz1⟩ : ∃ z, z = b - a := ⟨_, rfl⟩
  obtain ⟨z2, hz2⟩ : ∃ z, z = y - x := ⟨_, rfl⟩
  rw [← hz1] at CO
  rw [← hz2] at CN
  have x3 : Below w.heap.size w (w.alloc (.cells #[.int .i64 a, .int .i64 b, .int .i64 x, .int .i64 y] 56)) := (Below.refl _ _).alloc (Nat.le_refl _) _
  have R3 : RawAt 56 (w.alloc (.cells #[.int .i64 a, .int .i64 b, .int .i64 x, .int .i64 y] 56)) w.heap.size #[.int .i64 a, .int .i64 b, .int .i64 x, .int .i64 y] := heap_alloc_new w _
  have HR3 := Lib.hid R3
  clear R3
  by_cases g1 : a = b
  · obtain rfl : z1 = 0 := by omega
    by_cases g2 : x = y
    · have HX := Lib.hid (bt HF.out ⟨g1, g2⟩)
      obtain rfl : z2 = 0 := by omega
      clear g1 g2 hz1 hz2
      go_enter Try.func28, Try.ntmps28
      go_wp2_with fail
      refine (CO.out _).mono ?_
      rintro e w4 ⟨rfl, hb4⟩
      have R4 := RawAt.below HR3.out hb4 (RawAt.lt HR3.out)
      have q2 := RawAt.cell R4 2
      have q3 := RawAt.cell R4 3
      simp at q2 q3
      clear R4
      go_wp2_with fail
      refine (CN.out _).mono ?_
      rintro e w5 ⟨rfl, hb5⟩
      go_wp2
      go_ret
      exact ⟨ret_bool (by first | exact HX.out | exact (beq_eq_false_iff_ne.2 k2).trans HX.out | exact (beq_eq_false_iff_ne.2 k1).trans HX.out), (x3.trans (hb4.mono x3.size)).trans (hb5.mono (x3.trans (hb4.mono x3.size)).size)⟩
    · have HX := Lib.hid (bf HF.out (fun h => g2 h.2))
      have k2 : ¬ z2 = 0 := by omega
      clear g1 g2 hz1 hz2
      go_enter Try.func28, Try.ntmps28
      go_wp2_with fail
      refine (CO.out _).mono ?_
      rintro e w4 ⟨rfl, hb4⟩
      have R4 := RawAt.below HR3.out hb4 (RawAt.lt HR3.out)
      have q2 := RawAt.cell R4 2
      have q3 := RawAt.cell R4 3
      simp at q2 q3
      clear R4
      go_wp2_with fail
      refine (CN.out _).mono ?_
      rintro e w5 ⟨rfl, hb5⟩
      go_wp2
      go_ret
      exact ⟨ret_bool (by first | exact HX.out | exact (beq_eq_false_iff_ne.2 k2).trans HX.out | exact (beq_eq_false_iff_ne.2 k1).trans HX.out), (x3.trans (hb4.mono x3.size)).trans (hb5.mono (x3.trans (hb4.mono x3.size)).size)⟩
  · have HX := Lib.hid (bf HF.out (fun h => g1 h.1))
    have k1 : ¬ z1 = 0 := by omega
    clear g1 hz1 hz2
    go_enter Try.func28, Try.ntmps28
    go_wp2_with fail
    refine (CO.out _).mono ?_
    rintro e w4 ⟨rfl, hb4⟩
    have R4 := RawAt.below HR3.out hb4 (RawAt.lt HR3.out)
    have q2 := RawAt.cell R4 2
    have q3 := RawAt.cell R4 3
    simp at q2 q3
    clear R4
    go_wp2
    go_ret
    exact ⟨ret_bool (by first | exact HX.out | exact (decide_eq_false (by omega)).trans HX.out), x3.trans (hb4.mono x3.size)⟩
/-- Blocks of other types than some stay as they are. -/
def OnT (ts : List TypeId) (W w' : World) : Prop := ∀ b t cs, t ∉ ts → RawAt t W b cs → RawAt t w' b cs
theorem OnT.trans {ts : List TypeId} {a b c : World} (h : OnT ts a b) (g : OnT ts b c) : OnT ts a c := fun b t cs ht hr => g b t cs ht (h b t cs ht hr)
theorem OnT.of {ts : List TypeId} {a b : World} (h : Below a.heap.size a b) : OnT ts a b := fun _ _ _ _ hr => hr.below h hr.lt
theorem OnT.mono {ts us : List TypeId} {a b : World} (h : OnT ts a b) (hs : ∀ t ∈ ts, t ∈ us) : OnT us a b := fun b t cs ht hr => h b t cs (fun hm => ht (hs t hm)) hr
/-- How long a piece is at most that is kept at the end. -/
def LL : Int := 2199023255552
/-- Pieces that rise, with numbers that are not too large. -/
structure Bd (tot : List Pc) : Prop where
  srt : srt 0 0 tot
  nums : ∀ x ∈ tot, x.o ≤ 4398046511104 ∧ x.w ≤ 4398046511104 ∧ x.n ≤ 4398046511104
  len : tot.length ≤ 1000000
theorem chg_len : ∀ (p q : Int) (xs : List Pc), (chg p q xs).length ≤ xs.length
  | _, _, [] => Nat.le_refl _
  | p, q, x :: xs => by
    have ih := chg_len (x.o + x.n) (x.w + x.n) xs
    unfold chg
    rw [List.length_append, List.length_cons]
    split <;> simp <;> omega
/-- What the closure of between has: behind the pieces d of all, the changes so far, and the change that is open. -/
structure JAt (w0 : World) (tot d : List Pc) (W : World) : Prop where
  ex : ∃ r out p q x y v, d ++ r = tot ∧ out ++ chg p q r = chg 0 0 tot ∧ srt p q r ∧ 0 ≤ p ∧ p ≤ 10000000000000 ∧ 0 ≤ q ∧ q ≤ 10000000000000 ∧
    RawAt 22 W w0.heap.size #[v] ∧ RawAt 56 W (w0.heap.size + 1) #[.int .i64 p, .int .i64 x, .int .i64 q, .int .i64 y] ∧ W.ownsRow (w0.heap.size + 2) 56 4 v out.length (cflat out)
  below : Below w0.heap.size w0 W
theorem OnT.drew {ts : List TypeId} {a b : World} (h : OnT ts a b) : OnT ts a b.drew := fun b t cs ht hr => h b t cs ht hr
theorem OnT.drewn {ts : List TypeId} {a b : World} (h : OnT ts a b) (n : Nat) : OnT ts a (b.drewN n) := fun b t cs ht hr => h b t cs ht hr
theorem own_set {w : World} {base : Nat} {e : TypeId} {size : Nat} {v : Value} {n : Nat} {xs : List Value} (h : w.ownsRow base e size v n xs) {b : Nat} (hb : b < base) (k : Nat) (u : Value) : (w.setCell ⟨b, k, none⟩ u).ownsRow base e size v n xs := by
  refine ⟨h.1, ?_⟩
  rcases h.2 with h2 | ⟨g, cap, cur, rfl, hB, c, h3⟩
  · exact .inl h2
  · exact .inr ⟨g, cap, cur, rfl, hB, (Below.heap_setCell w ⟨b, k, none⟩ u g (by simp; omega)).trans c, h3⟩
theorem own_slice {w : World} {base : Nat} {e : TypeId} {size : Nat} {v : Value} {n : Nat} {xs : List Value} (h : w.ownsRow base e size v n xs) (hn : 0 < n) : ∃ g cap, v = .slice (some ⟨g, 0, none⟩) n cap := by
  rcases h.2 with ⟨_, h2⟩ | ⟨g, cap, cur, h2, _⟩
  · omega
  · exact ⟨g, cap, h2⟩
theorem OnT.set {ts : List TypeId} {W0 W : World} {b : Nat} {t : TypeId} {cs : Array Value} (h : OnT ts W0 W) (hr : RawAt t W b cs) (ht : t ∈ ts) (k : Nat) (v : Value) : OnT ts W0 (W.setCell ⟨b, k, none⟩ v) := by
  intro b' t' cs' hn hr'
  have h1 := h b' t' cs' hn hr'
  refine h1.set_other ?_ k v
  rintro rfl
  unfold RawAt at hr h1
  rw [hr] at h1
  injection h1 with h2
  injection h2 with _ h3
  exact hn (h3 ▸ ht)
theorem OnT.grown {ts : List TypeId} {W W' : World} {base n size : Nat} {e : TypeId} {v : Value} {xs : List Value} (h : W.ownsRow base e size v n xs) (hg : W.grownBy W' v.ownBlock) (he : e ∈ ts) : OnT ts W W' := by
  intro b t cs ht hr
  refine (hg.block b hr.lt ?_).trans hr
  intro hb
  rcases h.2 with ⟨rfl, _⟩ | ⟨g, cap, cur, rfl, _, hh, _⟩
  · cases hb
  · obtain rfl : b = g := by injection hb
    unfold RawAt at hr
    rw [hr] at hh
    injection hh with h2
    injection h2 with _ h3
    exact ht (h3 ▸ he)
set_option maxHeartbeats 4000000 in
set_option maxRecDepth 100000 in
theorem each_any (w0 : World) (tot d r : List Pc) (x : Pc) (W : World) (hx : d ++ x :: r = tot) (hB : Bd tot) (hJ : JAt w0 tot d W) :
    Calls Try.prog 44 #[.agg #[.int .i64 x.o, .int .i64 x.w, .int .i64 x.n], .pointer (some ⟨w0.heap.size + 1, 0, none⟩), .pointer (some ⟨w0.heap.size, 0, none⟩)] W fun e w' => e = .returned (.tuple #[]) ∧ JAt w0 tot (d ++ [x]) w' ∧ OnT [22, 56] W w' ∧ W.heap.size ≤ w'.heap.size := by
  obtain ⟨⟨r0, out, p, q, X, Y, v, hd, hchg, hsrt, p1, p2, q1, q2, hL, hC, hown⟩, hbel⟩ := hJ
  obtain rfl : r0 = x :: r := List.append_cancel_left (hd.trans hx.symm)
  obtain ⟨s1, s2, s3, s4⟩ := hsrt
  obtain ⟨b1, b2, b3⟩ := hB.nums x (by rw [← hx]; simp)
  have hd' : (d ++ [x]) ++ r = tot := by rw [List.append_assoc]; exact hx
  have HCH := Lib.hid (show out ++ ((if x.o - p = 0 ∧ x.w - q = 0 then [] else [⟨p, x.o, q, x.w⟩]) ++ chg (x.o + x.n) (x.w + x.n) r) = chg 0 0 tot from by rw [← hchg]; rfl)
  have HD := Lib.hid hd'
  have HS := Lib.hid s4
  have hlen : out.length ≤ 1000000 := by have h1 := congrArg List.length hchg; rw [List.length_append] at h1; have h2 := chg_len 0 0 tot; have h3 := hB.len; omega
  clear hx hd hd' hchg hB s4
  have hbs := hbel.size
  generalize hBB : w0.heap.size = B at *
  have hPB : Below W.heap.size W (W.alloc (.cells #[.int .i64 x.o, .int .i64 x.w, .int .i64 x.n] 76)) := (Below.refl _ _).alloc (Nat.le_refl _) _
  have HP := Lib.hid (show RawAt 76 (W.alloc (.cells #[.int .i64 x.o, .int .i64 x.w, .int .i64 x.n] 76)) W.heap.size #[.int .i64 x.o, .int .i64 x.w, .int .i64 x.n] from heap_alloc_new W _)
  have HL := Lib.hid (hL.below hPB hL.lt)
  have HC := Lib.hid (hC.below hPB hC.lt)
  have HO := Lib.hid (own_below hown hPB)
  have HB1 := Lib.hid (hbel.trans (hPB.mono hbs))
  have HT := Lib.hid (OnT.of (ts := [22, 56]) hPB)
  have hbC := hC.lt
  clear hL hC hown hbel hPB
  go_enter Try.func44, Try.ntmps44
  go_wp2_with fail
  have hne : W.heap.size ≠ B + 1 := by omega
  have hne' : B + 1 ≠ W.heap.size := by omega
  generalize W.alloc (.cells #[.int .i64 x.o, .int .i64 x.w, .int .i64 x.n] 76) = W1 at *
  have c0 := RawAt.cell HP.out 0
  have c1 := RawAt.cell HP.out 1
  have c2 := RawAt.cell HP.out 2
  simp at c0 c1 c2
  have f0 := RawAt.free HC.out 0
  have f1 := RawAt.free HC.out 1
  have f2 := RawAt.free HC.out 2
  have f3 := RawAt.free HC.out 3
  have e0 := RawAt.cell HC.out 0
  have e1 := RawAt.cell HC.out 1
  have e2 := RawAt.cell HC.out 2
  have e3 := RawAt.cell HC.out 3
  simp at e0 e1 e2 e3
  go_region
  have C2 := (HC.out.set_ 1 (.int .i64 x.o)).set_ 3 (.int .i64 x.w)
  have C2 : RawAt 56 ((W1.setCell ⟨B + 1, 1, none⟩ (.int .i64 x.o)).setCell ⟨B + 1, 3, none⟩ (.int .i64 x.w)).drew (B + 1) #[.int .i64 p, .int .i64 x.o, .int .i64 q, .int .i64 x.w] := C2.of_eq (by simp)
  have L2 : RawAt 22 ((W1.setCell ⟨B + 1, 1, none⟩ (.int .i64 x.o)).setCell ⟨B + 1, 3, none⟩ (.int .i64 x.w)).drew B #[v] := (HL.out.set_other (by omega) 1 _).set_other (by omega) 3 _
  have P2 : RawAt 76 ((W1.setCell ⟨B + 1, 1, none⟩ (.int .i64 x.o)).setCell ⟨B + 1, 3, none⟩ (.int .i64 x.w)).drew W.heap.size #[.int .i64 x.o, .int .i64 x.w, .int .i64 x.n] := (HP.out.set_other hne 1 _).set_other hne 3 _
  have T2 : OnT [22, 56] W ((W1.setCell ⟨B + 1, 1, none⟩ (.int .i64 x.o)).setCell ⟨B + 1, 3, none⟩ (.int .i64 x.w)).drew := ((HT.out.set HC.out (by simp) 1 _).set (HC.out.set_ 1 _) (by simp) 3 _).drew
  have B2 : Below B w0 ((W1.setCell ⟨B + 1, 1, none⟩ (.int .i64 x.o)).setCell ⟨B + 1, 3, none⟩ (.int .i64 x.w)).drew := ((HB1.out.setCell (p := ⟨B + 1, 1, none⟩) (by simp) _).setCell (p := ⟨B + 1, 3, none⟩) (by simp) _).drew
  have O2 : ((W1.setCell ⟨B + 1, 1, none⟩ (.int .i64 x.o)).setCell ⟨B + 1, 3, none⟩ (.int .i64 x.w)).drew.ownsRow (B + 2) 56 4 v out.length (cflat out) := own_set (own_set HO.out (by omega) _ _) (by omega) _ _
  generalize ((W1.setCell ⟨B + 1, 1, none⟩ (.int .i64 x.o)).setCell ⟨B + 1, 3, none⟩ (.int .i64 x.w)).drew = W2 at *
  have HC2 := Lib.hid C2
  have HL2 := Lib.hid L2
  have HP2 := Lib.hid P2
  have HT2 := Lib.hid T2
  have HB2 := Lib.hid B2
  have HO2 := Lib.hid O2
  obtain ⟨e0, e1, e2, e3⟩ := raw4 C2
  have hs2 : W.heap.size < W2.heap.size := P2.lt
  clear C2 L2 P2 T2 B2 O2 HC HL HP HT HB1 HO c0 c1 c2 f0 f1 f2 f3
  have CN := Lib.hid fun (r : Bool) (hr : r = true ↔ p = x.o ∧ q = x.w) => pnothing_w ⟨p, x.o, q, x.w⟩ W2 r ⟨p1, s1, by simp only; omega⟩ ⟨q1, s2, by simp only; omega⟩ hr
  have CN := CN.out
  dsimp only at CN
  have w1 : IntKind.i64.wrap (x.o + x.n) = x.o + x.n := IntWalk.i64_in _ (by omega)
  have w2 : IntKind.i64.wrap (x.w + x.n) = x.w + x.n := IntWalk.i64_in _ (by omega)
  by_cases g : p = x.o ∧ q = x.w
  · have CN1 := Lib.hid (CN true ⟨fun _ => g, fun _ => rfl⟩)
    have HCH1 := Lib.hid (show out ++ chg (x.o + x.n) (x.w + x.n) r = chg 0 0 tot from by have := HCH.out; rw [if_pos (by omega)] at this; exact this)
    clear CN HCH g
    go_wp2_with fail
    with_reducible refine CN1.out.mono ?_
    rintro e w3 ⟨rfl, hb3⟩
    have C3 := HC2.out.below hb3 HC2.out.lt
    have L3 := Lib.hid (HL2.out.below hb3 HL2.out.lt)
    have P3 := HP2.out.below hb3 HP2.out.lt
    have T3 := Lib.hid (HT2.out.trans (OnT.of hb3))
    have B3 := Lib.hid (HB2.out.trans (hb3.mono (by omega)))
    have O3 := Lib.hid (own_below HO2.out hb3)
    have HC6 := Lib.hid C3
    have HL6 := Lib.hid L3.out
    have HP6 := Lib.hid P3
    have HT6 := Lib.hid T3.out
    have HB6 := Lib.hid B3.out
    have HO6 := Lib.hid O3.out
    clear e0 e1 e2 e3
    have hw36 : w3 = w3 := rfl
    generalize w3 = W6 at *
    have hne6 : W.heap.size ≠ B + 1 := by omega
    have c0 := RawAt.cell HP6.out 0
    have c1 := RawAt.cell HP6.out 1
    have c2 := RawAt.cell HP6.out 2
    simp at c0 c1 c2
    obtain ⟨e0, e1, e2, e3⟩ := raw4 HC6.out
    have f0 := RawAt.free HC6.out 0
    have f1 := RawAt.free HC6.out 1
    have f2 := RawAt.free HC6.out 2
    have f3 := RawAt.free HC6.out 3
    go_wp2_with fail
    go_region
    have C7 : RawAt 56 (((W6.setCell ⟨B + 1, 0, none⟩ (.int .i64 (x.o + x.n))).setCell ⟨B + 1, 2, none⟩ (.int .i64 (x.w + x.n))).drew) (B + 1) #[.int .i64 (x.o + x.n), .int .i64 x.o, .int .i64 (x.w + x.n), .int .i64 x.w] := ((HC6.out.set_ 0 (.int .i64 (x.o + x.n))).set_ 2 (.int .i64 (x.w + x.n))).of_eq (by simp)
    have L7 : RawAt 22 (((W6.setCell ⟨B + 1, 0, none⟩ (.int .i64 (x.o + x.n))).setCell ⟨B + 1, 2, none⟩ (.int .i64 (x.w + x.n))).drew) B #[v] := (HL6.out.set_other (by omega) 0 _).set_other (by omega) 2 _
    have P7 : RawAt 76 (((W6.setCell ⟨B + 1, 0, none⟩ (.int .i64 (x.o + x.n))).setCell ⟨B + 1, 2, none⟩ (.int .i64 (x.w + x.n))).drew) W.heap.size #[.int .i64 x.o, .int .i64 x.w, .int .i64 x.n] := (HP6.out.set_other hne6 0 _).set_other hne6 2 _
    have T7 : OnT [22, 56] W (((W6.setCell ⟨B + 1, 0, none⟩ (.int .i64 (x.o + x.n))).setCell ⟨B + 1, 2, none⟩ (.int .i64 (x.w + x.n))).drew) := ((HT6.out.set HC6.out (by simp) 0 _).set (HC6.out.set_ 0 _) (by simp) 2 _).drew
    have B7 : Below B w0 (((W6.setCell ⟨B + 1, 0, none⟩ (.int .i64 (x.o + x.n))).setCell ⟨B + 1, 2, none⟩ (.int .i64 (x.w + x.n))).drew) := ((HB6.out.setCell (p := ⟨B + 1, 0, none⟩) (by simp) _).setCell (p := ⟨B + 1, 2, none⟩) (by simp) _).drew
    have O7 : (((W6.setCell ⟨B + 1, 0, none⟩ (.int .i64 (x.o + x.n))).setCell ⟨B + 1, 2, none⟩ (.int .i64 (x.w + x.n))).drew).ownsRow (B + 2) 56 4 (v) (out).length (cflat (out)) := own_set (own_set HO6.out (by omega) _ _) (by omega) _ _
    subst hBB
    refine bodyPost_end (v := .tuple #[]) (by simp [results, Try.results44, go_sem]) rfl ⟨rfl, ⟨⟨r, _, _, _, _, _, _, HD.out, HCH1.out, HS.out, by omega, by omega, by omega, by omega, L7, C7, O7⟩, B7⟩, T7, Nat.le_of_lt P7.lt⟩
  · have CN1 := Lib.hid (CN false ⟨fun h => absurd h (by decide), fun h => absurd h g⟩)
    have HCH1 := Lib.hid (show (out ++ [⟨p, x.o, q, x.w⟩]) ++ chg (x.o + x.n) (x.w + x.n) r = chg 0 0 tot from by have := HCH.out; rw [if_neg (by omega)] at this; rw [List.append_assoc]; exact this)
    clear CN HCH g
    go_wp2_with fail
    with_reducible refine CN1.out.mono ?_
    rintro e w3 ⟨rfl, hb3⟩
    have C3 := HC2.out.below hb3 HC2.out.lt
    have L3 := HL2.out.below hb3 HL2.out.lt
    have P3 := HP2.out.below hb3 HP2.out.lt
    have T3 := HT2.out.trans (OnT.of hb3)
    have B3 := HB2.out.trans (hb3.mono (by omega))
    have O3 := own_below HO2.out hb3
    obtain ⟨e0, e1, e2, e3⟩ := raw4 C3
    have l0 := RawAt.cell L3 0
    simp at l0
    have hs3 := P3.lt
    have hlt4 := O3.lt
    have xb : Below w3.heap.size w3 (w3.alloc (.cells #[.int .i64 p, .int .i64 x.o, .int .i64 q, .int .i64 x.w] 56)) := (Below.refl _ _).alloc (Nat.le_refl _) _
    have HCb := Lib.hid (C3.below xb C3.lt)
    have HLb := Lib.hid (L3.below xb L3.lt)
    have HPb := Lib.hid (P3.below xb P3.lt)
    have HTb := Lib.hid (T3.trans (OnT.of xb))
    have HBb := Lib.hid (B3.trans (xb.mono (by omega)))
    have hl0 : (w3.alloc (.cells #[.int .i64 p, .int .i64 x.o, .int .i64 q, .int .i64 x.w] 56)).cell? ⟨B, 0, none⟩ = some v := RawAt.cell HLb.out 0
    have fl0 : (w3.alloc (.cells #[.int .i64 p, .int .i64 x.o, .int .i64 q, .int .i64 x.w] 56)).frozen? ⟨B, 0, none⟩ = false := RawAt.free HLb.out 0
    obtain ⟨i0, hi0, hz0, hz1, hz2⟩ := info_parts change_info
    have hB3 : B + 2 ≤ w3.heap.size := by omega
    clear C3 L3 P3 T3 B3 HC2 HL2 HP2 HT2 HB2 HO2
    have HO3 := Lib.hid (O3.alloc (.cells #[.int .i64 p, .int .i64 x.o, .int .i64 q, .int .i64 x.w] 56))
    have hszb : (w3.alloc (.cells #[.int .i64 p, .int .i64 x.o, .int .i64 q, .int .i64 x.w] 56)).heap.size = w3.heap.size + 1 := by simp
    go_wp2_with (at_builtin; refine wpList_append_own _ rfl (.tmp 15) (.tmp 17) _ rfl (B + 2) 56 i0 _ 4 32 Try.underlying22 hi0 hz0 hz1 hz2 rfl (by omega) v out.length (cflat out) rfl HO3.out ⟨w3.heap.size, 0, none⟩ 1 1 [.int .i64 p, .int .i64 x.o, .int .i64 q, .int .i64 x.w] rfl rfl (World.news_of_block (cs := #[.int .i64 p, .int .i64 x.o, .int .i64 q, .int .i64 x.w]) (t := 56) (fr := (0, 0)) (heap_alloc_new w3 _)) (by simp [Value.oneCell']) (by simp only [maxLen]; omega) (by omega) (by simp; omega) ?_; intro v4 w4 hown4 hg4 hnil4; clear hnil4; obtain ⟨g4, cap4, rfl⟩ := own_slice hown4 (by omega); have hb4 := (Below.refl (B + 2) (w3.alloc (.cells #[.int .i64 p, .int .i64 x.o, .int .i64 q, .int .i64 x.w] 56))).grown hg4 (by omega) (fun k hk => (hlt4 k hk).1); have C4 := HCb.out.below hb4 (by omega); have L4 := HLb.out.below hb4 (by omega); have T4 := OnT.grown (ts := [22, 56]) HO3.out hg4 (by simp); have P4 := T4 _ _ _ (by decide) HPb.out; have k0 := RawAt.cell L4 0; simp only [List.getElem?_toArray, List.getElem?_cons_zero] at k0; have k1 := RawAt.free L4 0)
    have C5 : RawAt 56 (w4.setCell ⟨B, 0, none⟩ (.slice (some ⟨g4, 0, none⟩) (out.length + 1) cap4)) (B + 1) #[.int .i64 p, .int .i64 x.o, .int .i64 q, .int .i64 x.w] := C4.set_other (by omega) 0 _
    have L5 : RawAt 22 (w4.setCell ⟨B, 0, none⟩ (.slice (some ⟨g4, 0, none⟩) (out.length + 1) cap4)) B #[.slice (some ⟨g4, 0, none⟩) (out.length + 1) cap4] := (L4.set_ 0 (.slice (some ⟨g4, 0, none⟩) (out.length + 1) cap4)).of_eq (by simp)
    have P5 : RawAt 76 (w4.setCell ⟨B, 0, none⟩ (.slice (some ⟨g4, 0, none⟩) (out.length + 1) cap4)) W.heap.size #[.int .i64 x.o, .int .i64 x.w, .int .i64 x.n] := P4.set_other (by omega) 0 _
    have T5 : OnT [22, 56] W (w4.setCell ⟨B, 0, none⟩ (.slice (some ⟨g4, 0, none⟩) (out.length + 1) cap4)) := (HTb.out.trans T4).set L4 (by simp) 0 _
    have B5 : Below B w0 (w4.setCell ⟨B, 0, none⟩ (.slice (some ⟨g4, 0, none⟩) (out.length + 1) cap4)) := (HBb.out.trans (hb4.mono (by omega))).setCell (p := ⟨B, 0, none⟩) (by simp) _
    have O5 : (w4.setCell ⟨B, 0, none⟩ (.slice (some ⟨g4, 0, none⟩) (out.length + 1) cap4)).ownsRow (B + 2) 56 4 (.slice (some ⟨g4, 0, none⟩) (out.length + 1) cap4) (out ++ [(⟨p, x.o, q, x.w⟩ : Ch)]).length (cflat (out ++ [(⟨p, x.o, q, x.w⟩ : Ch)])) := by
      rw [cflat_append, List.length_append]
      exact own_set hown4 (by omega) _ _
    have HC6 := Lib.hid C5
    have HL6 := Lib.hid L5
    have HP6 := Lib.hid P5
    have HT6 := Lib.hid T5
    have HB6 := Lib.hid B5
    have HO6 := Lib.hid O5
    clear e0 e1 e2 e3
    generalize (w4.setCell ⟨B, 0, none⟩ (.slice (some ⟨g4, 0, none⟩) (out.length + 1) cap4)) = W6 at *
    have hne6 : W.heap.size ≠ B + 1 := by omega
    have c0 := RawAt.cell HP6.out 0
    have c1 := RawAt.cell HP6.out 1
    have c2 := RawAt.cell HP6.out 2
    simp at c0 c1 c2
    obtain ⟨e0, e1, e2, e3⟩ := raw4 HC6.out
    have f0 := RawAt.free HC6.out 0
    have f1 := RawAt.free HC6.out 1
    have f2 := RawAt.free HC6.out 2
    have f3 := RawAt.free HC6.out 3
    go_wp2_with fail
    go_region
    have C7 : RawAt 56 (((W6.setCell ⟨B + 1, 0, none⟩ (.int .i64 (x.o + x.n))).setCell ⟨B + 1, 2, none⟩ (.int .i64 (x.w + x.n))).drew) (B + 1) #[.int .i64 (x.o + x.n), .int .i64 x.o, .int .i64 (x.w + x.n), .int .i64 x.w] := ((HC6.out.set_ 0 (.int .i64 (x.o + x.n))).set_ 2 (.int .i64 (x.w + x.n))).of_eq (by simp)
    have L7 : RawAt 22 (((W6.setCell ⟨B + 1, 0, none⟩ (.int .i64 (x.o + x.n))).setCell ⟨B + 1, 2, none⟩ (.int .i64 (x.w + x.n))).drew) B #[.slice (some ⟨g4, 0, none⟩) (out.length + 1) cap4] := (HL6.out.set_other (by omega) 0 _).set_other (by omega) 2 _
    have P7 : RawAt 76 (((W6.setCell ⟨B + 1, 0, none⟩ (.int .i64 (x.o + x.n))).setCell ⟨B + 1, 2, none⟩ (.int .i64 (x.w + x.n))).drew) W.heap.size #[.int .i64 x.o, .int .i64 x.w, .int .i64 x.n] := (HP6.out.set_other hne6 0 _).set_other hne6 2 _
    have T7 : OnT [22, 56] W (((W6.setCell ⟨B + 1, 0, none⟩ (.int .i64 (x.o + x.n))).setCell ⟨B + 1, 2, none⟩ (.int .i64 (x.w + x.n))).drew) := ((HT6.out.set HC6.out (by simp) 0 _).set (HC6.out.set_ 0 _) (by simp) 2 _).drew
    have B7 : Below B w0 (((W6.setCell ⟨B + 1, 0, none⟩ (.int .i64 (x.o + x.n))).setCell ⟨B + 1, 2, none⟩ (.int .i64 (x.w + x.n))).drew) := ((HB6.out.setCell (p := ⟨B + 1, 0, none⟩) (by simp) _).setCell (p := ⟨B + 1, 2, none⟩) (by simp) _).drew
    have O7 : (((W6.setCell ⟨B + 1, 0, none⟩ (.int .i64 (x.o + x.n))).setCell ⟨B + 1, 2, none⟩ (.int .i64 (x.w + x.n))).drew).ownsRow (B + 2) 56 4 (.slice (some ⟨g4, 0, none⟩) (out.length + 1) cap4) (out ++ [(⟨p, x.o, q, x.w⟩ : Ch)]).length (cflat (out ++ [(⟨p, x.o, q, x.w⟩ : Ch)])) := own_set (own_set HO6.out (by omega) _ _) (by omega) _ _
    subst hBB
    refine bodyPost_end (v := .tuple #[]) (by simp [results, Try.results44, go_sem]) rfl ⟨rfl, ⟨⟨r, _, _, _, _, _, _, HD.out, HCH1.out, HS.out, by omega, by omega, by omega, by omega, L7, C7, O7⟩, B7⟩, T7, Nat.le_of_lt P7.lt⟩
end Go.Proofs.Ythbhjecfiiknaaa
