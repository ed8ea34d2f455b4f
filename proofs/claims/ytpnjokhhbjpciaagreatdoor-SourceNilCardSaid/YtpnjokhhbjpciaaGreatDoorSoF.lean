/- Source: At. -/
import Derived.Test.YtpnjokhhbjpciaaGreatDoorSoE
namespace Go.Proofs.YtpnjokhhbjpciaaGreatDoor
open Go.RowKit Go.Shelf
set_option linter.unusedVariables false
attribute [local go_sem] Oper.semAt_some
/-- begins says b of a place. -/
def BegC (w0 : World) (p ip HA : Option Addr) (hn hc : Nat) (f : Int) (b : Bool) : Prop := ∀ V : World, Below w0.heap.size w0 V → Calls Tryz.prog 27 #[.agg #[.pointer p, .pointer ip, .slice HA hn hc], .int .i64 f] V fun e w' => e = .returned (.bool b) ∧ Below V.heap.size V w'
/-- Check of a right text. -/
theorem TxtC.chk {w : World} {p ip HA : Option Addr} {hn hc : Nat} {R : List Int} {H : List (Nat × Nat)} {o : List In} (h : TxtC w p ip HA hn hc R H o) (V : World) (hV : Below w.heap.size w V) : Calls Tryz.prog 26 #[.agg #[.pointer p, .pointer ip, .slice HA hn hc]] V fun e w' => e = .returned (.int .i64 0) ∧ Below V.heap.size V w' :=
  soCheck p ip HA hn hc R (spI H) R.length true ⟨fun _ => h.rt, fun _ => rfl⟩ 0 (by rw [if_pos ⟨rfl, rfl⟩]) V (fun U hU => h.ru U (hV.trans (hU.mono hV.size))) (fun U hU => h.inl.len U (hV.trans (hU.mono hV.size))) (h.rows.below hV) (by simpa [spI] using h.len) (by have := h.few; omega)
theorem new3 (w : World) (a b c : Array Value) (t u v : TypeId) : RawAt t (((w.alloc (.cells a t)).alloc (.cells b u)).alloc (.cells c v)) w.heap.size a ∧ RawAt u (((w.alloc (.cells a t)).alloc (.cells b u)).alloc (.cells c v)) (w.heap.size + 1) b ∧ RawAt v (((w.alloc (.cells a t)).alloc (.cells b u)).alloc (.cells c v)) (w.heap.size + 2) c := by
  obtain ⟨h1, h2, h3⟩ := (new2 w _ _ _ _ : RawAt t ((w.alloc (.cells a t)).alloc (.cells b u)) w.heap.size a ∧ RawAt u ((w.alloc (.cells a t)).alloc (.cells b u)) (w.heap.size + 1) b ∧ _)
  have x : Below ((w.alloc (.cells a t)).alloc (.cells b u)).heap.size ((w.alloc (.cells a t)).alloc (.cells b u)) (((w.alloc (.cells a t)).alloc (.cells b u)).alloc (.cells c v)) := (Below.refl _ _).alloc (Nat.le_refl _) _
  refine ⟨h1.below x h1.lt, h2.below x h2.lt, ?_⟩
  have := heap_alloc_new ((w.alloc (.cells a t)).alloc (.cells b u)) (.cells c v)
  rwa [World.size_alloc, World.size_alloc] at this
set_option maxHeartbeats 8000000 in
set_option maxRecDepth 100000 in
theorem soAt_no (p ip HA : Option Addr) (hn hc : Nat) (R : List Int) (H : List (Nat × Nat)) (o : List In) (f : Int) (w : World) (h : TxtC w p ip HA hn hc R H o) (hb : BegC w p ip HA hn hc f false) :
    Calls Tryz.prog 9 #[.agg #[.pointer p, .pointer ip, .slice HA hn hc], .int .i64 f] w fun e w' => e = .returned (.tuple #[.agg #[.slice none 0 0, .int .i64 0, .int .i64 0], .int .i64 1]) ∧ Below w.heap.size w w' := by
  obtain ⟨r1, r2, r3⟩ := new3 w #[.pointer p, .pointer ip, .slice HA hn hc] #[.slice none 0 0, .int .i64 0, .int .i64 0] #[.int .i64 0] 29 40 41
  have x1 : Below w.heap.size w (((w.alloc (.cells #[.pointer p, .pointer ip, .slice HA hn hc] 29)).alloc (.cells #[.slice none 0 0, .int .i64 0, .int .i64 0] 40)).alloc (.cells #[.int .i64 0] 41)) := (((Below.refl _ _).alloc (Nat.le_refl _) _).alloc (by simp) _).alloc (by simp; omega) _
  have CC := Lib.hid h.chk
  have CB := Lib.hid fun (V : World) (hV : Below w.heap.size w V) => hb V hV
  have d0 := r1.cell 0
  have d1 := r1.cell 1
  have d2 := r1.cell 2
  refine (callsIn_wide (n := 9)).1 ?_
  refine callsIn_of_wp Tryz.func9 rfl trivial ?_ rfl
  simp only [Tryz.ntmps9, List.size_toArray, List.length_cons, List.length_nil, Nat.reduceAdd, Nat.reduceSub, Array.replicate_succ, Array.replicate_zero, List.push_toArray, List.append_toArray, List.nil_append, List.cons_append]
  gi_wp2_with fail
  refine ⟨trivial, ?_⟩
  obtain ⟨W1, hW1⟩ : ∃ W1, W1 = (((w.alloc (.cells #[.pointer p, .pointer ip, .slice HA hn hc] 29)).alloc (.cells #[.slice none 0 0, .int .i64 0, .int .i64 0] 40)).alloc (.cells #[.int .i64 0] 41)) := ⟨_, rfl⟩
  rw [← hW1] at r1 r2 r3 x1 ⊢
  refine (callsIn_wide.2 (CC.out _ x1)).mono ?_
  rintro e w1 ⟨rfl, b1⟩
  have R1 := Lib.hid (r1.below b1 r1.lt)
  have R2 := Lib.hid (r2.below b1 r2.lt)
  have R3 := Lib.hid (r3.below b1 r3.lt)
  have X1 := Lib.hid (x1.trans (b1.mono x1.size))
  have e0 := R1.out.cell 0
  have e1 := R1.out.cell 1
  have e2 := R1.out.cell 2
  clear r1 r2 r3 x1 b1 hW1 d0 d1 d2
  gi_wp2_with fail
  refine ⟨trivial, ?_⟩
  refine (callsIn_wide.2 (CB.out _ X1.out)).mono ?_
  rintro e w2 ⟨rfl, b2⟩
  have r2 := R2.out.below b2 R2.out.lt
  have r3 := R3.out.below b2 R3.out.lt
  have c0 := r2.cell 0
  have c1 := r2.cell 1
  have c2 := r2.cell 2
  have c3 := r3.cell 0
  have f0 := r2.free 0
  have f1 := r2.free 1
  have f2 := r2.free 2
  have f3 := r3.free 0
  have HB := Lib.hid (X1.out.trans (b2.mono X1.out.size))
  clear b2 r2 r3 e0 e1 e2
  have hl := R2.out.lt
  have hl3 := R3.out.lt
  clear CC CB R1 R2 R3 X1
  gi_wp2
  refine bodyPost_ret (v := .tuple #[.agg #[.slice none 0 0, .int .i64 0, .int .i64 0], .int .i64 1]) (by simp [results, Tryz.results9, go_sem, c0, c1, c2, c3]) rfl ⟨rfl, ?_⟩
  exact (((HB.out.setCell (p := ⟨w.heap.size + 1, 0, none⟩) (by simp) _).setCell (p := ⟨w.heap.size + 1, 1, none⟩) (by simp) _).setCell (p := ⟨w.heap.size + 1, 2, none⟩) (by simp) _).setCell (p := ⟨w.heap.size + 1 + 1, 0, none⟩) (by simp; omega) _
/-- What At has. -/
def AtI (w0 : World) (pre : List LnV) (S : Bk) (W : World) (r : List LnV) : Prop :=
  pre = r ∧ RawAt 40 W (w0.heap.size + 1) (match r with | [] => #[.slice none 0 0, .int .i64 0, .int .i64 0] | x :: _ => #[x.v, .int .i64 (x.fr : Int), .int .i64 (x.te : Int)]) ∧ RawAt 41 W (w0.heap.size + 2) #[.int .i64 0] ∧ S (w0.heap.size + 1) ∧ S (w0.heap.size + 2) ∧ Below w0.heap.size w0 W ∧ (∀ k, S k → k < W.heap.size ∧ w0.heap.size ≤ k)
theorem AtI.same {w0 : World} {pre : List LnV} {S : Bk} {A B : World} {r : List LnV} (h : AtI w0 pre S A r) (hs : SameS w0.heap.size S A B) : AtI w0 pre S B r := by
  obtain ⟨h1, h2, h3, h4, h5, h6, h7⟩ := h
  exact ⟨h1, (hs.2 _ h4).trans h2, (hs.2 _ h5).trans h3, h4, h5, h6.trans hs.1, fun k hk => ⟨Nat.lt_of_lt_of_le (h7 k hk).1 hs.1.size, (h7 k hk).2⟩⟩
set_option maxHeartbeats 8000000 in
set_option maxRecDepth 100000 in
theorem soAt_yes (p ip HA : Option Addr) (hn hc : Nat) (R : List Int) (H : List (Nat × Nat)) (o : List In) (f : Nat) (w : World) (h : TxtC w p ip HA hn hc R H o) (hb : BegC w p ip HA hn hc f true) (hf : f ≤ R.length) (hok : HOk R.length f (hfr f H)) (hne : linL R H o f ≠ []) :
    Calls Tryz.prog 9 #[.agg #[.pointer p, .pointer ip, .slice HA hn hc], .int .i64 (f : Int)] w fun e w' => ∃ (x : LnV) (S : Bk), e = .returned (.tuple #[encLn x, .int .i64 0]) ∧ [lnS x] <+: linL R H o f ∧ PrAt S w' x.v x.ps ∧ Below w.heap.size w w' := by
  obtain ⟨r1, r2, r3⟩ := new3 w #[.pointer p, .pointer ip, .slice HA hn hc] #[.slice none 0 0, .int .i64 0, .int .i64 0] #[.int .i64 0] 29 40 41
  have x1 : Below w.heap.size w (((w.alloc (.cells #[.pointer p, .pointer ip, .slice HA hn hc] 29)).alloc (.cells #[.slice none 0 0, .int .i64 0, .int .i64 0] 40)).alloc (.cells #[.int .i64 0] 41)) := (((Below.refl _ _).alloc (Nat.le_refl _) _).alloc (by simp) _).alloc (by simp; omega) _
  have CC := Lib.hid h.chk
  have CB := Lib.hid fun (V : World) (hV : Below w.heap.size w V) => hb V hV
  have HH := Lib.hid h
  have HOKF := Lib.hid hok
  have HNE := Lib.hid hne
  have d0 := r1.cell 0
  have d1 := r1.cell 1
  have d2 := r1.cell 2
  clear h hb hok hne
  refine (callsIn_wide (n := 9)).1 ?_
  refine callsIn_of_wp_marks Tryz.func9 rfl trivial ?_ rfl
  simp only [Tryz.ntmps9, List.size_toArray, List.length_cons, List.length_nil, Nat.reduceAdd, Nat.reduceSub, Array.replicate_succ, Array.replicate_zero, List.push_toArray, List.append_toArray, List.nil_append, List.cons_append]
  have hmx : Tryz.prog.follows .mixedOrders = true := by kernel_rfl
  gi_wp2_with fail
  refine ⟨trivial, ?_⟩
  obtain ⟨W1, hW1⟩ : ∃ W1, W1 = (((w.alloc (.cells #[.pointer p, .pointer ip, .slice HA hn hc] 29)).alloc (.cells #[.slice none 0 0, .int .i64 0, .int .i64 0] 40)).alloc (.cells #[.int .i64 0] 41)) := ⟨_, rfl⟩
  rw [← hW1] at r1 r2 r3 x1 ⊢
  refine (callsIn_wide.2 (CC.out _ x1)).mono ?_
  rintro e w1 ⟨rfl, b1⟩
  have R1 := Lib.hid (r1.below b1 r1.lt)
  have R2 := Lib.hid (r2.below b1 r2.lt)
  have R3 := Lib.hid (r3.below b1 r3.lt)
  have X1 := Lib.hid (x1.trans (b1.mono x1.size))
  have e0 := R1.out.cell 0
  have e1 := R1.out.cell 1
  have e2 := R1.out.cell 2
  clear r1 r2 r3 x1 b1 hW1 d0 d1 d2
  gi_wp2_with fail
  refine ⟨trivial, ?_⟩
  refine (callsIn_wide.2 (CB.out _ X1.out)).mono ?_
  rintro e w2 ⟨rfl, b2⟩
  have S1 := Lib.hid (R1.out.below b2 R1.out.lt)
  have S2 := Lib.hid (R2.out.below b2 R2.out.lt)
  have S3 := Lib.hid (R3.out.below b2 R3.out.lt)
  have X2 := Lib.hid (X1.out.trans (b2.mono X1.out.size))
  have e0 := S1.out.cell 0
  have e1 := S1.out.cell 1
  have e2 := S1.out.cell 2
  clear b2 R1 R2 R3 CC CB
  gi_wp2_with fail
  refine ⟨trivial, ?_⟩
  refine (soLinesF_in _ _ _ _ _ _ _ _).mono ?_
  rintro e w2' ⟨rfl, rfl⟩
  gi_wp2_with fail
  have x4 : Below w2.heap.size w2 ((w2.alloc (.cells #[.pointer p, .pointer ip, .slice HA hn hc] 29)).alloc (.cells #[.int .i64 (f : Int)] 3)) := ((Below.refl _ _).alloc (Nat.le_refl _) _).alloc (by simp) _
  have q1 : RawAt 29 ((w2.alloc (.cells #[.pointer p, .pointer ip, .slice HA hn hc] 29)).alloc (.cells #[.int .i64 (f : Int)] 3)) w2.heap.size #[.pointer p, .pointer ip, .slice HA hn hc] := (new2 w2 _ _ _ _).1
  have q2 : RawAt 3 ((w2.alloc (.cells #[.pointer p, .pointer ip, .slice HA hn hc] 29)).alloc (.cells #[.int .i64 (f : Int)] 3)) (w2.heap.size + 1) #[.int .i64 (f : Int)] := (new2 w2 _ _ _ _).2.1
  have hsz3 : ((w2.alloc (.cells #[.pointer p, .pointer ip, .slice HA hn hc] 29)).alloc (.cells #[.int .i64 (f : Int)] 3)).heap.size = w2.heap.size + 2 := by simp
  obtain ⟨w3, hw3⟩ : ∃ w3, w3 = ((w2.alloc (.cells #[.pointer p, .pointer ip, .slice HA hn hc] 29)).alloc (.cells #[.int .i64 (f : Int)] 3)) := ⟨_, rfl⟩
  rw [← hw3] at x4 q1 q2 hsz3 ⊢
  have g2 := S2.out.below x4 S2.out.lt
  have g3 := S3.out.below x4 S3.out.lt
  have X4 := Lib.hid (X2.out.trans (x4.mono X2.out.size))
  have hbl : w.heap.size + 2 < w2.heap.size := S3.out.lt
  have hseq : SeqSep Fence.wide 8 Tryz.prog 54 #[.pointer (some ⟨w2.heap.size + 1, 0, none⟩), .pointer (some ⟨w2.heap.size, 0, none⟩)] (fun x : LnV => #[encLn x]) HdL w.heap.size (fun k => k = w2.heap.size + 1 ∨ k = w2.heap.size) (fun ys => ys.map lnS = linL R H o f) (fun pre => pre.map lnS <+: linL R H o f) 120001 w3 := by
    intro l J' Jx' S0 V hV hJ' hJx' hJl' hY' h0' hS0'
    have := soLines1_in 8 l 120001 p ip HA hn hc R H o w HH.out.cln HH.out.most HH.out.cs HH.out.ru HH.out.rows HH.out.len HH.out.few HH.out.inl f hf HOKF.out (by
        have h1 := spF_len R HOKF.out
        have h2 := HH.out.most
        have h3 := HH.out.few
        have h4 := HH.out.len
        have h5 : (hfr f H).length ≤ H.length := List.length_filter_le _ _
        omega) (by omega) J' Jx' hJ' hJx' hJl' (fun S pre x H' V hj hl hd hH => anyDepthY rfl 0 (hY' S pre x H' V hj hl hd hH)) S0 (w2.heap.size + 1) w2.heap.size V (X4.out.trans (hV.mono X4.out.size)) (fun k hk => (hS0' k hk).1) h0' (q2.below hV q2.lt) (q1.below hV q1.lt) (fun h => (hS0' _ h).2 (.inl rfl)) (fun h => (hS0' _ h).2 (.inr rfl))
    exact this
  have HSEQ := Lib.hid hseq
  have hI3 : AtI w [] (fun k => k = w.heap.size + 1 ∨ k = w.heap.size + 2) w3 [] := ⟨rfl, g2, g3, .inl rfl, .inr rfl, X4.out, fun k hk => by have := g3.lt; rcases hk with rfl | rfl <;> exact ⟨by omega, by omega⟩⟩
  have HI3 := Lib.hid hI3
  clear hseq q1 q2 x4 hw3 g2 g3 hI3
  refine wpIn_rangeFunc_sep rfl (by omega) (gf := 54) (lb := #[.pointer (some ⟨w2.heap.size + 1, 0, none⟩), .pointer (some ⟨w2.heap.size, 0, none⟩)]) rfl trivial (enters_of Tryz.func54 (by kernel_rfl) rfl)
    HSEQ.out (fun S x A B h hs => PrAt.same h hs.2) X4.out.size (by rintro k (rfl | rfl) <;> omega) (fun _ => rfl)
    (fun S pre V => AtI w pre S V []) (fun c S pre V => c = .ret ∧ ∃ x, AtI w pre S V [x] ∧ PrAt S V x.v x.ps) (fun S s A B h hs => h.same hs) (by rintro S s A ⟨h1, h2, h3, h4, h5, h6, h7⟩ k hk; exact (h7 k hk).1) (by rintro c S s A B ⟨h0, x, h1, h2⟩ hs; exact ⟨h0, x, h1.same hs, h2.same hs.2⟩)
    (fun k => k = w.heap.size + 1 ∨ k = w.heap.size + 2) ?s0 HI3.out
    (fun b x a' V => ∃ Bx, b ≤ Bx ∧ RawAt 40 V Bx #[x.v, .int .i64 (x.fr : Int), .int .i64 (x.te : Int)] ∧ a' = { tmps := #[.agg #[.pointer p, .pointer ip, .slice HA hn hc], .int .i64 (f : Int), .pointer (some ⟨w.heap.size, 0, none⟩), undef, .pointer (some ⟨w.heap.size + 1, 0, none⟩), .pointer (some ⟨w.heap.size + 2, 0, none⟩), .int .i64 0, .pointer (some ⟨Bx, 0, none⟩), .agg #[.pointer p, .pointer ip, .slice HA hn hc], .int .i64 0, .int .i64 0, .bool false, undef, undef, .agg #[.pointer p, .pointer ip, .slice HA hn hc], .int .i64 (f : Int), .bool true, .agg #[.pointer p, .pointer ip, .slice HA hn hc], .int .i64 (f : Int), .func (.func 54) #[] #[.pointer (some ⟨w2.heap.size + 1, 0, none⟩), .pointer (some ⟨w2.heap.size, 0, none⟩)], encLn x, undef, undef], defers := [] }) ?hax ?assign ?body ?done ?stop
  case s0 =>
    rintro k (rfl | rfl)
    · exact ⟨by omega, fun e => by rcases e with e | e <;> omega⟩
    · exact ⟨by omega, fun e => by rcases e with e | e <;> omega⟩
  case hax =>
    rintro b x a' V V' ⟨Bx, g1, g2, g3⟩ hk
    exact ⟨Bx, g1, hk _ _ g2 rfl, g3⟩
  case assign =>
    intro l x V K hK
    unfold encLn
    gi_wp2
    exact hK _ _ ((Below.refl _ _).alloc (Nat.le_refl _) _) ⟨V.heap.size, Nat.le_refl _, heap_alloc_new V _, rfl⟩
  case done =>
    rintro D S xs V hD hnD hxs ⟨h1, _⟩ hK
    subst h1
    exact absurd hxs.symm HNE.out
  case stop =>
    rintro D c S pre V hD hnD hpre ⟨rfl, x, hI, hp⟩ hK
    obtain ⟨h1, h2, h3, h4, h5, h6, h7⟩ := hI
    subst h1
    have hd : w.heap.size ≤ D := by have := X4.out.size; omega
    have hsm : SameS w.heap.size S V (V.putObj D (.deferred none)) := SameS.put _ _ _ hd hnD
    have HP := Lib.hid (hp.same hsm.2)
    have HB := Lib.hid (h6.trans hsm.1)
    have HX := Lib.hid hpre
    have h2' : RawAt 40 (V.putObj D (.deferred none)) (w.heap.size + 1) #[x.v, .int .i64 (x.fr : Int), .int .i64 (x.te : Int)] := (hsm.2 _ h4).trans h2
    have h3' : RawAt 41 (V.putObj D (.deferred none)) (w.heap.size + 2) #[.int .i64 0] := (hsm.2 _ h5).trans h3
    have c0 := h2'.cell 0
    have c1 := h2'.cell 1
    have c2 := h2'.cell 2
    have c3 := h3'.cell 0
    clear h2 h3 h4 h5 h6 h7 hp hpre hsm h2' h3'
    gi_wp2
    refine ⟨by simp, .inl ⟨_, _, rfl, run_takeDeferred hK, ?_⟩⟩
    refine ⟨_, by simp [results, Tryz.results9, go_sem, c0, c1, c2, c3]; rfl, x, S, rfl, HX.out, HP.out, HB.out⟩
  case body =>
    rintro l S pre x H' b a' V hb0 hbV ⟨h1, h2, h3, h4, h5, h6, h7⟩ hlen hd hSb hHb ⟨Bx, hBx, rx, rfl⟩
    subst h1
    obtain ⟨Ax, cx, xps, xf, xt⟩ := x
    unfold encLn
    simp only [LnV.v] at rx hd h2 ⊢
    have b0 := rx.cell 0
    have b1 := rx.cell 1
    have b2 := rx.cell 2
    have c0 := h2.cell 0
    have c1 := h2.cell 1
    have c2 := h2.cell 2
    have c3 := h3.cell 0
    have f0 := h2.free 0
    have f1 := h2.free 1
    have f2 := h2.free 2
    have f3 := h3.free 0
    have H2 := Lib.hid h2
    have H3 := Lib.hid h3
    have H4 := Lib.hid h4
    have H5 := Lib.hid h5
    have H6 := Lib.hid h6
    have H7 := Lib.hid h7
    have HD := Lib.hid hd
    have HHB := Lib.hid hHb
    clear h2 h3 h4 h5 h6 h7 hd hSb hHb rx
    gi_wp2
    have far : ∀ k, k ≠ w.heap.size + 1 → k ≠ w.heap.size + 2 → ((((V.setCell ⟨w.heap.size + 1, 0, none⟩ (.slice Ax xps.length cx)).setCell ⟨w.heap.size + 1, 1, none⟩ (.int .i64 (xf : Int))).setCell ⟨w.heap.size + 1, 2, none⟩ (.int .i64 (xt : Int))).setCell ⟨w.heap.size + 2, 0, none⟩ (.int .i64 0)).heap[k]? = V.heap[k]? := fun k e1 e2 => (Below.heap_setCell _ (⟨w.heap.size + 2, 0, none⟩ : Addr) _ _ e2).trans ((Below.heap_setCell _ (⟨w.heap.size + 1, 2, none⟩ : Addr) _ _ e1).trans ((Below.heap_setCell _ (⟨w.heap.size + 1, 1, none⟩ : Addr) _ _ e1).trans (Below.heap_setCell _ (⟨w.heap.size + 1, 0, none⟩ : Addr) _ _ e1)))
    have g4 : RawAt 40 ((((V.setCell ⟨w.heap.size + 1, 0, none⟩ (.slice Ax xps.length cx)).setCell ⟨w.heap.size + 1, 1, none⟩ (.int .i64 (xf : Int))).setCell ⟨w.heap.size + 1, 2, none⟩ (.int .i64 (xt : Int))).setCell ⟨w.heap.size + 2, 0, none⟩ (.int .i64 0)) (w.heap.size + 1) #[.slice Ax xps.length cx, .int .i64 (xf : Int), .int .i64 (xt : Int)] := by
      have h9 := ((H2.out.set_ 0 (.slice Ax xps.length cx)).set_ 1 (.int .i64 (xf : Int))).set_ 2 (.int .i64 (xt : Int))
      have h8 := (Below.heap_setCell _ (⟨w.heap.size + 2, 0, none⟩ : Addr) (.int .i64 0) (w.heap.size + 1) (fun e => by simp at e)).trans h9
      unfold RawAt
      simpa using h8
    have e5 : ((V.setCell ⟨w.heap.size + 1, 0, none⟩ (.slice Ax xps.length cx)).setCell ⟨w.heap.size + 1, 1, none⟩ (.int .i64 (xf : Int))).setCell ⟨w.heap.size + 1, 2, none⟩ (.int .i64 (xt : Int)) |>.heap[w.heap.size + 2]? = V.heap[w.heap.size + 2]? := (Below.heap_setCell _ (⟨w.heap.size + 1, 2, none⟩ : Addr) _ _ (fun e => by simp at e)).trans ((Below.heap_setCell _ (⟨w.heap.size + 1, 1, none⟩ : Addr) _ _ (fun e => by simp at e)).trans (Below.heap_setCell _ (⟨w.heap.size + 1, 0, none⟩ : Addr) _ _ (fun e => by simp at e)))
    have g5 : RawAt 41 ((((V.setCell ⟨w.heap.size + 1, 0, none⟩ (.slice Ax xps.length cx)).setCell ⟨w.heap.size + 1, 1, none⟩ (.int .i64 (xf : Int))).setCell ⟨w.heap.size + 1, 2, none⟩ (.int .i64 (xt : Int))).setCell ⟨w.heap.size + 2, 0, none⟩ (.int .i64 0)) (w.heap.size + 2) #[.int .i64 0] := RawAt.set_ (t := 41) (e5.trans H3.out) 0 _
    have hz : Below 0 V ((((V.setCell ⟨w.heap.size + 1, 0, none⟩ (.slice Ax xps.length cx)).setCell ⟨w.heap.size + 1, 1, none⟩ (.int .i64 (xf : Int))).setCell ⟨w.heap.size + 1, 2, none⟩ (.int .i64 (xt : Int))).setCell ⟨w.heap.size + 2, 0, none⟩ (.int .i64 0)) := ((((Below.refl 0 V).setCell (p := ⟨_, _, none⟩) (Nat.zero_le _) _).setCell (p := ⟨_, _, none⟩) (Nat.zero_le _) _).setCell (p := ⟨_, _, none⟩) (Nat.zero_le _) _).setCell (p := ⟨_, _, none⟩) (Nat.zero_le _) _
    have kS : KeptS S V ((((V.setCell ⟨w.heap.size + 1, 0, none⟩ (.slice Ax xps.length cx)).setCell ⟨w.heap.size + 1, 1, none⟩ (.int .i64 (xf : Int))).setCell ⟨w.heap.size + 1, 2, none⟩ (.int .i64 (xt : Int))).setCell ⟨w.heap.size + 2, 0, none⟩ (.int .i64 0)) := ⟨hz, fun k _ hn => far k (fun e => hn (e ▸ H4.out)) (fun e => hn (e ▸ H5.out))⟩
    refine ⟨kS, fun k => S k ∨ H' k, fun k g => g.imp id .inl, rfl, ⟨Ax, cx, xps, xf, xt⟩, ⟨rfl, g4, g5, .inl H4.out, .inl H5.out, H6.out.trans (kS.below (fun k g => (H7.out k g).2) H6.out.size), fun k g => ?_⟩, ?_⟩
    · rcases g with g | g
      · exact ⟨Nat.lt_of_lt_of_le (H7.out k g).1 hz.size, (H7.out k g).2⟩
      · have := HHB.out k g
        exact ⟨by have := hz.size; omega, this.2.2⟩
    · exact (HD.out.same (fun k g => far k (fun e => (HHB.out k g).1 (e ▸ H4.out)) (fun e => (HHB.out k g).1 (e ▸ H5.out)))).grow (fun k g => .inr g)
end Go.Proofs.YtpnjokhhbjpciaaGreatDoor
