/- Folds: the contract of Shift, of any set. -/
import Derived.Test.YtnfjleobcfhpnaaFoS
import Derived.Test.YtnfjleobcfhpnaaPtB
import Derived.Test.YtnfjleobcfhpnaaPtE
namespace Go.Proofs.Ytnfjleobcfhpnaa
open Go.RowKit Go.Sort
set_option linter.unusedVariables false
/-- Where changes end. -/
def folast (l : List Ch) : Int := match l.getLast? with | some c => c.ob | none => 0
set_option maxHeartbeats 8000000 in
set_option maxRecDepth 100000 in
theorem fBehind_any (A : Option Addr) (m c : Nat) (l : List Ch) (n : Int) (w : World) (hA : ChsAt w A l) (hl : l.length = m) (hm : m ≤ 1000000) (hn : 0 ≤ n) (r : Bool) (hr : r = true ↔ n < folast l) : Calls Try.prog 44 #[.slice A m c, .int .i64 n] w fun e w' => e = .returned (.bool r) ∧ Below w.heap.size w w' := by
  rcases Nat.eq_zero_or_pos m with h0 | h0
  · subst h0
    have hz : l = [] := List.eq_nil_of_length_eq_zero hl
    subst hz
    have hrr : r = false := by cases r; rfl; exact absurd (hr.1 rfl) (by simp [folast]; omega)
    subst hrr
    clear hr hA
    go_enter Try.func44, Try.ntmps44
    go_wp2
    go_ret
    exact ⟨rfl, Below.refl _ _⟩
  · obtain ⟨j, rfl⟩ : ∃ j, m = j + 1 := ⟨m - 1, by omega⟩
    have hjl : j < l.length := by omega
    obtain ⟨b, off, rfl, hb, c0, c1, c2, c3⟩ := hA.at1 hjl
    have hol : folast l = (cth l j).ob := by
      unfold folast
      rw [List.getLast?_eq_getElem?, hl, Nat.add_sub_cancel, List.getElem?_eq_getElem hjl]
      simp [cth, List.getD, hjl]
    rw [hol] at hr
    have HR := Lib.hid hr
    clear hr hol hA c0 c2 c3 hl
    generalize (cth l j).ob = ob at *
    have n1 : (j : Int) + 1 - 1 = j := by omega
    have n2 : IntKind.i64.wrap (j : Int) = j := IntWalk.i64_in _ (by omega)
    have n3 : IntKind.i64.wrap ((j : Int) + 1 - 1) = j := by rw [n1]; exact n2
    have i1 : (0 : Int) ≤ j := by omega
    have i2 : (j : Int) < (j : Int) + 1 := by omega
    have k1 : decide ((0 : Int) < (j : Int) + 1) = true := decide_eq_true (by omega)
    by_cases g : n < ob
    · have k2 : decide (n < ob) = true := decide_eq_true g
      have hrr : r = true := HR.out.2 g
      subst hrr
      clear HR
      go_enter Try.func44, Try.ntmps44
      go_wp2
      go_ret
      exact ⟨rfl, Below.refl _ _⟩
    · have k2 : decide (n < ob) = false := decide_eq_false g
      have hrr : r = false := by cases r; rfl; exact absurd (HR.out.1 rfl) g
      subst hrr
      clear HR
      go_enter Try.func44, Try.ntmps44
      go_wp2
      go_ret
      exact ⟨rfl, Below.refl _ _⟩
/-- A fold, shifted; folds shifted by a patch. -/
def fsh (p : List Ch) (a : Fo) : Fo := ⟨mp 0 0 p a.f 1, mp 0 0 p a.t 0⟩
def fstp (p : List Ch) (out : List Fo) (a : Fo) : List Fo := if (fsh p a).f < (fsh p a).t ∧ fsh p a ∉ out then out ++ [fsh p a] else out
def fshift (p : List Ch) (o : List Fo) : List Fo := o.foldl (fstp p) []
theorem fshift_take {p : List Ch} {o : List Fo} {k : Nat} (h : k < o.length) : fshift p (o.take (k + 1)) = fstp p (fshift p (o.take k)) o[k] := by
  unfold fshift
  rw [List.take_succ_eq_append_getElem h, List.foldl_append]
  rfl
theorem fstp_len (p : List Ch) (out : List Fo) (a : Fo) : (fstp p out a).length ≤ out.length + 1 := by
  unfold fstp
  split <;> simp
theorem fshift_len (p : List Ch) : ∀ (n : Nat) (o : List Fo), o.length = n → (fshift p o).length ≤ n := by
  intro n
  induction n with
  | zero => intro o h; obtain rfl := List.eq_nil_of_length_eq_zero h; simp [fshift]
  | succ n ih =>
    intro o h
    obtain ⟨c, x, rfl⟩ : ∃ c x, o = c ++ [x] := ⟨o.dropLast, o.getLast (by intro e; subst e; simp at h), (List.dropLast_concat_getLast _).symm⟩
    have h1 := ih c (by simpa using h)
    have h2 := fstp_len p (fshift p c) x
    have e : fshift p (c ++ [x]) = fstp p (fshift p c) x := by unfold fshift; rw [List.foldl_append]; rfl
    rw [e]
    omega
theorem mp_bd : ∀ {p q : Int} {fi : Bool} {l : List Ch}, nrm M40 p q fi l → 0 ≤ p → p ≤ M40 → 0 ≤ q → q ≤ M40 → ∀ (at_ bi : Int), 0 ≤ at_ → -1099511627776 ≤ mp p q l at_ bi ∧ mp p q l at_ bi ≤ at_ + 1099511627776
  | p, q, _, [], _, h1, h2, h3, h4, at_, bi, h5 => by unfold mp; unfold M40 at h2 h4; omega
  | p, q, _, c :: l, hn, h1, h2, h3, h4, at_, bi, h5 => by
    obtain ⟨⟨a1, a2, a3⟩, a4, a5, a6⟩ := nrm_mem hn c (List.mem_cons_self ..)
    have ih := mp_bd hn.2 (by omega) a3 (by omega) a6 at_ bi h5
    unfold mp
    unfold M40 at *
    split
    · omega
    · split
      · split <;> omega
      · exact ih
theorem fsh_wf {p : List Ch} (h : nrm M40 0 0 true p) {a : Fo} (h0 : 0 ≤ a.f) (h1 : a.f ≤ 1099511627776) (h2 : 0 ≤ a.t) (h3 : a.t ≤ 1099511627776) : (Lit.int .i64 (fsh p a).f).wf = true ∧ (Lit.int .i64 (fsh p a).t).wf = true := by
  have e1 := mp_bd h (by decide) (by decide) (by decide) (by decide) a.f 1 h0
  have e2 := mp_bd h (by decide) (by decide) (by decide) (by decide) a.t 0 h2
  unfold fsh
  have key : ∀ x : Int, -9223372036854775808 ≤ x → x ≤ 9223372036854775807 → (Lit.int .i64 x).wf = true := fun x g1 g2 => by
    have m1 : IntKind.i64.min = -9223372036854775808 := by decide
    have m2 : IntKind.i64.max = 9223372036854775807 := by decide
    show (decide (IntKind.i64.min ≤ x) && decide (x ≤ IntKind.i64.max)) = true
    rw [m1, m2, decide_eq_true g1, decide_eq_true g2]
    rfl
  exact ⟨key _ (by simp only; omega) (by simp only; omega), key _ (by simp only; omega) (by simp only; omega)⟩
theorem own_grown_ne {w w' : World} {row : Option Nat} {base : Nat} {e : TypeId} {size : Nat} {v : Value} {n : Nat} {xs : List Value} (h : w.ownsRow base e size v n xs) (hg : w.grownBy w' row) (hb : ∀ g, v.ownBlock = some g → some g ≠ row) : w'.ownsRow base e size v n xs := by
  have hlt := h.lt
  refine ⟨h.1, ?_⟩
  rcases h.2 with h2 | ⟨g, cap, cur, rfl, hB, c, h3⟩
  · exact .inl h2
  · exact .inr ⟨g, cap, cur, rfl, hB, (hg.block g (hlt g rfl).2 (hb g rfl)).trans c, h3⟩
/-- What Shift tells. -/
def FShIs (n : Int) (p : List Ch) (o : List Fo) (r : Int) : Prop := (¬ nrm M40 0 0 true p → r = 4) ∧ (nrm M40 0 0 true p → n < folast p → r = 1) ∧ (nrm M40 0 0 true p → ¬ n < folast p → r = fwrong (n + dlt p) (fshift p o))
def FShRes (p : List Ch) (o : List Fo) (r nd : Int) (w : World) (e : Ending) (w' : World) : Prop := ∃ ptr, e = .returned (.tuple #[ptr, .int .i64 r]) ∧ (r ≠ 0 → ptr = .pointer none) ∧ (r = 0 → ∃ sb, ptr = .pointer (some ⟨sb, 0, none⟩) ∧ FSet w' sb nd (ord flt (fshift p o))) ∧ Below w.heap.size w w'
set_option maxHeartbeats 32000000 in
set_option maxRecDepth 100000 in
theorem fShift_any {w : World} {o : List Fo} {sb : Nat} {n : Int} (hS : FSet w sb n o) (PA : Option Addr) (m c : Nat) (p : List Ch) (hP : ChsAt w PA p) (hp : p.length = m) (hm : m ≤ 1000) (h0 : 0 ≤ n) (h40 : n ≤ 1099511627776) (hok : ∀ a ∈ o, a.f < a.t ∧ 0 ≤ a.f ∧ a.t ≤ n) (ho : o.length ≤ 60)
    (r : Int) (hr : FShIs n p o r) (nd : Int) (hnd : nd = n + dlt p) :
    Calls Try.prog 20 #[.pointer (some ⟨sb, 0, none⟩), .slice PA m c] w (FShRes p o r nd w) := by
  have HR := Lib.hid hr
  have HP := Lib.hid hP
  have HPL := Lib.hid hp
  have CL := Lib.hid fun (W : World) (hW : Below w.heap.size w W) => fLen_any (hS.below hW)
  clear hr hP hp
  by_cases hn : nrm M40 0 0 true p
  · have CN := Lib.hid (pNormal_any PA m c p w true HP.out HPL.out (by omega) ⟨fun _ => hn, fun _ => rfl⟩)
    have hbd := dlt_bd (K := 1099511627776) (by decide) (l := p) (fun x hx => by
      obtain ⟨⟨a1, a2, a3⟩, a4, a5, a6⟩ := nrm_mem hn x hx
      unfold M40 at a3 a6
      omega)
    have hbd2 := HPL.out
    have wr1 : IntKind.i64.wrap (n + dlt p) = nd := by rw [← hnd]; exact IntWalk.i64_in _ (by omega)
    by_cases hb : n < folast p
    · have e : r = 1 := HR.out.2.1 hn hb
      subst e
      clear HR
      have CB := Lib.hid fun (W : World) (hW : Below w.heap.size w W) => fBehind_any PA m c p n W (HP.out.below hW) HPL.out (by omega) h0 true ⟨fun _ => hb, fun _ => rfl⟩
      clear hn hb hbd hbd2 hnd wr1
      go_enter Try.func20, Try.ntmps20
      go_wp2_with fail
      with_reducible refine (CN.out).mono ?_
      rintro e w1 ⟨rfl, bb⟩
      have Q1 := Lib.hid bb
      clear bb
      go_wp2_with fail
      with_reducible refine (CL.out _ Q1.out).mono ?_
      rintro e w2 ⟨rfl, bb⟩
      have Q2 := Lib.hid (Q1.out.trans (bb.mono Q1.out.size))
      clear bb
      go_wp2_with fail
      with_reducible refine (CB.out _ Q2.out).mono ?_
      rintro e w3 ⟨rfl, bb⟩
      have Q3 := Lib.hid (Q2.out.trans (bb.mono Q2.out.size))
      clear bb
      go_wp2
      go_ret2
      first | exact ⟨_, rfl, rfl, Q3.out⟩ | exact ⟨_, rfl, fun _ => rfl, fun h => absurd h (by decide), Q3.out⟩
    · have HE : Hid (r = fwrong nd (fshift p o)) := Lib.hid (by rw [hnd]; exact HR.out.2.2 hn hb)
      have CB := Lib.hid fun (W : World) (hW : Below w.heap.size w W) => fBehind_any PA m c p n W (HP.out.below hW) HPL.out (by omega) h0 false ⟨fun h => absurd h (by decide), fun h => absurd h hb⟩
      have CD := Lib.hid fun (W : World) (hW : Below w.heap.size w W) => pDelta_any PA m c p W (HP.out.below hW) HPL.out (by omega) (nrm_mem hn)
      have CM := Lib.hid fun (x y : Int) (W : World) (hW : Below w.heap.size w W) (g1 : 0 ≤ x) (g2 : x ≤ 1099511627776) (g3 : y = 0 ∨ y = 1) => pMap_yes PA m c p x y W (HP.out.below hW) HPL.out (by omega) hn g1 g2 g3
      have hwf : ∀ a ∈ o, (Lit.int .i64 (fsh p a).f).wf = true ∧ (Lit.int .i64 (fsh p a).t).wf = true := fun a ha => by
        obtain ⟨e1, e2, e3⟩ := hok a ha
        exact fsh_wf hn e2 (by omega) (by omega) (by omega)
      have hwf2 : ∀ (j : Nat) (q : List Fo), q.length = j → (∀ a ∈ q, a ∈ o) → ∀ a ∈ fshift p q, (Lit.int .i64 a.f).wf = true ∧ (Lit.int .i64 a.t).wf = true := by
        intro j
        induction j with
        | zero => intro q hq _ a ha; obtain rfl := List.eq_nil_of_length_eq_zero hq; simp [fshift] at ha
        | succ j ih =>
          intro q hq hqo a ha
          obtain ⟨c', x, rfl⟩ : ∃ c' x, q = c' ++ [x] := ⟨q.dropLast, q.getLast (by intro e; subst e; simp at hq), (List.dropLast_concat_getLast _).symm⟩
          have e : fshift p (c' ++ [x]) = fstp p (fshift p c') x := by unfold fshift; rw [List.foldl_append]; rfl
          rw [e] at ha
          unfold fstp at ha
          have h1 := ih c' (by simpa using hq) (fun a ha => hqo a (List.mem_append_left _ ha))
          split at ha
          · rcases List.mem_append.1 ha with ha | ha
            · exact h1 a ha
            · rw [List.mem_singleton.1 ha]; exact hwf x (hqo x (by simp))
          · exact h1 a ha
      have hwf3 := hwf2 _ o rfl (fun a ha => ha)
      have hlen3 := fshift_len p _ o rfl
      have hlenk : ∀ k, (fshift p (o.take k)).length ≤ 60 := fun k => by
        have h1 := fshift_len p _ (o.take k) rfl
        rw [List.length_take] at h1
        omega
      have HWF := Lib.hid hwf
      have HWF3 := Lib.hid hwf3
      have HOK := Lib.hid hok
      obtain ⟨v0, r1, r2⟩ := hS
      obtain ⟨A0, c0, rfl, hR0, _, hC0⟩ := rows_of_own encF_len (by omega) r2
      have CK := Lib.hid fun (W : World) (hW : Below w.heap.size w W) => fKept_any (r1.below hW r1.lt)
      have HR0 := Lib.hid hR0
      have tf0 := ffld0
      have tf1 := ffld1
      have hmm := @run_makeMap Try.prog
      obtain ⟨k0, hk0⟩ : ∃ k0, k0 = o.length := ⟨_, rfl⟩
      have HK0 := Lib.hid hk0
      rw [← hk0] at CK ho hlen3
      clear HR hn hb hbd hbd2 hnd hwf hwf2 hwf3 hok r1 r2 hR0 hC0 hk0
      generalize hdl : dlt p = dl at *
      clear hdl
      go_enter Try.func20, Try.ntmps20
      go_wp2_with fail
      with_reducible refine (CN.out).mono ?_
      rintro e w1 ⟨rfl, bb⟩
      have Q1 := Lib.hid bb
      clear bb
      go_wp2_with fail
      with_reducible refine (CL.out _ Q1.out).mono ?_
      rintro e w2 ⟨rfl, bb⟩
      have Q2 := Lib.hid (Q1.out.trans (bb.mono Q1.out.size))
      clear bb
      go_wp2_with fail
      with_reducible refine (CB.out _ Q2.out).mono ?_
      rintro e w3 ⟨rfl, bb⟩
      have Q3 := Lib.hid (Q2.out.trans (bb.mono Q2.out.size))
      clear bb
      have x4 : Below w3.heap.size w3 (w3.alloc (.map #[] 0)) := (Below.refl _ _).alloc (Nat.le_refl _) _
      have M4 := Lib.hid (MapV.made (P := Try.prog) (K := 33) (kl := fkl) w3)
      have Q4 := Lib.hid (Q3.out.trans (x4.mono Q3.out.size))
      have CK4 := Lib.hid (CK.out _ Q4.out)
      obtain ⟨mb, hmb⟩ : ∃ mb, mb = w3.heap.size := ⟨_, rfl⟩
      have HMB := Lib.hid hmb
      clear x4 hmb
      go_wp2_with fail
      with_reducible refine CK4.out.mono ?_
      rintro e w5 ⟨rfl, bb⟩
      have Q5 := Lib.hid (Q4.out.trans (bb.mono Q4.out.size))
      have hm5 := M4.out.below bb
      rw [← HMB.out] at hm5 ⊢
      have M5 : Hid (MapV Try.prog 33 fkl w5 mb 0 (fseen [])) := Lib.hid (MapV.congr hm5 fun x => by simp [fseen])
      have hmb5 : mb < w5.heap.size := hm5.lt
      have hmbw : w.heap.size ≤ mb := by rw [HMB.out]; exact Q3.out.size
      clear bb hm5 M4 CK4 Q4 Q3 Q2 Q1 CB CN HMB CK
      go_wp2_with fail
      go_loopg [7, 22] k0 (fun g v i wr => ∃ (k : Nat) (out : List Fo), i = .int .i64 k ∧ k ≤ k0 ∧ k0 - k ≤ g ∧ out.length ≤ 60 ∧ Hid (out = fshift p (o.take k)) ∧ Hid (Below w.heap.size w wr) ∧ Hid (w5.heap.size ≤ wr.heap.size) ∧ Hid (wr.ownsRow w5.heap.size 33 2 v out.length (kfl encF out)) ∧ Hid (MapV Try.prog 33 fkl wr mb out.length (fseen out)))
      case atStart => exact ⟨0, [], rfl, by omega, by omega, by simp, Lib.hid (by simp [fshift]), Q5, Lib.hid (Nat.le_refl _), Lib.hid (World.ownsRow_nil _ _ _ _), M5⟩
      case round =>
        clear Q5 M5
        obtain ⟨k, out, rfl, h1, h2, h3, hout, hb, hsz, hown, hM⟩ := hrel
        have hlt4 := hown.out.lt
        obtain ⟨A3, c3, rfl⟩ := own_formF hown.out
        by_cases hlt : k < k0
        · have hkl : k < o.length := by rw [← HK0.out]; exact hlt
          obtain ⟨bA, off, rfl, hbA, d0, d1⟩ := (HR0.out.below hb.out).in2F hkl
          have hst := fshift_take (p := p) hkl
          rw [← hout.out] at hst
          have hlk := hlenk (k + 1)
          have hwfa := HWF.out _ (List.getElem_mem hkl)
          have hoka := HOK.out _ (List.getElem_mem hkl)
          have HST := Lib.hid hst
          clear hst hout
          generalize o[k] = x at *
          obtain ⟨z1, hz1⟩ : ∃ z1, z1 = mp 0 0 p x.f 1 := ⟨_, rfl⟩
          obtain ⟨z2, hz2⟩ : ∃ z2, z2 = mp 0 0 p x.t 0 := ⟨_, rfl⟩
          have hfs : fsh p x = ⟨z1, z2⟩ := by unfold fsh; rw [← hz1, ← hz2]
          rw [hfs] at hwfa
          have i1 : (0 : Int) ≤ k := by omega
          have i2 : (k : Int) < k0 := by omega
          have x3 : Below wr.heap.size wr (wr.alloc (.cells #[.int .i64 x.f, .int .i64 x.t] 33)) := (Below.refl _ _).alloc (Nat.le_refl _) _
          have R3 : RawAt 33 (wr.alloc (.cells #[.int .i64 x.f, .int .i64 x.t] 33)) wr.heap.size #[.int .i64 x.f, .int .i64 x.t] := heap_alloc_new wr _
          have HB3 := Lib.hid (hb.out.trans (x3.mono hb.out.size))
          have HR3 := Lib.hid R3
          have CM1 := Lib.hid (CM.out x.f 1 _ HB3.out hoka.2.1 (by omega) (.inr rfl))
          have CM2 := Lib.hid fun (W : World) (hW : Below w.heap.size w W) => CM.out x.t 0 W hW (by omega) (by omega) (.inl rfl)
          rw [← hz1] at CM1
          rw [← hz2] at CM2
          have hst2 := HST.out
          unfold fstp at hst2
          rw [hfs] at hst2
          have HS2 := Lib.hid hst2
          have OW3 := Lib.hid (own_below hown.out x3)
          have MM3 := Lib.hid (hM.out.below x3)
          have hwsz : w.heap.size ≤ wr.heap.size := hb.out.size
          have hmbl : mb < wr.heap.size := hM.out.lt
          have HSZ := Lib.hid hsz.out
          have hne4 : ∀ g, (Value.slice A3 out.length c3).ownBlock = some g → g ≠ wr.heap.size := fun g hg => Nat.ne_of_lt (hlt4 g hg).2
          have hne5 : ∀ g, (Value.slice A3 out.length c3).ownBlock = some g → some g ≠ some mb := fun g hg h => by injection h with h; have := (hlt4 g hg).1; omega
          clear hown hM hb hsz x3 R3 hz1 hz2 hst2 hfs HST hoka
          obtain ⟨bX, hbX⟩ : ∃ bX, bX = wr.heap.size := ⟨_, rfl⟩
          have HBX := Lib.hid hbX
          go_wp2_with fail
          with_reducible refine CM1.out.mono ?_
          rintro e w6 ⟨rfl, b6⟩
          have r6 := HR3.out.below b6 HR3.out.lt
          have f6 := r6.free 0
          have g6 := RawAt.cell r6 0
          have g6' := RawAt.cell r6 1
          simp at g6 g6'
          have B6 := (HB3.out.trans (b6.mono HB3.out.size)).setCell (p := ⟨wr.heap.size, 0, none⟩) hwsz (.int .i64 z1)
          have r7 : RawAt 33 (w6.setCell ⟨wr.heap.size, 0, none⟩ (.int .i64 z1)) wr.heap.size #[.int .i64 z1, .int .i64 x.t] := r6.set_ 0 (.int .i64 z1)
          have O7 := own_neF (own_below OW3.out b6) hne4 0 (.int .i64 z1)
          have M7 := (MM3.out.below b6).setCell (a := ⟨wr.heap.size, 0, none⟩) (by simp; omega) (.int .i64 z1)
          obtain ⟨W7, hW7⟩ : ∃ W7, W7 = w6.setCell ⟨wr.heap.size, 0, none⟩ (.int .i64 z1) := ⟨_, rfl⟩
          rw [← hW7] at B6 r7 O7 M7
          have HW7 := Lib.hid hW7
          have HB7 := Lib.hid B6
          have HR7 := Lib.hid r7
          have HO7 := Lib.hid O7
          have HM7 := Lib.hid M7
          clear hW7 B6 r7 O7 M7 r6 b6 OW3 MM3 HR3 CM1
          go_wp2_with fail
          rw [← HW7.out]
          clear HW7 g6 g6' f6
          with_reducible refine (CM2.out _ HB7.out).mono ?_
          rintro e w8 ⟨rfl, b8⟩
          have r8 := HR7.out.below b8 HR7.out.lt
          have f8 := r8.free 1
          have g8 := RawAt.cell r8 0
          have g8' := RawAt.cell r8 1
          simp at g8 g8'
          have B8 := (HB7.out.trans (b8.mono HB7.out.size)).setCell (p := ⟨wr.heap.size, 1, none⟩) hwsz (.int .i64 z2)
          have r9 : RawAt 33 (w8.setCell ⟨wr.heap.size, 1, none⟩ (.int .i64 z2)) wr.heap.size #[.int .i64 z1, .int .i64 z2] := r8.set_ 1 (.int .i64 z2)
          have O9 := own_neF (own_below HO7.out b8) hne4 1 (.int .i64 z2)
          have M9 := (HM7.out.below b8).setCell (a := ⟨wr.heap.size, 1, none⟩) (by simp; omega) (.int .i64 z2)
          have S9 : w5.heap.size ≤ (w8.setCell ⟨wr.heap.size, 1, none⟩ (.int .i64 z2)).heap.size := by have := b8.size; have := HSZ.out; have := r9.lt; omega
          have L9 := M9.look1 fkey Try.underlying81 (fbool_zero _) ⟨⟨z1, z2⟩, hwfa⟩ trivial
          have HB9 := Lib.hid B8
          have HR9 := Lib.hid r9
          have HO9 := Lib.hid O9
          have HM9 := Lib.hid M9
          have HS9 := Lib.hid S9
          clear B8 r9 O9 M9 r8 b8 HB7 HR7 HO7 HM7 CM2 S9
          by_cases gz : z1 < z2
          · have k5 : decide (z1 < z2) = true := decide_eq_true gz
            by_cases gm : (⟨z1, z2⟩ : Fo) ∈ out
            · have hlk1 : (Instr.lookup 81 (.map (some mb)) (.agg #[.int .i64 z1, .int .i64 z2]) false).run Try.prog (w8.setCell ⟨wr.heap.size, 1, none⟩ (.int .i64 z2)) = .ok (.bool true) (w8.setCell ⟨wr.heap.size, 1, none⟩ (.int .i64 z2)) := by
                have := L9
                unfold fseen at this
                rw [if_pos gm] at this
                exact this
              have HN : Hid (out = fshift p (o.take (k + 1))) := Lib.hid (by rw [HS2.out, if_neg (fun h => h.2 gm)])
              clear L9 HS2 gm
              go_wp2
              go_roundg (gk - 1)
              case measure => omega
              case rel => exact ⟨k + 1, out, by go_num, by omega, by omega, by omega, HN, HB9, HS9, HO9, HM9⟩
            · have hlk1 : (Instr.lookup 81 (.map (some mb)) (.agg #[.int .i64 z1, .int .i64 z2]) false).run Try.prog (w8.setCell ⟨wr.heap.size, 1, none⟩ (.int .i64 z2)) = .ok (.bool false) (w8.setCell ⟨wr.heap.size, 1, none⟩ (.int .i64 z2)) := by
                have := L9
                unfold fseen at this
                rw [if_neg gm] at this
                exact this
              have HN : Hid (out ++ [Fo.mk z1 z2] = fshift p (o.take (k + 1))) := Lib.hid (by rw [HS2.out, if_pos ⟨gz, gm⟩])
              have hlk2 : out.length + 1 ≤ 60 := by have := hlk; rw [← HN.out] at this; simpa using this
              obtain ⟨w10, hrun, hM10, hg10⟩ := HM9.out.store fkey Try.underlying81 (by simp only [maxLen]; omega) ⟨⟨z1, z2⟩, hwfa⟩ trivial (.bool true)
              have HRUN := Lib.hid hrun
              have HM10 : Hid (MapV Try.prog 33 fkl w10 mb (out.length + 1) (fseen (out ++ [Fo.mk z1 z2]))) := Lib.hid (MapV.congr hM10 fun x => fseen_snoc _ _ _)
              have HB10 := Lib.hid (HB9.out.grown hg10 HB9.out.size (fun j hj => by injection hj with hj; omega))
              have HO10 := own_grown_ne HO9.out hg10 hne5
              have R10 : RawAt 33 w10 wr.heap.size #[.int .i64 z1, .int .i64 z2] := (hg10.block wr.heap.size HR9.out.lt (fun h => by injection h with h; omega)).trans HR9.out
              have S10 : w5.heap.size ≤ w10.heap.size := Nat.le_trans HS9.out hg10.size
              have y0 := RawAt.cell R10 0
              have y1 := RawAt.cell R10 1
              simp at y0 y1
              have x11 : Below w10.heap.size w10 (w10.alloc (.cells #[.int .i64 z1, .int .i64 z2] 33)) := (Below.refl _ _).alloc (Nat.le_refl _) _
              have R11 : RawAt 33 (w10.alloc (.cells #[.int .i64 z1, .int .i64 z2] 33)) w10.heap.size #[.int .i64 z1, .int .i64 z2] := heap_alloc_new w10 _
              have HS11 := Lib.hid (rows_of_block (enc := encF) (k := 2) encF_len R11 (l := [Fo.mk z1 z2]) rfl)
              have HO11 := Lib.hid (own_below HO10 x11)
              have HM11 := Lib.hid (HM10.out.below x11)
              have HB11 := Lib.hid (HB10.out.trans (x11.mono HB10.out.size))
              have S11 : w5.heap.size ≤ (w10.alloc (.cells #[.int .i64 z1, .int .i64 z2] 33)).heap.size := by simp; omega
              have HS11' := Lib.hid S11
              clear L9 HS2 gm hrun hM10 hg10 HO10 R10 S10 x11 R11 HM10 HB10 HM9 HO9 HR9 HB9 S11 hlk
              go_wp2_with (first
                | (at_mapUpdate; refine wpList_storeV rfl (.tmp 53) (.tmp 54) (.const (.bool true)) _ rfl _ _ _ rfl rfl rfl HRUN.out ?_)
                | (at_builtin; refine wpList_appK (enc := encF) fo_slt encF_len (by omega) rfl (.tmp 55) (.tmp 57) rfl (base := w5.heap.size) (v := .slice A3 out.length c3) rfl HO11.out _ 1 1 [Fo.mk z1 z2] rfl HS11.out ⟨Nat.le_refl _, fun h => by cases h⟩ rfl (kfl_one' encF_one _) (by simp only [maxLen]; omega) (by omega) HS11'.out ?_; intro v12 w12 hown12 hg12 hor12; have HB12 := Lib.hid (HB11.out.grown hg12 HB11.out.size (fun j hj => by have := (hlt4 j hj).1; omega)); have HM12 := Lib.hid (HM11.out.block (hg12.block mb HM11.out.lt (fun h => hne5 _ h.symm rfl))); have HS12 := Lib.hid (Nat.le_trans HS11'.out hg12.size); have HO12 : Hid (w12.ownsRow w5.heap.size 33 2 v12 (out ++ [Fo.mk z1 z2]).length (kfl encF (out ++ [Fo.mk z1 z2]))) := Lib.hid (by rw [kfl_append, List.length_append]; exact hown12); clear hown12 hg12 hor12))
              go_roundg (gk - 1)
              case measure => omega
              case rel => exact ⟨k + 1, out ++ [Fo.mk z1 z2], by go_num, by omega, by omega, by rw [List.length_append]; simpa using hlk2, HN, HB12, HS12, HO12, by rw [List.length_append]; exact HM12⟩
          · have k5 : decide (z1 < z2) = false := decide_eq_false gz
            have HN : Hid (out = fshift p (o.take (k + 1))) := Lib.hid (by rw [HS2.out, if_neg (fun h => gz h.1)])
            clear L9 HS2
            go_wp2
            go_roundg (gk - 1)
            case measure => omega
            case rel => exact ⟨k + 1, out, by go_num, by omega, by omega, by omega, HN, HB9, HS9, HO9, HM9⟩
        · obtain rfl : k0 = k := by omega
          have e1 : o.take k0 = o := List.take_of_length_le (by rw [HK0.out]; exact Nat.le_refl _)
          have hout2 := hout.out
          rw [e1] at hout2
          subst hout2
          have HB := Lib.hid hb.out
          obtain ⟨A6, c6, hv6, hR6, hl6, hcap6⟩ := rows_of_own encF_len (by omega) hown.out
          injection hv6 with hv1 _ hv2
          subst hv1
          subst hv2
          have CNW := Lib.hid fun (W : World) (hW : Below wr.heap.size wr W) => fNew_any nd A3 _ c3 (fshift p o) W (hR6.below hW) hcap6 rfl HWF3.out r HE.out.symm
          have CL2 := Lib.hid (CL.out _ HB.out)
          clear hown hR6 hcap6 hl6 e1 hb hM hout hsz
          go_wp2_with fail
          with_reducible refine (CL2.out).mono ?_
          rintro e9 w9 ⟨rfl, b9⟩
          have q9 := HB.out.trans (b9.mono HB.out.size)
          go_wp2_with fail
          with_reducible refine (CD.out _ q9).mono ?_
          rintro e7 w7 ⟨rfl, b7⟩
          have b7 := b9.trans (b7.mono b9.size)
          go_wp2_with fail
          with_reducible refine (CNW.out _ b7).mono ?_
          rintro e8 w8 ⟨ptr, rfl, p1, p2, b8⟩
          have q8 := Lib.hid (HB.out.trans ((b7.trans (b8.mono b7.size)).mono HB.out.size))
          have P1 := Lib.hid p1
          have P2 := Lib.hid p2
          clear p1 p2 b7 b8
          go_wp2
          go_ret2
          exact ⟨_, rfl, P1.out, P2.out, q8.out⟩
  · have CN := Lib.hid (pNormal_any PA m c p w false HP.out HPL.out (by omega) ⟨fun h => absurd h (by decide), fun h => absurd h hn⟩)
    have e : r = 4 := HR.out.1 hn
    subst e
    clear HR hn
    go_enter Try.func20, Try.ntmps20
    go_wp2_with fail
    with_reducible refine (CN.out).mono ?_
    rintro e w1 ⟨rfl, bb⟩
    have Q1 := Lib.hid bb
    clear bb
    go_wp2
    go_ret2
    first | exact ⟨_, rfl, rfl, Q1.out⟩ | exact ⟨_, rfl, fun _ => rfl, fun h => absurd h (by decide), Q1.out⟩
end Go.Proofs.Ytnfjleobcfhpnaa
