/- Patches: what two patches keep, piece by piece: the contract of the second closure of keptByBoth. -/
import Derived.Test.YthbhjecfiiknaaaPtL
namespace Go.Proofs.Ythbhjecfiiknaaa
open Go.RowKit
set_option linter.unusedVariables false
def pth_ (l : List Pc) (k : Nat) : Pc := l.getD k ⟨0, 0, 0⟩
theorem pth_drop {l : List Pc} {j : Nat} (h : j < l.length) : l.drop j = pth_ l j :: l.drop (j + 1) := by
  rw [List.drop_eq_getElem_cons h]; simp [pth_, List.getD, h]
theorem pth_mem {l : List Pc} {k : Nat} (h : k < l.length) : pth_ l k ∈ l := by
  have : pth_ l k = l[k] := by simp [pth_, List.getD, h]
  rw [this]; exact List.getElem_mem h
theorem pflat_at : ∀ (o : List Pc) (k : Nat), k < o.length → (pflat o)[k * 3]? = some (.int .i64 (pth_ o k).o) ∧ (pflat o)[k * 3 + 1]? = some (.int .i64 (pth_ o k).w) ∧ (pflat o)[k * 3 + 2]? = some (.int .i64 (pth_ o k).n)
  | x :: o, 0, _ => ⟨rfl, rfl, rfl⟩
  | x :: o, k + 1, h => by
    have := pflat_at o k (by simpa using h)
    rw [show (k + 1) * 3 = k * 3 + 3 from by omega, show k * 3 + 3 + 1 = k * 3 + 1 + 3 from by omega, show k * 3 + 3 + 2 = k * 3 + 2 + 3 from by omega]
    simpa [pflat, pth_, List.getD] using this
theorem inter_nil (ps : List Pc) : inter ps [] = [] := by cases ps <;> (unfold inter; rfl)
/-- What the second closure has: the changes so far, the pieces that are left of the second patch, and what each piece is handed to. -/
structure SAt (JJ : List Pc → World → Prop) (rb eb g : Nat) (cur : Array Value) (E : Nat) (ecaps : Array Value) (qs : List Pc) (k : Nat) (em : List Pc) (W : World) : Prop where
  jj : JJ em W
  rest : ∃ A c, RawAt 79 W rb #[.slice A (qs.length - k) c] ∧ (k < qs.length → A = some ⟨g, k * 3, none⟩) ∧ qs.length - k ≤ c
  row : RawAt 76 W g cur
  fn : RawAt 65 W eb #[.func (.func E) #[] ecaps]
theorem SAt.keep {JJ : List Pc → World → Prop} {N rb eb g : Nat} {cur : Array Value} {E : Nat} {ecaps : Array Value} {qs : List Pc} {k : Nat} {em : List Pc} {W W' : World}
    (S : SAt JJ rb eb g cur E ecaps qs k em W) (hJ : ∀ em W W', JJ em W → OnT [79, 76] W W' → Below N W W' → JJ em W') (hN : N ≤ W.heap.size) (hb : Below W.heap.size W W') : SAt JJ rb eb g cur E ecaps qs k em W' := by
  obtain ⟨h1, ⟨A, c, h2, h3⟩, h4, h5⟩ := S
  exact ⟨hJ em W W' h1 (OnT.of hb) (hb.mono hN), ⟨A, c, h2.below hb h2.lt, h3⟩, h4.below hb h4.lt, h5.below hb h5.lt⟩
theorem SAt.adv {JJ : List Pc → World → Prop} {N rb eb g : Nat} {cur : Array Value} {E : Nat} {ecaps : Array Value} {qs : List Pc} {k : Nat} {em : List Pc} {W : World}
    (S : SAt JJ rb eb g cur E ecaps qs k em W) (hJ : ∀ em W W', JJ em W → OnT [79, 76] W W' → Below N W W' → JJ em W') (hN : N ≤ rb) (_hk : k < qs.length) {A' : Option Addr} {n' c' : Nat} (hn : n' = qs.length - (k + 1)) (hA : k + 1 < qs.length → A' = some ⟨g, (k + 1) * 3, none⟩) (hc : n' ≤ c') :
    SAt JJ rb eb g cur E ecaps qs (k + 1) em (W.setCell ⟨rb, 0, none⟩ (.slice A' n' c')) := by
  obtain ⟨h1, ⟨A, c, h2, h3⟩, h4, h5⟩ := S
  subst hn
  have ne : ∀ {b t cs}, t ≠ 79 → RawAt t W b cs → b ≠ rb := fun ht hr => by
    rintro rfl
    unfold RawAt at hr h2
    rw [hr] at h2
    injection h2 with h6
    injection h6 with _ h7
    exact ht h7
  exact ⟨hJ em W _ h1 ((OnT.of (Below.refl _ _)).set h2 (by simp) 0 _) ((Below.refl _ _).setCell (p := ⟨rb, 0, none⟩) hN _), ⟨A', c', (h2.set_ 0 _).of_eq (by simp), hA, hc⟩, h4.set_other (ne (by decide) h4) 0 _, h5.set_other (ne (by decide) h5) 0 _⟩
theorem SAt.ne {JJ : List Pc → World → Prop} {rb eb g : Nat} {cur : Array Value} {E : Nat} {ecaps : Array Value} {qs : List Pc} {k : Nat} {em : List Pc} {W : World}
    (S : SAt JJ rb eb g cur E ecaps qs k em W) {b : Nat} {cs : Array Value} (hr : RawAt 76 W b cs) : b ≠ rb := by
  obtain ⟨h1, ⟨A, c, h2, h3⟩, h4, h5⟩ := S
  rintro rfl
  unfold RawAt at hr h2
  rw [hr] at h2
  injection h2 with h6
  injection h6 with _ h7
  exact absurd h7 (by decide)
theorem inter_cons (p q : Pc) (ps qs : List Pc) : inter (p :: ps) (q :: qs) = (if max p.w q.o < min (p.w + p.n) (q.o + q.n) then [⟨p.o + max p.w q.o - p.w, q.w + max p.w q.o - q.o, min (p.w + p.n) (q.o + q.n) - max p.w q.o⟩] else []) ++
      (if p.w + p.n < q.o + q.n then inter ps (q :: qs) else inter (p :: ps) qs) := by rw [inter]
theorem pair_num {p q : Pc} (hp : 0 ≤ p.o ∧ p.o ≤ 4398046511104 ∧ 0 ≤ p.w ∧ p.w ≤ 4398046511104 ∧ 1 ≤ p.n ∧ p.n ≤ 4398046511104) (hq : 0 ≤ q.o ∧ q.o ≤ 4398046511104 ∧ 0 ≤ q.w ∧ q.w ≤ 4398046511104 ∧ 1 ≤ q.n ∧ q.n ≤ 4398046511104) :
    IntKind.i64.wrap (p.w + p.n) = p.w + p.n ∧ IntKind.i64.wrap (q.o + q.n) = q.o + q.n ∧ (∀ F T : Int, (if p.w < q.o then q.o else p.w) = F → (if q.o + q.n < p.w + p.n then q.o + q.n else p.w + p.n) = T → max p.w q.o = F ∧ min (p.w + p.n) (q.o + q.n) = T ∧
      IntKind.i64.wrap (p.o + F) = p.o + F ∧ IntKind.i64.wrap (p.o + F - p.w) = p.o + F - p.w ∧ IntKind.i64.wrap (q.w + F) = q.w + F ∧ IntKind.i64.wrap (q.w + F - q.o) = q.w + F - q.o ∧ IntKind.i64.wrap (T - F) = T - F) := by
  obtain ⟨p1, p2, p3, p4, p5, p6⟩ := hp
  obtain ⟨q1, q2, q3, q4, q5, q6⟩ := hq
  refine ⟨IntWalk.i64_in _ (by omega), IntWalk.i64_in _ (by omega), fun F T hF hT => ?_⟩
  have hFm : max p.w q.o = F := by rw [← hF]; split <;> omega
  have hTm : min (p.w + p.n) (q.o + q.n) = T := by rw [← hT]; split <;> omega
  clear hF hT
  exact ⟨hFm, hTm, IntWalk.i64_in _ (by omega), IntWalk.i64_in _ (by omega), IntWalk.i64_in _ (by omega), IntWalk.i64_in _ (by omega), IntWalk.i64_in _ (by omega)⟩
set_option maxHeartbeats 4000000 in
set_option maxRecDepth 100000 in
theorem pair_any (JJ : List Pc → World → Prop) (N : Nat) (tot qs : List Pc) (E : Nat) (ecaps : Array Value) (hE : ∀ (args : Array Value) (w : World), (callFunc E args).run Try.prog w = .ok (.enter E args) w)
    (hJ : ∀ em W W', JJ em W → OnT [79, 76] W W' → Below N W W' → JJ em W')
    (CE : ∀ em x r W, em ++ x :: r = tot → JJ em W → Calls Try.prog E (#[.agg #[.int .i64 x.o, .int .i64 x.w, .int .i64 x.n]] ++ ecaps) W fun e w' => e = .returned (.tuple #[]) ∧ JJ (em ++ [x]) w' ∧ OnT [22, 56] W w')
    (hS : ∀ em W, JJ em W → N ≤ W.heap.size)
    (rb eb g : Nat) (cur : Array Value) (hN : N ≤ rb) (hcur : cur.toList.take (qs.length * 3) = pflat qs)
    (hqs : ∀ q ∈ qs, 0 ≤ q.o ∧ q.o ≤ 4398046511104 ∧ 0 ≤ q.w ∧ q.w ≤ 4398046511104 ∧ 1 ≤ q.n ∧ q.n ≤ 4398046511104) (hql : qs.length ≤ 1000001)
    (p : Pc) (ps : List Pc) (hp : 0 ≤ p.o ∧ p.o ≤ 4398046511104 ∧ 0 ≤ p.w ∧ p.w ≤ 4398046511104 ∧ 1 ≤ p.n ∧ p.n ≤ 4398046511104)
    (k : Nat) (em : List Pc) (W : World) (hk : k ≤ qs.length) (S : SAt JJ rb eb g cur E ecaps qs k em W) (htot : em ++ inter (p :: ps) (qs.drop k) = tot) :
    Calls Try.prog 49 #[.agg #[.int .i64 p.o, .int .i64 p.w, .int .i64 p.n], .pointer (some ⟨rb, 0, none⟩), .pointer (some ⟨eb, 0, none⟩)] W fun e w' => e = .returned (.tuple #[]) ∧ (∃ k' em', k' ≤ qs.length ∧ SAt JJ rb eb g cur E ecaps qs k' em' w' ∧ em' ++ inter ps (qs.drop k') = tot) ∧ OnT [22, 56, 79] W w' := by
  have HPN := Lib.hid hp
  clear hp
  have HJ := Lib.hid hJ
  have HE := Lib.hid CE
  have HSZ := Lib.hid hS
  have HCUR := Lib.hid hcur
  have HQ := Lib.hid hqs
  have hW := hS em W S.jj
  have x0 : Below W.heap.size W (W.alloc (.cells #[.int .i64 p.o, .int .i64 p.w, .int .i64 p.n] 76)) := (Below.refl _ _).alloc (Nat.le_refl _) _
  have HS0 := Lib.hid (S.keep hJ hW x0)
  have HP0 := Lib.hid (show RawAt 76 (W.alloc (.cells #[.int .i64 p.o, .int .i64 p.w, .int .i64 p.n] 76)) W.heap.size #[.int .i64 p.o, .int .i64 p.w, .int .i64 p.n] from heap_alloc_new W _)
  have HT0 := Lib.hid (OnT.of (ts := [22, 56, 79]) x0)
  have HTOT := Lib.hid htot
  clear hJ CE hS hcur hqs S htot x0
  go_enter Try.func49, Try.ntmps49
  go_wp2_with fail
  go_loopg [] qs.length (fun gg wr => ∃ (k : Nat) (em : List Pc), k ≤ qs.length ∧ qs.length - k ≤ gg ∧ Hid (SAt JJ rb eb g cur E ecaps qs k em wr) ∧ Hid (RawAt 76 wr W.heap.size #[.int .i64 p.o, .int .i64 p.w, .int .i64 p.n]) ∧ Hid (OnT [22, 56, 79] W wr) ∧ Hid (em ++ inter (p :: ps) (qs.drop k) = tot))
  case atStart => exact ⟨k, em, hk, by omega, HS0, HP0, HT0, HTOT⟩
  case round =>
    clear HS0 HP0 HT0 HTOT
    obtain ⟨k, em, hk, hg, HS, HP, HT, HTOT⟩ := hrel
    obtain ⟨hjj, ⟨A, c, hR, hA, hc⟩, hrow, hfn⟩ := HS.out
    have r0 := RawAt.cell hR 0
    simp at r0
    by_cases hlt : k < qs.length
    · obtain rfl := hA hlt
      have HT2 := HTOT.out
      rw [pth_drop hlt] at HT2
      have HDR0 := Lib.hid (pth_drop hlt)
      have HQN := Lib.hid (HQ.out _ (pth_mem hlt))
      obtain ⟨k0, k1, k2⟩ := pflat_at qs k hlt
      have key : ∀ j u, (pflat qs)[j]? = some u → wr.cell? ⟨g, j, none⟩ = some u := fun j u hu => by
        rw [RawAt.cell hrow, ← Array.getElem?_toList]
        rw [← HCUR.out, List.getElem?_take] at hu
        split at hu
        · exact hu
        · cases hu
      have e0 := key _ _ k0
      have e1 := key _ _ k1
      have e2 := key _ _ k2
      generalize pth_ qs k = q at *
      clear k0 k1 k2 key HTOT hA
      obtain ⟨nk, hnk⟩ : ∃ nk, qs.length - k = nk + 1 := ⟨qs.length - k - 1, by omega⟩
      rw [hnk] at r0 hc hR
      have i0 : (0 : Int) < (nk : Int) + 1 := by omega
      have HA1 := Lib.hid (show RawAt 79 wr rb #[.slice (some ⟨g, k * 3, none⟩) (nk + 1) c] from hR)
      have HR1 := Lib.hid hrow
      have HF1 := Lib.hid hfn
      have HJ1 := Lib.hid hjj
      clear hR hrow hfn hjj
      have xq : Below wr.heap.size wr (wr.alloc (.cells #[.int .i64 q.o, .int .i64 q.w, .int .i64 q.n] 76)) := (Below.refl _ _).alloc (Nat.le_refl _) _
      have HQ2 := Lib.hid (show RawAt 76 (wr.alloc (.cells #[.int .i64 q.o, .int .i64 q.w, .int .i64 q.n] 76)) wr.heap.size #[.int .i64 q.o, .int .i64 q.w, .int .i64 q.n] from heap_alloc_new wr _)
      have HS2 := Lib.hid (HS.out.keep HJ.out (HSZ.out _ _ HJ1.out) xq)
      have HP2 := Lib.hid (HP.out.below xq HP.out.lt)
      have HT2' := Lib.hid (HT.out.trans (OnT.of xq))
      have HSD := Lib.hid (HS2.out.keep HJ.out (HSZ.out _ _ HS2.out.jj) (show Below _ _ (wr.alloc (.cells #[.int .i64 q.o, .int .i64 q.w, .int .i64 q.n] 76)).drew from (Below.refl _ _).drew))
      obtain ⟨w1, w2, hFT⟩ := pair_num HPN.out HQN.out
      have HFT := Lib.hid hFT
      clear hFT
      have PK := Lib.hid (show N ≤ rb ∧ qs.length ≤ 1000001 ∧ k ≤ qs.length ∧ qs.length - k ≤ gk ∧ k < qs.length ∧ nk + 1 ≤ c ∧ qs.length - k = nk + 1 from ⟨hN, hql, hk, hg, hlt, hc, hnk⟩)
      have HT2 := Lib.hid HT2
      clear hN hql hk hg hc hlt hnk hW
      go_upto_region 3 with fail
      clear e0 e1 e2 r0 xq HA1 HR1 HF1 HJ1 HS HP HT
      go_cut [5, 6] from 7 to 64 (fun s5 s6 wx => ∃ F T : Int, s5 = .int .i64 F ∧ s6 = .int .i64 T ∧ Hid (SAt JJ rb eb g cur E ecaps qs k em wx) ∧ Hid (RawAt 76 wx W.heap.size #[.int .i64 p.o, .int .i64 p.w, .int .i64 p.n]) ∧ Hid (RawAt 76 wx wr.heap.size #[.int .i64 q.o, .int .i64 q.w, .int .i64 q.n]) ∧ Hid (OnT [22, 56, 79] W wx) ∧ Hid ((if p.w < q.o then q.o else p.w) = F ∧ (if q.o + q.n < p.w + p.n then q.o + q.n else p.w + p.n) = T))
      case first =>
        clear HFT HT2 PK HQ HE HSZ HDR0
        generalize wr.alloc (.cells #[.int .i64 q.o, .int .i64 q.w, .int .i64 q.n] 76) = W2 at *
        have a0 := RawAt.cell HP2.out 0
        have a1 := RawAt.cell HP2.out 1
        have a2 := RawAt.cell HP2.out 2
        have b0 := RawAt.cell HQ2.out 0
        have b1 := RawAt.cell HQ2.out 1
        have b2 := RawAt.cell HQ2.out 2
        simp at a0 a1 a2 b0 b1 b2
        have HSR := Lib.hid (show SAt JJ rb eb g cur E ecaps qs k em W2.drew from HSD.out)
        go_region
        generalize hF : (if p.w < q.o then q.o else p.w) = F
        generalize hT : (if q.o + q.n < p.w + p.n then q.o + q.n else p.w + p.n) = T
        have HFm := Lib.hid (And.intro hF hT)
        clear hF hT
        go_wp2
        go_meet
        exact ⟨F, T, rfl, rfl, HSR, HP2, HQ2, HT2', HFm⟩
      case rest =>
        clear HS2 HP2 HQ2 HT2' w1 w2 HSD
        obtain ⟨F, T, rfl, rfl, HS3, HP3, HQ3, HT5, HFm⟩ := hcut
        obtain ⟨hFm, hTm, v1, v2, v3, v4, v5⟩ := HFT.out F T HFm.out.1 HFm.out.2
        have HT3 := HT2.out
        rw [inter_cons, hFm, hTm] at HT3
        have HT4 := Lib.hid HT3
        have HDR := Lib.hid HDR0.out
        clear HT2 HT3 HFT HFm hFm hTm HDR0
        go_upto_if 31 with fail
        go_cut [] from 7 to 64 (fun wx => ∃ em', Hid (SAt JJ rb eb g cur E ecaps qs k em' wx) ∧ Hid (RawAt 76 wx W.heap.size #[.int .i64 p.o, .int .i64 p.w, .int .i64 p.n]) ∧ Hid (RawAt 76 wx wr.heap.size #[.int .i64 q.o, .int .i64 q.w, .int .i64 q.n]) ∧ Hid (OnT [22, 56, 79] W wx) ∧ Hid (em' ++ (if p.w + p.n < q.o + q.n then inter ps (q :: qs.drop (k + 1)) else inter (p :: ps) (qs.drop (k + 1))) = tot))
        case first =>
          by_cases g1 : F < T
          · have k1 : decide (F < T) = true := decide_eq_true g1
            have hT := HT4.out
            rw [if_pos g1] at hT
            have CE1 := HE.out em ⟨p.o + F - p.w, q.w + F - q.o, T - F⟩ _ wc hT HS3.out.jj
            dsimp only at CE1
            have HCE := Lib.hid CE1
            have HT7 := Lib.hid ((List.append_assoc em [⟨p.o + F - p.w, q.w + F - q.o, T - F⟩] _).trans hT)
            have a0 := RawAt.cell HP3.out 0
            have a1 := RawAt.cell HP3.out 1
            have b0 := RawAt.cell HQ3.out 0
            have b1 := RawAt.cell HQ3.out 1
            have fn := RawAt.cell HS3.out.fn 0
            simp at a0 a1 b0 b1 fn
            clear hT CE1 HT4 HE HJ HSZ PK HDR
            go_wp2_with fail
            with_reducible refine HCE.out.mono ?_
            rintro e w5 ⟨rfl, hJ5, hT5⟩
            have HSV : Hid (SAt JJ rb eb g cur E ecaps qs k (em ++ [⟨p.o + F - p.w, q.w + F - q.o, T - F⟩]) w5) := by
              obtain ⟨h1, ⟨A, c, h2, h3⟩, h4, h6⟩ := HS3.out
              exact ⟨hJ5, ⟨A, c, hT5 _ _ _ (by decide) h2, h3⟩, hT5 _ _ _ (by decide) h4, hT5 _ _ _ (by decide) h6⟩
            have HPV := Lib.hid (hT5 _ _ _ (by decide) HP3.out)
            have HQV := Lib.hid (hT5 _ _ _ (by decide) HQ3.out)
            have HTV := Lib.hid (HT5.out.trans (hT5.mono (by simp)))
            clear a0 a1 b0 b1 fn hJ5 hT5 HCE HS3 HP3 HQ3 HT5 v1 v2 v3 v4 v5
            go_wp2
            go_meet
            exact ⟨_, HSV, HPV, HQV, HTV, HT7⟩
          · have k1 : decide (F < T) = false := decide_eq_false g1
            have hT := HT4.out
            rw [if_neg g1, List.nil_append] at hT
            have HT7 := Lib.hid hT
            clear hT HT4 v1 v2 v3 v4 v5 HE HJ HSZ PK HDR
            go_wp2
            go_meet
            exact ⟨_, HS3, HP3, HQ3, HT5, HT7⟩
        case rest =>
          clear HT4 HS3 HP3 HQ3 HT5 v1 v2 v3 v4 v5 HE
          obtain ⟨em', HSV, HPV, HQV, HTV, HT7⟩ := hcut
          obtain ⟨hN, hql, hk, hg, hlt, hc, hnk⟩ := PK.out
          obtain ⟨hjj5, ⟨A5, c5, hR5, hA5, hc5⟩, hrow5, hfn5⟩ := HSV.out
          obtain rfl := hA5 hlt
          rw [hnk] at hR5 hc5
          have HR5 := Lib.hid hR5
          have a1 := RawAt.cell HPV.out 1
          have a2 := RawAt.cell HPV.out 2
          have b0 := RawAt.cell HQV.out 0
          have b2 := RawAt.cell HQV.out 2
          have r0 := RawAt.cell hR5 0
          have f0 := RawAt.free hR5 0
          simp at a1 a2 b0 b2 r0
          have HJ5 := Lib.hid hjj5
          have HW5 := Lib.hid hrow5
          have HF5 := Lib.hid hfn5
          obtain ⟨w1, w2, _⟩ := pair_num HPN.out HQN.out
          clear hjj5 hA5 hR5 hrow5 hfn5
          by_cases g2 : p.w + p.n < q.o + q.n
          · have k2 : decide (p.w + p.n < q.o + q.n) = true := decide_eq_true g2
            have hT := HT7.out
            rw [if_pos g2, ← HDR.out] at hT
            have HT8 := Lib.hid hT
            clear hT HT7 g2
            go_wp2
            exact bodyPost_ret (v := .tuple #[]) (by simp [results, Try.results49, go_sem]) rfl ⟨rfl, ⟨k, em', hk, HSV.out, HT8.out⟩, HTV.out⟩
          · have k2 : decide (p.w + p.n < q.o + q.n) = false := decide_eq_false g2
            have hT := HT7.out
            rw [if_neg g2] at hT
            have HT8 := Lib.hid hT
            clear hT HT7 g2
            have AD1 := Lib.hid (HSV.out.adv HJ.out hN hlt (A' := some ⟨g, k * 3 + 3, none⟩) (n' := nk) (c' := c5 - 1) (by omega) (fun _ => by rw [show (k + 1) * 3 = k * 3 + 3 from by omega]) (by omega))
            have AD2 := Lib.hid fun (h1 : c5 = 1) => HSV.out.adv HJ.out hN hlt (A' := some ⟨g, k * 3, none⟩) (n' := nk) (c' := 0) (by omega) (fun h2 => by omega) (by omega)
            have PV1 := Lib.hid fun v => HPV.out.set_other (HSV.out.ne HPV.out) 0 v
            have TV1 := Lib.hid fun v => HTV.out.set HR5.out (by simp) 0 v
            have M1 : k + 1 ≤ qs.length := hlt
            have M2 : qs.length - (k + 1) ≤ gk - 1 := by omega
            have M3 : gk - 1 < gk := by omega
            go_wp2
            · go_roundg (gk - 1)
              case measure => exact M3
              case rel => exact ⟨k + 1, em', M1, M2, Lib.hid (AD2.out (by assumption)), Lib.hid (PV1.out _), Lib.hid (TV1.out _), HT8⟩
            · go_roundg (gk - 1)
              case measure => exact M3
              case rel => exact ⟨k + 1, em', M1, M2, AD1, Lib.hid (PV1.out _), Lib.hid (TV1.out _), HT8⟩
    · have hke : k = qs.length := by omega
      subst hke
      rw [List.drop_length, inter_nil] at HTOT
      have HT9 := Lib.hid (show em ++ inter ps (qs.drop qs.length) = tot from by rw [List.drop_length, inter_nil]; exact HTOT.out)
      rw [Nat.sub_self] at r0
      clear hR hA hc hrow hfn hjj hlt
      go_wp2
      exact bodyPost_end (v := .tuple #[]) (by simp [results, Try.results49, go_sem]) rfl ⟨rfl, ⟨qs.length, em, Nat.le_refl _, HS.out, HT9.out⟩, HT.out⟩
end Go.Proofs.Ythbhjecfiiknaaa
