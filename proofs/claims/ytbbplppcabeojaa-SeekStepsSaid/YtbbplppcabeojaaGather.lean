/- A node's items behind a row: the contract of tree.gather. -/
import Derived.Test.YtbbplppcabeojaaTop
namespace Go.Proofs.Ytbbplppcabeojaa
open Go.RowKit
set_option maxHeartbeats 4000000 in
set_option maxRecDepth 100000 in
theorem gather_nil (v : Value) (w : World) : Calls Try.prog 96 #[v, .nilIface] w fun e w' => e = .returned v ∧ w' = w := by
  have t1 := ta_nl
  have t2 := ta_nb
  go_enter Try.func96, Try.ntmps96
  go_wp2
  go_ret
  exact ⟨rfl, rfl⟩
set_option maxHeartbeats 4000000 in
set_option maxRecDepth 100000 in
theorem gather_leaf (k : Kd) (v : Value) (m base : Nat) (pre : List I7) (w0 w : World) (hk : NodeAt 1 w0 k) (hb : Below w0.heap.size w0 w) (h0 : w0.heap.size ≤ base) (h1 : base ≤ w.heap.size) (hown : w.ownsRow base 54 7 v m (iflat pre)) (hz : m + k.l.length ≤ 100000) :
    Calls Try.prog 96 #[v, k.v] w fun e w' => ∃ v', e = .returned v' ∧ w'.ownsRow base 54 7 v' (m + k.l.length) (iflat (pre ++ k.l)) ∧ Below w0.heap.size w0 w' ∧ w.heap.size ≤ w'.heap.size := by
  obtain ⟨b, A, c, q⟩ := hk
  have t1 := ta_ll
  have e0 := (raw_lcs (q.raw.below hb q.raw.lt)).1
  have HI := Lib.hid (q.its.below hb)
  have HC := Lib.hid q.caps
  have HL := Lib.hid q.len
  have hlen := q.len
  rw [q.v]
  have hz2 : m + k.c ≤ 100000 := by omega
  rw [hlen]
  clear q hlen hz
  unfold lfv at *
  go_enter Try.func96, Try.ntmps96
  go_wp2_with (at_builtin; refine wpList_append_items rfl (.tmp 13) (.tmp 17) rfl base v m (iflat pre) rfl hown A k.c c k.l rfl HI.out HC.out HL.out (by omega) h1 ?_; intro v4 w4 hown4 hg4)
  have hb4 : Below w0.heap.size w0 w4 := hb.grown hg4 hb.size (fun k hk => by have := (hown.lt k hk).1; omega)
  have hs4 := hg4.size
  rw [← iflat_append] at hown4
  have HO := Lib.hid hown4; clear hown4 hg4 hown
  go_wp2
  go_ret
  exact ⟨_, rfl, HO.out, hb4, hs4⟩
set_option maxHeartbeats 4000000 in
set_option maxRecDepth 100000 in
theorem gather_branch (h : Nat) (k : Kd) (v : Value) (m base : Nat) (pre : List I7) (w0 w : World) (hk : NodeAt (h + 2) w0 k) (hb : Below w0.heap.size w0 w) (_h0 : w0.heap.size ≤ base) (h1 : base ≤ w.heap.size) (hown : w.ownsRow base 54 7 v m (iflat pre)) (hz : m + k.l.length ≤ 100000)
    (IH : ∀ (j : Kd) (v : Value) (m : Nat) (pre : List I7) (w : World), NodeAt (h + 1) w0 j → Below w0.heap.size w0 w → base ≤ w.heap.size → w.ownsRow base 54 7 v m (iflat pre) → m + j.l.length ≤ 100000 →
      Calls Try.prog 96 #[v, j.v] w fun e w' => ∃ v', e = .returned v' ∧ w'.ownsRow base 54 7 v' (m + j.l.length) (iflat (pre ++ j.l)) ∧ Below w0.heap.size w0 w' ∧ w.heap.size ≤ w'.heap.size) :
    Calls Try.prog 96 #[v, k.v] w fun e w' => ∃ v', e = .returned v' ∧ w'.ownsRow base 54 7 v' (m + k.l.length) (iflat (pre ++ k.l)) ∧ Below w0.heap.size w0 w' ∧ w.heap.size ≤ w'.heap.size := by
  obtain ⟨b, A, c, ks, q, r⟩ := hk
  have t1 := ta_bl
  have t2 := ta_bb
  have e0 := (raw_bcs (q.raw.below hb q.raw.lt)).1
  have HA := Lib.hid q.kids
  have HL := Lib.hid q.len
  have HR := Lib.hid (show Row (h + 1) w0 ks from fun x hx => (r x hx).1)
  have HF := Lib.hid q.fl
  have hlen : m + (fl ks).length ≤ 100000 := by rw [q.fl]; exact hz
  rw [q.v, ← q.fl]
  have HI := Lib.hid IH
  have hws : w.heap.size ≤ w.heap.size := Nat.le_refl _
  have hn8 := q.most
  have HO := Lib.hid hown
  clear q r hz IH hown
  generalize k.c = n at *
  unfold brv at *
  go_enter Try.func96, Try.ntmps96
  go_wp2_with fail
  go_loopg [0, 27] n (fun g u i wr => ∃ j : Nat, i = .int .i64 j ∧ j ≤ n ∧ n - j ≤ g ∧ Below w0.heap.size w0 wr ∧ w.heap.size ≤ wr.heap.size ∧ Hid (wr.ownsRow base 54 7 u (m + (fl (ks.take j)).length) (iflat (pre ++ fl (ks.take j)))))
  case atStart => exact ⟨0, rfl, by omega, by omega, hb, hws, by simpa [fl] using HO⟩
  case round =>
    obtain ⟨j, rfl, g1, g2, hbr, hsr, hO⟩ := hrel
    by_cases hlt : j < n
    · have hm : j < ks.length := by rw [HL.out]; exact hlt
      obtain ⟨bA, off, rfl, hbA, hcell⟩ := HA.out (by rw [kvs_length]; omega)
      have eK := ((old_cells hbr).1 _ _ hbA).trans (hcell j (by rw [kvs_length]; exact hm))
      rw [vth_kvs ks hm] at eK
      clear hcell
      have hle : (fl (ks.take (j + 1))).length ≤ (fl ks).length := by
        have e : fl ks = fl (ks.take (j + 1)) ++ fl (ks.drop (j + 1)) := by rw [← fl_append, List.take_append_drop]
        rw [e, List.length_append]
        omega
      have HT := Lib.hid (fl_take ks hm)
      rw [HT.out, List.length_append] at hle
      have CK := Lib.hid (HI.out (kth ks j) _ _ _ wr (HR.out _ (kth_mem ks hm)) hbr (by omega) hO.out (by omega))
      go_wp2_with fail
      refine CK.out.mono ?_
      rintro e w2 ⟨v2, rfl, hO2, hb2, hs2⟩
      have HO2 := Lib.hid hO2; clear hO2
      go_wp2_with fail
      go_roundg (gk - 1)
      case measure => omega
      case rel => exact ⟨j + 1, by go_num, by omega, by omega, hb2, by omega, by rw [HT.out, List.length_append, ← List.append_assoc, ← Nat.add_assoc]; exact HO2⟩
    · have e1 : ks.take j = ks := List.take_of_length_le (by rw [HL.out]; omega)
      rw [e1] at hO
      go_wp2_with fail
      go_ret
      exact ⟨_, rfl, hO.out, hbr, hsr⟩
theorem gather_node : ∀ (h : Nat) (k : Kd) (v : Value) (m base : Nat) (pre : List I7) (w0 w : World), NodeAt h w0 k → Below w0.heap.size w0 w → w0.heap.size ≤ base → base ≤ w.heap.size → w.ownsRow base 54 7 v m (iflat pre) → m + k.l.length ≤ 100000 →
    Calls Try.prog 96 #[v, k.v] w fun e w' => ∃ v', e = .returned v' ∧ w'.ownsRow base 54 7 v' (m + k.l.length) (iflat (pre ++ k.l)) ∧ Below w0.heap.size w0 w' ∧ w.heap.size ≤ w'.heap.size := by
  intro h
  induction h with
  | zero => intro k v m base pre w0 w hk; exact hk.elim
  | succ h ih =>
    intro k v m base pre w0 w hk hb h0 h1 hown hz
    match h, hk, ih with
    | 0, hk, _ => exact gather_leaf k v m base pre w0 w hk hb h0 h1 hown hz
    | h + 1, hk, ih => exact gather_branch h k v m base pre w0 w hk hb h0 h1 hown hz (fun j v m pre w a1 a2 a3 a4 a5 => ih j v m base pre w0 w a1 a2 h0 a3 a4 a5)
theorem gather_any (u : Value) (l : List I7) (h : Nat) (v : Value) (base : Nat) (w0 w : World) (ht : Top w0 u l h) (hb : Below w0.heap.size w0 w) (h0 : w0.heap.size ≤ base) (h1 : base ≤ w.heap.size) (hown : w.ownsRow base 54 7 v 0 []) (hz : l.length ≤ 100000) :
    Calls Try.prog 96 #[v, u] w fun e w' => ∃ A c, e = .returned (.slice A l.length c) ∧ Below w0.heap.size w0 w' ∧ ItsAt w' A l ∧ Caps A l.length c := by
  have key : Calls Try.prog 96 #[v, u] w fun e w' => ∃ v', e = .returned v' ∧ w'.ownsRow base 54 7 v' l.length (iflat l) ∧ Below w0.heap.size w0 w' := by
    rcases ht with ⟨rfl, rfl, rfl⟩ | ⟨c, hk, _⟩
    · refine (gather_nil v w).mono ?_
      rintro e w' ⟨rfl, rfl⟩
      exact ⟨_, rfl, hown, hb⟩
    · refine (gather_node h ⟨u, l, c⟩ v 0 base [] w0 w hk hb h0 h1 hown (by simpa using hz)).mono ?_
      rintro e w' ⟨v', rfl, hO, hb', _⟩
      refine ⟨v', rfl, ?_, hb'⟩
      simpa using hO
  refine key.mono ?_
  rintro e w' ⟨v', rfl, hO, hb'⟩
  obtain ⟨A, c, rfl, h2, _, h4⟩ := its_of_own hO
  exact ⟨A, c, rfl, hb', h2, h4⟩
end Go.Proofs.Ytbbplppcabeojaa
