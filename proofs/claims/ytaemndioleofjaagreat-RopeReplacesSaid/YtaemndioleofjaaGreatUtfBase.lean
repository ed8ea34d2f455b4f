/- Runes of a text, by the model's own decoder: words of my own, and the contracts of utf.Count and utf.Decode. -/
import Derived.Test.YtaemndioleofjaaGreatBase
import Derived.WalkSmall
namespace Go.Proofs.YtaemndioleofjaaGreat
open Go.RowKit
/-- The runes of a text from a place on, in so many steps at most. -/
def decF (s : ByteArray) : Nat → Nat → List Int
  | 0, _ => []
  | f + 1, p => if p < s.size then ((Utf8.decode s p).1 : Int) :: decF s f (p + (Utf8.decode s p).2) else []
/-- All runes of a text. -/
def dec (s : ByteArray) : List Int := decF s s.size 0
theorem decF_end {s : ByteArray} {f p : Nat} (h : ¬ p < s.size) : decF s f p = [] := by
  cases f with
  | zero => rfl
  | succ f => simp [decF, h]
theorem decF_step {s : ByteArray} {f p : Nat} (h : p < s.size) : decF s (f + 1) p = ((Utf8.decode s p).1 : Int) :: decF s f (p + (Utf8.decode s p).2) := by simp [decF, h]
theorem width_ge (s : ByteArray) (p : Nat) : 1 ≤ (Utf8.decode s p).2 := by
  unfold Utf8.decode
  simp only
  repeat' split
  all_goals simp
theorem decF_len (s : ByteArray) : ∀ f p, (decF s f p).length ≤ f
  | 0, _ => by simp [decF]
  | f + 1, p => by
    unfold decF
    split
    · have := decF_len s f (p + (Utf8.decode s p).2)
      simp; omega
    · simp
theorem dec_len (s : ByteArray) : (dec s).length ≤ s.size := decF_len s _ _
theorem block_lt' {w : World} {g : Nat} {o : Obj} (h : w.heap[g]? = some o) : g < w.heap.size := block_lt h
set_option maxHeartbeats 400000 in
theorem count_any (s : ByteArray) (w : World) (hs : s.size ≤ 1000000000) :
    Calls Tryz.prog 37 #[.string s] w fun e w' => e = .returned (.int .i64 ((dec s).length : Int)) ∧ Below w.heap.size w w' := by
  have hlen := dec_len s
  obtain ⟨D, hD⟩ : ∃ D, D = dec s := ⟨_, rfl⟩
  rw [← hD] at hlen ⊢
  have HD := Lib.hid hD; clear hD
  go_enter Tryz.func37, Tryz.ntmps37
  go_wp2
  go_loopg [3] (s.size + 1) (fun k v wr => ∃ (pos f n : Nat), v = .int .i64 n ∧ wr.heap[w.heap.size]? = some (.stringIter s pos) ∧ Below w.heap.size w wr ∧ s.size ≤ pos + f ∧ f < k ∧ D.length = n + (decF s f pos).length)
  case atStart => exact ⟨0, s.size, 0, rfl, World.iter_heap w s 0, (Below.refl _ _).alloc (Nat.le_refl _) _, by omega, by omega, by rw [HD.out]; simp [dec]⟩
  case round =>
    obtain ⟨pos, f, n, rfl, hit, hb, h1, h2, h3⟩ := hrel
    by_cases hp : pos < s.size
    · have hnx : ∀ ty, (Instr.next (.pointer (some ⟨w.heap.size, 0, none⟩)) true ty).run Tryz.prog wr = _ := fun ty => Lib.run_next_any_at wr w.heap.size s pos ty hit hp
      have hwd := width_ge s pos
      obtain ⟨f, rfl⟩ : ∃ f', f = f' + 1 := ⟨f - 1, by omega⟩
      rw [decF_step hp] at h3
      simp only [List.length_cons] at h3
      have H3 := Lib.hid h3; clear h3
      have hn : (n : Int) ≤ 1000000000 := by have := H3.out; omega
      have hit2 := Lib.iterAt_heap wr w.heap.size s pos (pos + (Utf8.decode s pos).2) hit
      have hb2 := Lib.below_iterAt hb (k := w.heap.size) (Nat.le_refl _) s (pos + (Utf8.decode s pos).2)
      obtain ⟨W1, hW1⟩ : ∃ W1, W1 = wr.iterAt w.heap.size s (pos + (Utf8.decode s pos).2) := ⟨_, rfl⟩
      rw [← hW1] at hnx hit2 hb2
      clear hW1 hit hb
      go_wp2
      go_roundg (gk - 1)
      case measure => omega
      case rel => exact ⟨_, f, n + 1, by go_num, hit2, hb2, by omega, by omega, by rw [H3.out]; omega⟩
    · have hnx : ∀ ty, (Instr.next (.pointer (some ⟨w.heap.size, 0, none⟩)) true ty).run Tryz.prog wr = _ := fun ty => Lib.run_next_end_at wr w.heap.size s pos ty hit hp
      rw [decF_end hp] at h3
      have H3 := Lib.hid h3; clear h3
      go_wp2
      go_ret
      exact ⟨ret_int (by have := H3.out; simp at this; omega), hb⟩
end Go.Proofs.YtaemndioleofjaaGreat
