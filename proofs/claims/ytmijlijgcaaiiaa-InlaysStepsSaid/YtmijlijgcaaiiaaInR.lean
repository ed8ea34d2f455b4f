/- Inlays: a cleaned text is short, and stays when it is cleaned again. -/
import Derived.Test.YtmijlijgcaaiiaaInC
import Derived.Test.YtmijlijgcaaiiaaDec10
namespace Go.Proofs.Ytmijlijgcaaiiaa
open Go.RowKit Go.Sort
set_option linter.unusedVariables false
theorem dec_again (s : ByteArray) : dec ⟨(encAll (dec s)).toArray⟩ = dec s := by
  rw [dec_list ⟨(encAll (dec s)).toArray⟩]
  show decD (encAll (dec s)) = dec s
  rw [decD_encAll, dec_list]
  unfold decD
  exact decoded_clean _ _
theorem icl_dec (a : In) : dec (icl a).tx = dec a.tx := dec_again a.tx
theorem icl_icl (a : In) : icl (icl a) = icl a := by
  show (⟨a.id, a.pl, a.bi, a.ky, ⟨(encAll (dec (icl a).tx)).toArray⟩⟩ : In) = icl a
  rw [icl_dec]
  rfl
theorem icl_has10 (a : In) : has10 (icl a).tx = has10 a.tx := by
  have h1 := has10_dec (icl a).tx
  rw [icl_dec, ← has10_dec a.tx] at h1
  cases h : has10 a.tx <;> cases h2 : has10 (icl a).tx <;> simp_all
theorem icl_iwr (n : Int) (a : In) : iwr n (icl a) = iwr n a := by
  unfold iwr
  rw [icl_dec, icl_has10]
  rfl
theorem icl_len (a : In) : (icl a).tx.size ≤ 4 * (dec a.tx).length := by
  show (encAll (dec a.tx)).toArray.size ≤ _
  simpa using encAll_len (dec a.tx)
theorem icl_size {n : Int} {a : In} (h : iwr n a = 0) : (icl a).tx.size ≤ 160 := by
  have h1 := icl_len a
  unfold iwr at h
  by_cases c : a.id < 1 ∨ a.pl < 0 ∨ n < a.pl ∨ (a.bi ≠ 0 ∧ a.bi ≠ 1)
  · rw [if_pos c] at h; exact absurd h (by decide)
  · rw [if_neg c] at h
    by_cases d : 40 < (dec a.tx).length
    · rw [if_pos d] at h; exact absurd h (by decide)
    · omega
/-- Of a list that is right each one is right, and no two are of one number. -/
theorem iw_each (n : Int) : ∀ (l seen : List In), iw n seen l = 0 → ∀ a ∈ l, iwr n a = 0
  | [], _, _, a, h => absurd h (by simp)
  | b :: l, seen, h, a, ha => by
    rw [iw] at h
    by_cases c : iwr n b = 0
    · rw [if_neg (fun h => h c)] at h
      by_cases d : seen.any (fun x => x.id == b.id) = true
      · rw [if_pos d] at h; exact absurd h (by decide)
      · rw [if_neg d] at h
        rcases List.mem_cons.1 ha with rfl | ha
        · exact c
        · exact iw_each n l _ h a ha
    · rw [if_pos c] at h; exact absurd h c
theorem iwrong_each {n : Int} {l : List In} (h : iwrong n l = 0) : ∀ a ∈ l, iwr n a = 0 := by
  unfold iwrong at h
  by_cases c : n < 0 ∨ 1099511627776 < n
  · rw [if_pos c] at h; exact absurd h (by decide)
  · rw [if_neg c] at h
    by_cases d : 60 < l.length
    · rw [if_pos d] at h; exact absurd h (by decide)
    · rw [if_neg d] at h; exact iw_each n l [] h
theorem ord_size {n : Int} {l : List In} (h : iwrong n l = 0) : ∀ a ∈ ord ilt (l.map icl), a.tx.size ≤ 160 ∧ iwr n a = 0 ∧ icl a = a := by
  intro a ha
  obtain ⟨b, hb, rfl⟩ := List.mem_map.1 ((ord_perm ilt ilt_swo _).mem_iff.1 ha)
  have := iwrong_each h b hb
  exact ⟨icl_size this, by rw [icl_iwr]; exact this, icl_icl b⟩
end Go.Proofs.Ytmijlijgcaaiiaa
