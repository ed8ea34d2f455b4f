/- The contract of utf.Clean. -/
import Derived.Test.YtmijlijgcaaiiaaBuilder
import Derived.Test.YtmijlijgcaaiiaaBase
namespace Go.Proofs.Ytmijlijgcaaiiaa
open Go.RowKit
theorem Fit.dec (s : ByteArray) : Fit (dec s) := by
  have h : ∀ f p, ∀ x ∈ decF s f p, (Lit.int .i32 x).wf = true := by
    intro f
    induction f with
    | zero => intro p x hx; cases hx
    | succ f ih =>
      intro p x hx
      unfold decF at hx
      split at hx
      · rcases List.mem_cons.1 hx with rfl | hx
        · have := decode_le s p
          simp [Lit.wf, IntKind.min, IntKind.max, IntKind.signed, IntKind.bits]
          omega
        · exact ih _ x hx
      · cases hx
  exact h _ _
set_option maxHeartbeats 400000 in
theorem clean_any (s : ByteArray) (w : World) (hs : s.size ≤ 100000000) :
    Calls Try.prog 43 #[.string s] w fun e w' => e = .returned (.string ⟨(encAll (dec s)).toArray⟩) ∧ Below w.heap.size w w' := by
  have hl := dec_len s
  have HF := Lib.hid (Fit.dec s)
  go_enter Try.func43, Try.ntmps43
  go_wp2_with fail
  refine (decode_any s _ (by omega)).mono ?_
  rintro e w1 ⟨A, c, rfl, hb1, hI, _⟩
  go_wp2_with fail
  refine (encode_any A _ c (dec s) _ hI rfl (by omega) HF.out).mono ?_
  rintro e w2 ⟨rfl, hb2⟩
  go_wp2_with fail
  go_ret
  exact ⟨rfl, hb1.trans (hb2.mono hb1.size)⟩
end Go.Proofs.Ytmijlijgcaaiiaa
