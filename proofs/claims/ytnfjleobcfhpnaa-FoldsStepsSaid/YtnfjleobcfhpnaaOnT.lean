/- Memory: blocks of other types than some stay as they are; rows of one's own behind that. -/
import Derived.Test.YtnfjleobcfhpnaaBase
namespace Go.Proofs.Ytnfjleobcfhpnaa
open Go.RowKit
/-- Blocks of other types than some stay as they are. -/
def OnT (ts : List TypeId) (W w' : World) : Prop := ∀ b t cs, t ∉ ts → RawAt t W b cs → RawAt t w' b cs
theorem OnT.trans {ts : List TypeId} {a b c : World} (h : OnT ts a b) (g : OnT ts b c) : OnT ts a c := fun b t cs ht hr => g b t cs ht (h b t cs ht hr)
theorem OnT.of {ts : List TypeId} {a b : World} (h : Below a.heap.size a b) : OnT ts a b := fun _ _ _ _ hr => hr.below h hr.lt
theorem OnT.mono {ts us : List TypeId} {a b : World} (h : OnT ts a b) (hs : ∀ t ∈ ts, t ∈ us) : OnT us a b := fun b t cs ht hr => h b t cs (fun hm => ht (hs t hm)) hr
theorem OnT.drew {ts : List TypeId} {a b : World} (h : OnT ts a b) : OnT ts a b.drew := fun b t cs ht hr => h b t cs ht hr
theorem OnT.drewn {ts : List TypeId} {a b : World} (h : OnT ts a b) (n : Nat) : OnT ts a (b.drewN n) := fun b t cs ht hr => h b t cs ht hr
theorem own_set {w : World} {base : Nat} {e : TypeId} {size : Nat} {v : Value} {n : Nat} {xs : List Value} (h : w.ownsRow base e size v n xs) {b : Nat} (hb : b < base) (k : Nat) (u : Value) : (w.setCell ⟨b, k, none⟩ u).ownsRow base e size v n xs := by
  refine ⟨h.1, ?_⟩
  rcases h.2 with h2 | ⟨g, cap, cur, rfl, hB, c, h3⟩
  · exact .inl h2
  · exact .inr ⟨g, cap, cur, rfl, hB, (Below.heap_setCell w ⟨b, k, none⟩ u g (by simp; omega)).trans c, h3⟩
theorem own_slice {w : World} {base : Nat} {e : TypeId} {size : Nat} {v : Value} {n : Nat} {xs : List Value} (h : w.ownsRow base e size v n xs) (hn : 0 < n) : ∃ g cap, v = .slice (some ⟨g, 0, none⟩) n cap := by
  rcases h.2 with ⟨_, h2⟩ | ⟨g, cap, cur, h2, _⟩
  · omega
  · exact ⟨g, cap, h2⟩
theorem OnT.set {ts : List TypeId} {W0 W : World} {b : Nat} {t : TypeId} {cs : Array Value} (h : OnT ts W0 W) (hr : RawAt t W b cs) (ht : t ∈ ts) (k : Nat) (v : Value) : OnT ts W0 (W.setCell ⟨b, k, none⟩ v) := by
  intro b' t' cs' hn hr'
  have h1 := h b' t' cs' hn hr'
  refine h1.set_other ?_ k v
  rintro rfl
  unfold RawAt at hr h1
  rw [hr] at h1
  injection h1 with h2
  injection h2 with _ h3
  exact hn (h3 ▸ ht)
theorem OnT.grown {ts : List TypeId} {W W' : World} {base n size : Nat} {e : TypeId} {v : Value} {xs : List Value} (h : W.ownsRow base e size v n xs) (hg : W.grownBy W' v.ownBlock) (he : e ∈ ts) : OnT ts W W' := by
  intro b t cs ht hr
  refine (hg.block b hr.lt ?_).trans hr
  intro hb
  rcases h.2 with ⟨rfl, _⟩ | ⟨g, cap, cur, rfl, _, hh, _⟩
  · cases hb
  · obtain rfl : b = g := by injection hb
    unfold RawAt at hr
    rw [hr] at hh
    injection hh with h2
    injection h2 with _ h3
    exact ht (h3 ▸ he)
theorem OnT.refl (ts : List TypeId) (w : World) : OnT ts w w := fun _ _ _ _ h => h
theorem own_onT {ts : List TypeId} {w w' : World} {base n size : Nat} {e : TypeId} {v : Value} {xs : List Value} (h : w.ownsRow base e size v n xs) (ho : OnT ts w w') (he : e ∉ ts) : w'.ownsRow base e size v n xs := by
  refine ⟨h.1, ?_⟩
  rcases h.2 with g | ⟨g, cap, cur, e', hB, c, h3⟩
  · exact .inl g
  · exact .inr ⟨g, cap, cur, e', hB, ho _ _ _ he c, h3⟩
theorem own_form {w : World} {base n size : Nat} {e : TypeId} {v : Value} {xs : List Value} (h : w.ownsRow base e size v n xs) : ∃ A c, v = .slice A n c := by
  rcases h.2 with ⟨rfl, rfl⟩ | ⟨g, cap, cur, rfl, _⟩
  · exact ⟨_, _, rfl⟩
  · exact ⟨_, _, rfl⟩
theorem own_base {w : World} {base base' n size : Nat} {e : TypeId} {v : Value} {xs : List Value} (h : w.ownsRow base e size v n xs) (hb : base' ≤ base) : w.ownsRow base' e size v n xs := by
  refine ⟨h.1, ?_⟩
  rcases h.2 with g | ⟨g, cap, cur, e', hB, c⟩
  · exact .inl g
  · exact .inr ⟨g, cap, cur, e', by omega, c⟩
end Go.Proofs.Ytnfjleobcfhpnaa
