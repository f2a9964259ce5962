import Derived.Test.YtibikoajejfdeaaM
import Derived.Test.YtibikoajejfdeaaK
namespace Go.Proofs.Ytibikoajejfdeaa
theorem Good.congr {n : Nat} {f f' : Nat → Int} (h : Good n f) (e : ∀ k, k < n → f k = f' k) : Good n f' :=
  ⟨h.1, h.2.1, fun k hk => by rw [← e k hk]; exact h.2.2.1 k hk, fun i hi j hj hb => by
    rw [← e i hi] at hb
    rw [← e j hj]
    exact h.2.2.2 i hi j hj hb⟩
/-- The neighbours of a graph are natural numbers. -/
theorem good_nat {n : Nat} {f : Nat → Int} (h : Good n f) : ∃ F : Nat → Nat, (∀ k, k < n → f k = nv F k) ∧ (∀ k, k < n → F k < 2 ^ n) ∧ (∀ k, k < n → F k < 65536) ∧ Good n (nv F) := by
  have hp : (2 : Nat) ^ n ≤ 65536 := Nat.pow_le_pow_right (n := 2) (by decide) h.2.1
  have e : ∀ k, k < n → f k = nv (fun k => (f k).toNat) k := fun k hk => by
    have := h.2.2.1 k hk
    simp only [nv]; omega
  have h2 : ∀ k, k < n → (f k).toNat < 2 ^ n := fun k hk => by
    have := h.2.2.1 k hk
    rw [← pow_nat] at this
    omega
  exact ⟨fun k => (f k).toNat, e, h2, fun k hk => Nat.lt_of_lt_of_le (h2 k hk) hp, h.congr e⟩
theorem Src.congr {w : World} {A : Option Addr} {n : Nat} {f f' : Nat → Value} (h : Src w A n f) (e : ∀ k, k < n → f k = f' k) : Src w A n f' := fun k hk => by
  obtain ⟨b, off, hA, hl, hc⟩ := h k hk
  exact ⟨b, off, hA, hl, by rw [hc, e k hk]⟩
theorem Src.nat {w : World} {A : Option Addr} {n : Nat} {f : Nat → Int} {F : Nat → Nat} (h : Src w A n (iv f)) (e : ∀ k, k < n → f k = nv F k) : Src w A n (iv (nv F)) := h.congr fun k hk => by simp only [iv]; rw [e k hk]
end Go.Proofs.Ytibikoajejfdeaa
