/-
The graphs that the chapter names, as functions of the index: plain arithmetic; nothing here speaks of the program.
-/
import Derived.Test.YtmlklmdenhhjnaaM
namespace Go.Proofs.Ytmlklmdenhhjnaa
/-- The path up to the element m. -/
def pathF : Nat → Nat → Nat
  | 0 => fun _ => 0
  | m + 1 => lk m (m + 1) (pathF m)
/-- A place of a grid with c columns, row by row: its neighbours above and to the left. -/
def upF (c r : Nat) (k : Nat) (F : Nat → Nat) : Nat → Nat := if 0 < r then lk (c * (r - 1) + k) (c * r + k) F else F
def cellF (c r : Nat) (k : Nat) (F : Nat → Nat) : Nat → Nat := if 0 < k then lk (c * r + k - 1) (c * r + k) (upF c r k F) else upF c r k F
def rowF (c r : Nat) : Nat → (Nat → Nat) → Nat → Nat
  | 0, F => F
  | k + 1, F => cellF c r k (rowF c r k F)
def gridF (c : Nat) : Nat → Nat → Nat
  | 0 => fun _ => 0
  | r + 1 => rowF c r c (gridF c r)
/-- The same place by place: its neighbours to the right and below. -/
def rightF (c p : Nat) (F : Nat → Nat) : Nat → Nat := if p % c = c - 1 then F else lk p (p + 1) F
def placeF (c n p : Nat) (F : Nat → Nat) : Nat → Nat := if p + c < n then lk p (p + c) (rightF c p F) else rightF c p F
def placesF (c n : Nat) : Nat → Nat → Nat
  | 0 => fun _ => 0
  | p + 1 => placeF c n p (placesF c n p)
/-- The last row joined to the first, and the last column to the first. -/
def endsF (c r : Nat) : Nat → (Nat → Nat) → Nat → Nat
  | 0, F => F
  | k + 1, F => lk k (c * (r - 1) + k) (endsF c r k F)
def sidesF (c : Nat) : Nat → (Nat → Nat) → Nat → Nat
  | 0, F => F
  | k + 1, F => lk (c * k) (c * k + c - 1) (sidesF c k F)
set_option maxRecDepth 100000 in
theorem grid_same : ∀ r, r < 17 → ∀ c, c < 17 → r * c ≤ 16 → ∀ k, k < r * c → gridF c r k = placesF c (r * c) (r * c) k := by decide +kernel
set_option maxRecDepth 100000 in
theorem path_same : ∀ n, n < 17 → ∀ k, k < n → pathF (n - 1) k = placesF n n n k := by decide +kernel
set_option maxRecDepth 100000 in
theorem torus_same : ∀ r, r < 6 → ∀ c, c < 6 → (3 ≤ r ∧ 3 ≤ c ∧ r * c ≤ 16) → ∀ k, k < r * c → sidesF c r (endsF c r c (gridF c r)) k = endsF c r c (sidesF c r (placesF c (r * c) (r * c))) k := by decide +kernel
end Go.Proofs.Ytmlklmdenhhjnaa
