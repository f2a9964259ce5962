import Derived.Test.YtcpbbpgiicakcaaWB
import Derived.Deep.RegionHeld3
namespace Go.Proofs.Ytcpbbpgiicakcaa
open Go.RowKit
set_option maxHeartbeats 2000000
def Two (w : World) (v : Value) (ok : Bool) (e : Ending) (w' : World) : Prop := e = .returned (.tuple #[v, .bool ok]) ∧ Below w.heap.size w w'
theorem wrap_pow16 {m : Nat} (h : m ≤ 16) : RowKit.wrap64 (2 ^ m) = ((2 ^ m : Nat) : Int) := by
  have h3 := pow16n h
  rw [← pow_nat]
  generalize 2 ^ m = x at h3
  exact IntWalk.wrap64_in _ (by omega)
theorem qS_fit {T : Nat → Nat} {n : Nat} (hn : n ≤ 16) (hT : ∀ i, i < n → T i < 2 ^ n) : (qS T n n).1.length ≤ 16 := by
  have := bas_length (inv_at T n n (by omega)).bq (inv_at T n n (by omega)).low
  omega
theorem shl_wrap' (x n : Nat) (hx : x < 65536) (hn : n ≤ 16) : IntKind.i64.wrap ((x : Int) * 2 ^ n) = ((x <<< n : Nat) : Int) := by
  have h1 := pow16n hn
  have h2 : x * 2 ^ n ≤ 65536 * 65536 := Nat.mul_le_mul (by omega) h1
  rw [Nat.shiftLeft_eq, Int.natCast_mul, pow_nat, IntWalk.i64_in _ (by rw [← pow_nat, ← Int.natCast_mul]; generalize x * 2 ^ n = z at h2; omega)]
theorem least_any (g n c : Nat) (T : Nat → Nat) (q : Nat) (w : World) (hn : n ≤ 16) (hT : ∀ j, j < n → T j < 2 ^ n) (hq : q < 2 ^ n) (ha : Arr w 3 g n (iv (nv T))) :
    Calls Try.prog 72 #[.slice (some ⟨g, 0, none⟩) n c, .int .i64 q] w (Two w (.int .i64 (solV T n q : Nat)) (solB T n q)) := by
  have h16 := pow16n hn
  have HA := hide ha
  have HT := hide hT
  have HI := inv_at T n n (by omega)
  have hfit := fit_of hn HI.bp (pS_lt HT.out n (by omega))
  have hbas := HI.bp
  obtain ⟨P, hP⟩ : ∃ P, pS T n n = P := ⟨_, rfl⟩
  rw [hP] at hfit hbas
  have HP := hide hP
  have HFit := hide hfit
  have HBas := hide hbas
  have hy40 : q <<< n < 1099511627776 := Nat.lt_of_lt_of_le (shl_lt hq) (pow40 (by omega))
  have e0 := shl_wrap' q n (by omega) hn
  have HV : Hid (solV T n q = if lin P (q <<< n) >>> n = 0 then lin P (q <<< n) else 0) := hide (by rw [← hP]; rfl)
  have HW : Hid (solB T n q = decide (lin P (q <<< n) >>> n = 0)) := hide (by rw [← hP]; rfl)
  obtain ⟨y, hy⟩ : ∃ y, q <<< n = y := ⟨_, rfl⟩
  rw [hy] at hy40 e0 HV HW
  obtain ⟨x, hx⟩ : ∃ x, lin P y = x := ⟨_, rfl⟩
  rw [hx] at HV HW
  have HX : Hid (rd P y = x) := hide (by rw [rd_lin hbas, hx])
  have hx40 : x < 1099511627776 := by rw [← HX.out]; exact rd40 hfit.1 hy40
  clear ha hT HI hfit hbas hP hy hx
  go_enter Try.func72, Try.ntmps72
  go_wp2
  go_region_held3 (fun _ => True) (trivial) (first | (go_at_call 87; refine (pressBasis_any _ _ _ T _ hn HT.out (by exact HA.out.drew)).mono ?_; rintro e w3 ⟨AP, dP, p, rfl, hp, ho, hb3⟩; rw [HP.out] at hp ho; have HPp := hide hp; have HO := hide ho; have hp64 : p ≤ 1048576 := (by have h1 := HFit.out.2; omega); clear hp ho) | (go_at_call 86; refine (reduced_any _ _ _ P y _ HFit.out.1 HBas.out.1 hy40 HPp.out hp64 (by exact HO.out.src HPp.out)).mono ?_; rintro e w4 ⟨rfl, rfl⟩; simp only [HX.out]))
  have HB3 := hide ((Below.drew (Below.refl w.heap.size w)).trans hb3)
  clear hb3 e0
  by_cases hz : x >>> n = 0
  · have e2 : (x : Int) / 2 ^ n = 0 := by rw [shr_nat, hz]; rfl
    have HZ := hide hz
    clear hz
    go_wp2
    go_ret2
    exact ⟨by rw [HV.out, HW.out, if_pos HZ.out, decide_eq_true HZ.out]; rfl, HB3.out⟩
  · have e2 : ((x : Int) / 2 ^ n != 0) = true := by rw [shr_nat, bne, nat_ne0 hz]; rfl
    have HZ := hide hz
    clear hz
    go_wp2
    go_ret2
    exact ⟨by rw [HV.out, HW.out, if_neg HZ.out, decide_eq_false HZ.out]; rfl, HB3.out⟩
end Go.Proofs.Ytcpbbpgiicakcaa
