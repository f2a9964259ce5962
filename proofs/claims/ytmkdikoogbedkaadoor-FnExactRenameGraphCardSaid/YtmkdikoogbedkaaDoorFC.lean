import Derived.Test.YtmkdikoogbedkaaDoorFB
import Derived.Test.YtmkdikoogbedkaaDoorEA0
import Derived.Test.YtmkdikoogbedkaaDoorEff
import Derived.StillTailTactics
namespace Go.Proofs.YtmkdikoogbedkaaDoor
open Go.RowKit
set_option maxHeartbeats 1000000
/-- The three cells that the closure of a renaming holds. -/
structure Env (w : World) (Bn Bs Bi gn n cn : Nat) (A : Option Addr) (m mc : Nat) (i : Nat) : Prop where
  near : w.cell? ⟨Bn, 0, none⟩ = some (.slice (some ⟨gn, 0, none⟩) n cn)
  names : w.cell? ⟨Bs, 0, none⟩ = some (.slice A m mc)
  idx : w.cell? ⟨Bi, 0, none⟩ = some (.int .i64 i)
theorem ren_closure (Bn Bs Bi gn n cn mc i j : Nat) (A : Option Addr) (V G : Nat → Nat) (w : World) (hn : n ≤ 16) (hi : i < n) (hj : j < n) (hV : ∀ k, k < n → V k < n) (hG : ∀ k, k < n → G k < 65536)
    (he : Env w Bn Bs Bi gn n cn A n mc i) (hs : Src w A n (iv (nv V))) (ha : Arr w 3 gn n (iv (nv G))) :
    Calls Tryd.prog 38 #[.int .i64 j, .pointer (some ⟨Bn, 0, none⟩), .pointer (some ⟨Bs, 0, none⟩), .pointer (some ⟨Bi, 0, none⟩)] w fun e w' => e = .returned (.tuple #[]) ∧ Arr w' 3 gn n (iv (nv (lk (V i) (V j) G))) ∧ w.grownBy w' (some gn) := by
  obtain ⟨b, off, rfl, hbl, hci0⟩ := hs i hi
  have hci : w.cell? ⟨b, off + i, none⟩ = some (.int .i64 (V i : Nat)) := hci0
  have hcj : w.cell? ⟨b, off + j, none⟩ = some (.int .i64 (V j : Nat)) := by
    obtain ⟨b', off', e, _, h⟩ := hs j hj
    injection e with e; injection e with e1 e2 e3; subst e1; subst e2; exact h
  have c1 := he.near
  have c2 := he.names
  have c3 := he.idx
  have HA := hide ha
  have HG := hide hG
  have hvi := hV i hi
  have hvj := hV j hj
  clear hs ha he hci0 hG hV
  go_enter Tryd.func38, Tryd.ntmps38
  go_wp2
  go_still_tail 9, (by kernel_rfl)
  change wpList _ _ _ _ _ w.drew
  go_wp2_with fail
  refine (link_any _ _ _ G _ _ _ hn hvi hvj HG.out HA.out.drew).mono ?_
  rintro e w2 ⟨rfl, ha2, hg2⟩
  go_wp2
  go_end0
  exact ⟨rfl, ha2, grownBy_trans (grownBy_of_below (Below.drew (Below.refl _ _)) _) hg2⟩
end Go.Proofs.YtmkdikoogbedkaaDoor
