/- Contracts of the drawing of pixels and of chapter 12's lists. -/
import Derived.Test.YtpkeliinnkhpoaaSpoil
import Derived.Deep.RegionHeld3
import Derived.Deep.RegionLaw
namespace Go.Proofs.Ytpkeliinnkhpoaa
open Go.RowKit
set_option linter.unusedSimpArgs false
set_option linter.unusedVariables false

theorem pixel_step {g N : Nat} {w w' : World} {e : Ending} {base : Nat} {v : Value} {xs : List Int} (hb : g < base) (h : Picked 256 g N w e w') (hO : Own w base v xs) :
    ∃ k : Nat, e = .returned (.int .i64 (k : Int)) ∧ (k : Int) < 256 ∧ Hid (Rdr w' g (N + 1)) ∧ Hid (Own w' base v xs) ∧ Hid (w.grownBy w' (some g)) := by
  obtain ⟨k, h1, h2, h3, h4, h5⟩ := picked_nat h (by omega)
  exact ⟨k, h1, h2, h3, hO.off h4 hb, h4⟩
set_option maxHeartbeats 4000000 in
theorem anyPixel_any (P : Nat) (hP : P ≤ 100) (g N : Nat) (w : World) (h : Rdr w g N) (hN : N ≤ 10000000) :
    Calls Try.prog 55 #[.pointer (some ⟨g, 0, none⟩), .int .i64 (P : Int)] w (Spoiled P g (N + P + 3) w) := by
  have hgl := h.lt
  have H0 := Lib.hid (own_none w)
  have HR0 := Lib.hid (h.alloc (.cells #[] 3))
  have HG0 := Lib.hid (World.grownBy_alloc w (.cells #[] 3) (some g))
  clear h
  go_enter Try.func55, Try.ntmps55
  go_wp2
  go_loopw [5, 6] (fun v i wr => ∃ (k : Nat) (xs : List Int), k ≤ P ∧ i = .int .i64 k ∧ Hid (xs.length = k) ∧ Hid (Own wr w.heap.size v xs) ∧ Hid (Rdr wr g (N + k)) ∧ Hid (w.grownBy wr (some g))) (fun _ i _ => P - (intOf i).toNat)
  case atStart => exact ⟨0, [], Nat.zero_le _, rfl, Lib.hid rfl, H0, HR0, HG0⟩
  case round =>
    obtain ⟨k, xs, hk, rfl, hX, hO, hR, hG⟩ := hrel
    obtain ⟨A1, c1, rfl, hc1⟩ := hO.out.slice
    by_cases hlt : k < P
    · go_wp2_with fail
      refine (pick_any 256 g (N + k) wr hR.out (by omega) (by omega)).mono ?_
      intro e w2 hp
      obtain ⟨n, rfl, hn, hR2, hO2, hG2⟩ := pixel_step hgl hp hO.out
      have HS := Lib.hid (rds_one w2 n)
      have HO2 := Lib.hid (hO2.out.alloc (.cells #[.int .i64 (n : Int)] 3))
      have hsz : w.heap.size ≤ w2.heap.size := by have := hG.out.size; have := hG2.out.size; omega
      go_wp2_with (at_builtin; refine wpList_app rfl (.tmp 13) (.tmp 16) rfl w.heap.size (.slice A1 xs.length c1) xs rfl HO2.out (some ⟨w2.heap.size, 0, none⟩) 1 1 _ [(n : Int)] rfl rfl HS.out (by have := hX.out; simp; omega) (by simp; omega) ?_; intro v3 w3 hO3 hG3)
      have HX : Hid ((xs ++ [(n : Int)]).length = k + 1) := Lib.hid (by have := hX.out; simp; omega)
      have hG4 : w2.grownBy w3 (Value.slice A1 xs.length c1).ownBlock := gtrans (World.grownBy_alloc w2 _ _) hG3
      have HR3 : Hid (Rdr w3 g (N + (k + 1))) := Lib.hid ((hR2.out.grown hG4 (fun k' hk' => by have := (hO2.out.lt k' hk').1; omega)).more (by omega))
      have HG3 : Hid (w.grownBy w3 (some g)) := Lib.hid (gmix (gtrans hG.out hG2.out) hG4 (fun j hj => (hO2.out.lt j hj).1))
      have HO3 := Lib.hid hO3
      clear hO3 hG3 hG4 hp hX hO hR hG hR2 hO2 hG2 HS HO2
      go_roundw
      case rel => exact ⟨k + 1, xs ++ [(n : Int)], by omega, by go_num, HX, HO3, HR3, HG3⟩
      case measure => simp [intOf]; omega
    · have hkP : k = P := by omega
      have HK := Lib.hid hkP
      clear hkP
      go_wp2_with fail
      refine (spoil_any A1 c1 xs 256 g (N + k) wr hR.out (by omega) hO.out.rds.2 (by have := hX.out; omega)).mono ?_
      rintro e w2 ⟨A, c, ys, rfl, hyc, hyl, hr, hR2, hG2, hA⟩
      have HZ : Hid (ys.length ≤ c ∧ ys.length ≤ P + 1 ∧ Rds .i64 w2 w2.heap.size A ys ∧ Rdr w2 g (N + P + 3) ∧ w.grownBy w2 (some g) ∧ ∀ b : Addr, A = some b → w.heap.size ≤ b.block) :=
        Lib.hid ⟨hyc, by have := hX.out; omega, hr, hR2.more (by omega), gtrans hG.out hG2, fun b hb => by have := hA b hb; have := hG.out.size; omega⟩
      clear hyc hyl hr hR2 hG2 hA hX hO hR hG
      go_wp2
      go_ret
      exact ⟨A, c, ys, rfl, HZ.out⟩
end Go.Proofs.Ytpkeliinnkhpoaa
