/- Contracts of the drawing of chapter 12's lists. -/
import Derived.Test.YtpkeliinnkhpoaaDrawPixel
import Derived.Test.YtpkeliinnkhpoaaLuma
namespace Go.Proofs.Ytpkeliinnkhpoaa
open Go.RowKit
set_option linter.unusedSimpArgs false
set_option linter.unusedVariables false

/-- Drawn: a list of few numbers. -/
def DrawnI (m : Nat) (w : World) (e : Ending) (w' : World) : Prop :=
  ∃ (A : Option Addr) (c : Nat) (xs : List Int), e = .returned (.slice A xs.length c) ∧ xs.length ≤ m ∧ Rds .i64 w' w'.heap.size A xs ∧ Below w.heap.size w w'
set_option maxHeartbeats 4000000 in
theorem drawToLuma_any (A : Option Addr) (c : Nat) (bs : List Int) (w : World) (hc : bs.length ≤ c) (h : Rdw .u8 w w.heap.size A bs) :
    Calls Try.prog 24 #[.slice A bs.length c] w (DrawnI 10 w) := by
  go_enter Try.func24, Try.ntmps24
  go_wp2_with fail
  refine (newReader_any A c bs w hc h).mono ?_
  rintro e w1 ⟨rfl, hr1, hb1, hs1⟩
  have Hs := Lib.hid hs1
  clear hs1
  go_wp2_with fail
  refine (anyPixel_any 3 (by omega) w.heap.size 0 w1 hr1 (by omega)).mono ?_
  rintro e w2 ⟨A2, c2, ys, rfl, hyc, hyl, hr, hR2, hG2, hA⟩
  have HZ := Lib.hid (show Below w.heap.size w w2 from hb1.trans (hr1.trans hG2))
  have Hr := Lib.hid hr
  clear hr hR2 hG2 hA hb1 hr1
  go_wp2
  go_ret
  exact ⟨A2, c2, ys, rfl, by omega, Hr.out, HZ.out⟩
set_option maxHeartbeats 4000000 in
theorem drawFromLuma_any (A : Option Addr) (c : Nat) (bs : List Int) (w : World) (hc : bs.length ≤ c) (h : Rdw .u8 w w.heap.size A bs) :
    Calls Try.prog 26 #[.slice A bs.length c] w (DrawnI 10 w) := by
  go_enter Try.func26, Try.ntmps26
  go_wp2_with fail
  refine (newReader_any A c bs w hc h).mono ?_
  rintro e w1 ⟨rfl, hr1, hb1, hs1⟩
  have Hs := Lib.hid hs1
  clear hs1
  go_wp2_with fail
  refine (anyPixel_any 3 (by omega) w.heap.size 0 w1 hr1 (by omega)).mono ?_
  rintro e w2 ⟨A2, c2, ys, rfl, hyc, hyl, hr, hR2, hG2, hA⟩
  have HB2 := Lib.hid (show Below w.heap.size w w2 from hb1.trans (hr1.trans hG2))
  have hlt := hR2.lt
  clear hG2 hA hb1 hr1
  go_wp2_with fail
  refine (s_ToLuma A2 c2 ys w2 hr (by omega)).mono ?_
  rintro e w3 ⟨v3, rfl, hO3, hB3⟩
  obtain ⟨A3, c3, rfl, _⟩ := hO3.slice
  have hR3 := hR2.below hB3 hlt
  have HB3 := Lib.hid (HB2.out.trans (hB3.mono (by omega)))
  have Hr3 := Lib.hid hO3.rds.2
  have hll := lum_len ys
  have hlt3 := hR3.lt
  have hge : ∀ b : Addr, A3 = some b → w2.heap.size ≤ b.block := fun b hb => by subst hb; exact (hO3.lt b.block rfl).1
  have Hge := Lib.hid hge
  clear hr hR2 hB3 HB2 hO3 hge
  go_wp2_with fail
  refine (pick_any 4 w.heap.size _ w3 hR3 (by omega) (by omega)).mono ?_
  intro e w4 hp
  obtain ⟨k, rfl, hk, hR4, hG4, hs4⟩ := picked_nat hp (by omega)
  have HB4 := Lib.hid (HB3.out.trans (hR3.trans hG4))
  have Hr4 : Hid (Rds .i64 w4 w4.heap.size A3 (lum ys)) := Lib.hid (by rw [hs4]; exact Rds.offG Hr3.out (Nat.le_refl _) Hge.out hG4 hlt)
  clear hp hs4 HB3 hR3 Hr3 hG4 Hge
  by_cases h0 : k = 0
  · have h0' : ((k : Int) == 0) = true := by rw [h0]; rfl
    clear h0
    go_wp2_with fail
    refine (pick_any 256 w.heap.size _ w4 hR4 (by omega) (by omega)).mono ?_
    intro e w5 hp
    obtain ⟨k5, rfl, hk5, hR5, hG5, hs5⟩ := picked_nat hp (by omega)
    have HB5 := Lib.hid (HB4.out.trans (hR4.trans hG5))
    clear hp hs5 HB4 hR4 hG5
    go_wp2_with fail
    refine (pick_any 512 w.heap.size _ w5 hR5 (by omega) (by omega)).mono ?_
    intro e w6 hp
    obtain ⟨k6, rfl, hk6, hR6, hG6, hs6⟩ := picked_nat hp (by omega)
    have HB6 := Lib.hid (HB5.out.trans (hR5.trans hG6))
    clear hp hs6 HB5 hR5 hG6
    go_wp2_with fail
    refine (pick_any 512 w.heap.size _ w6 hR6 (by omega) (by omega)).mono ?_
    intro e w7 hp
    obtain ⟨k7, rfl, hk7, hR7, hG7, hs7⟩ := picked_nat hp (by omega)
    have HB7 := Lib.hid (HB6.out.trans (hR6.trans hG7))
    clear hp hs7 HB6 hR6 hG7
    have hM := made3 (w := w7) (W := w7) (a := (k5 : Int)) (b := (k6 : Int) - 256) (c := (k7 : Int) - 256) (Below.refl _ _)
    have HM := Lib.hid hM
    have hR8 := hR7.alloc (.cells #[.int .i64 (k5 : Int), .int .i64 ((k6 : Int) - 256), .int .i64 ((k7 : Int) - 256)] 3)
    clear hM
    go_wp2_with fail
    refine (spoil_any (some ⟨w7.heap.size, 0, none⟩) 3 [(k5 : Int), (k6 : Int) - 256, (k7 : Int) - 256] 256 w.heap.size _ _ hR8 (by omega) HM.out.1.rds.2 (by simp)).mono ?_
    rintro e w9 ⟨A9, c9, zs, rfl, hzc, hzl, hr9, hR9, hG9, hA9⟩
    have HB9 := Lib.hid ((HB7.out.trans (HM.out.2.mono (by have := hR7.lt; omega))).trans (hR8.trans hG9))
    have Hr9 := Lib.hid hr9
    clear hr9 hR9 hG9 hA9 hR8 hR7 HM HB7
    go_wp2
    go_ret
    exact ⟨A9, c9, zs, rfl, by simp at hzl; omega, Hr9.out, HB9.out⟩
  · have h0' : ((k : Int) == 0) = false := beq_eq_false_iff_ne.2 (by omega)
    clear h0
    go_wp2_with fail
    refine (spoil_any A3 c3 (lum ys) 256 w.heap.size _ w4 hR4 (by omega) Hr4.out (by omega)).mono ?_
    rintro e w9 ⟨A9, c9, zs, rfl, hzc, hzl, hr9, hR9, hG9, hA9⟩
    have HB9 := Lib.hid (HB4.out.trans (hR4.trans hG9))
    have Hr9 := Lib.hid hr9
    clear hr9 hR9 hG9 hA9 hR4 HB4
    go_wp2
    go_ret
    exact ⟨A9, c9, zs, rfl, by omega, Hr9.out, HB9.out⟩
end Go.Proofs.Ytpkeliinnkhpoaa
