/- Whatever the code: a drawn region, shrunk, is what the model tells; what is grown out of it has no new pixels, and the region grown and shrunk by one has all old ones that do not lie at the edge of the grid, where the table of math/bits is what the program lays. -/
import Derived.Test.YtoeifhflbgfcjaaDoorRows
import Derived.WalkKit
import Derived.ProofKit
import Derived.OpenShut
import Derived.ShutString
import Derived.ChangeOld
import Derived.Below
import Derived.Test.YtoeifhflbgfcjaaDoorSftL
import Derived.Test.YtoeifhflbgfcjaaDoorGrwL
import Derived.Test.YtoeifhflbgfcjaaDoorChgI
import Derived.Test.YtoeifhflbgfcjaaDoorReg3
import Derived.Deep.RegionHeld3
import Derived.Test.YtoeifhflbgfcjaaDoorDoor
import Derived.Test.YtoeifhflbgfcjaaDoorTie
import Derived.Test.YtoeifhflbgfcjaaDoorCards
import Derived.SevenTiedAt
import Derived.LaidMore
namespace Go.Proofs.YtoeifhflbgfcjaaDoor.fnShrinkRegion
open Go.ChangeShapes Go.WideShapes Go.ChangeAt Go.RowKit
open Go.ChangeMaps (open_string shut_string)
set_option linter.unusedVariables false

theorem cnd_len (ok : Bool) (G : Nat → Nat → Bool) : (cond ok (rnL G) []).length = 3 * (cond ok (rnN G) 0) ∧ cond ok (rnN G) 0 ≤ 300 := by
  have := rnL_len G
  cases ok
  · exact ⟨rfl, Nat.zero_le _⟩
  · exact ⟨this.1, by show rnN G ≤ 300; omega⟩
theorem inner_has : reg (brL 1 1 14 14) (brN 1 1 14 14) ∧ ∀ x y : Nat, x < 16 → y < 16 → rh (brL 1 1 14 14) x y (brN 1 1 14 14) = (decide (1 ≤ x ∧ x ≤ 14) && decide (1 ≤ y ∧ y ≤ 14)) := by
  refine ⟨regB_of (box_law (by decide)).1, fun x y hx hy => ?_⟩
  have h : ∀ x : Nat, x < 16 → ∀ y : Nat, y < 16 → rh (brL 1 1 14 14) (x : Int) (y : Int) (brN 1 1 14 14) = (decide (1 ≤ x ∧ x ≤ 14) && decide (1 ≤ y ∧ y ≤ 14)) := by decide +kernel
  exact h x hx y hy
set_option maxHeartbeats 32000000 in
theorem walk (w : World) (a0 : Option Addr) (cap0 : Nat) (z0 : List Int) (hc0 : z0.length ≤ cap0) (w0 : Rdw .u8 w w.heap.size a0 z0) (hT : Tab w) :
    Calls Tryd.prog 6 #[.slice a0 z0.length cap0] w fun e w' => e = .returned (.bool true) ∧ Below w.heap.size w w' := by
  have hm := w0.2.1
  unfold maxLen at hm
  have HTab := Lib.hid hT
  clear hT
  by_cases hlen : 1048576 < z0.length
  · go_enter Tryd.func6, Tryd.ntmps6
    go_wp2
    go_ret
    exact ⟨rfl, Below.refl _ _⟩
  · have HD := Lib.hid (drawShr_any a0 cap0 z0 w hc0 w0)
    clear w0 hc0
    go_enter Tryd.func6, Tryd.ntmps6
    go_wp2_with fail
    refine HD.out.mono ?_
    rintro e w1 ⟨v1, n, xs, k, rfl, ⟨hn, hk0, hk1⟩, hO, hb⟩
    obtain ⟨A1, c1, rfl, hc1⟩ := hO.slice
    have HX : Hid (xs.length = 3 * n) := Lib.hid (by have := hO.len; omega)
    have HT1 : Hid (RA w [(A1, xs)] w1) := Lib.hid ⟨fun p hp => by
      rcases List.mem_cons.1 hp with rfl | hp
      · exact hO.rds
      · exact absurd hp List.not_mem_nil, hb⟩
    clear hO hb
    go_wp2_with fail
    refine (i_ShrinkRegion A1 n c1 xs k w1 HX.out (HT1.out.at 0 rfl) (by omega) (HTab.out.below HT1.out.2)).mono ?_
    rintro e w10 ⟨v, rfl, hO, hb⟩
    obtain ⟨N10, hN10⟩ : ∃ N, N = (cond (chOk xs n k) (rnN (chG false k.toNat xs n)) 0) := ⟨_, rfl⟩
    obtain ⟨L10, hL10⟩ : ∃ L, L = (cond (chOk xs n k) (rnL (chG false k.toNat xs n)) []) := ⟨_, rfl⟩
    rw [← hN10, ← hL10] at hO
    have hx10 : L10.length = 3 * N10 ∧ N10 ≤ 300 := by rw [hN10, hL10]; exact cnd_len _ _
    obtain ⟨A10, c10, rfl, hc10⟩ := hO.slice
    have HT10 := Lib.hid ((HT1.out.call hb).add hO.rds)
    have HN10 := Lib.hid hN10
    have HL10 := Lib.hid hL10
    have HX10 := Lib.hid hx10.1
    have hn10 := hx10.2
    clear hO hb HT1 hN10 hL10 hx10
    go_wp2_with fail
    refine (s_ShrinkRegion A1 n c1 xs k w10 HX.out (HT10.out.at 1 rfl) (by omega)).mono ?_
    rintro e w11 ⟨v, rfl, hO, hb⟩
    obtain ⟨N11, hN11⟩ : ∃ N, N = (cond (chOk xs n k) (rnN (chG false k.toNat xs n)) 0) := ⟨_, rfl⟩
    obtain ⟨L11, hL11⟩ : ∃ L, L = (cond (chOk xs n k) (rnL (chG false k.toNat xs n)) []) := ⟨_, rfl⟩
    rw [← hN11, ← hL11] at hO
    have hx11 : L11.length = 3 * N11 ∧ N11 ≤ 300 := by rw [hN11, hL11]; exact cnd_len _ _
    obtain ⟨A11, c11, rfl, hc11⟩ := hO.slice
    have HT11 := Lib.hid ((HT10.out.call hb).add hO.rds)
    have HN11 := Lib.hid hN11
    have HL11 := Lib.hid hL11
    have HX11 := Lib.hid hx11.1
    have hn11 := hx11.2
    clear hO hb HT10 hN11 hL11 hx11
    have hE : L11 = L10 ∧ N11 = N10 := ⟨by rw [HL11.out, HL10.out], by rw [HN11.out, HN10.out]⟩
    have hE1 := hE.1.symm
    have hE2 := hE.2.symm
    clear hE
    clear HL11 HN11 HX11
    subst hE1
    subst hE2
    go_wp2_with fail
    refine (equalRuns_same A10 A11 N10 c10 c11 L10 w11.heap.size w11.heap.size w11 HX10.out (HT11.out.at 1 rfl) (HT11.out.at 0 rfl) (by omega)).mono ?_
    rintro e w12 ⟨rfl, m12, rfl⟩
    have HT12 := Lib.hid (HT11.out.drewN m12)
    clear HT11
    generalize (w11.drewN m12) = w12 at *
    go_wp2_with fail
    refine (i_ValidRegion A1 n c1 w12.heap.size xs w12 HX.out (HT12.out.at 2 rfl) (Nat.le_refl _) (by omega)).mono ?_
    rintro e wv ⟨rfl, hb⟩
    have HTv := Lib.hid (HT12.out.call hb)
    clear hb HT12
    cases hr : regB xs n
    · go_wp2_with fail
      refine (s_ShrinkRegion A1 n c1 xs k wv HX.out (HTv.out.at 2 rfl) (by omega)).mono ?_
      rintro e w13 ⟨v, rfl, hO, hb⟩
      obtain ⟨N13, hN13⟩ : ∃ N, N = (cond (chOk xs n k) (rnN (chG false k.toNat xs n)) 0) := ⟨_, rfl⟩
      obtain ⟨L13, hL13⟩ : ∃ L, L = (cond (chOk xs n k) (rnL (chG false k.toNat xs n)) []) := ⟨_, rfl⟩
      rw [← hN13, ← hL13] at hO
      have hx13 : L13.length = 3 * N13 ∧ N13 ≤ 300 := by rw [hN13, hL13]; exact cnd_len _ _
      obtain ⟨A13, c13, rfl, hc13⟩ := hO.slice
      have HT13 := Lib.hid ((HTv.out.call hb).add hO.rds)
      have HN13 := Lib.hid hN13
      have HL13 := Lib.hid hL13
      have HX13 := Lib.hid hx13.1
      have hn13 := hx13.2
      clear hO hb HTv hN13 hL13 hx13
      have hE : L13 = L10 ∧ N13 = N10 := ⟨by rw [HL13.out, HL10.out], by rw [HN13.out, HN10.out]⟩
      have hE1 := hE.1.symm
      have hE2 := hE.2.symm
      clear hE
      clear HL13 HN13 HX13
      subst hE1
      subst hE2
      go_wp2_with fail
      refine (equalRuns_same A10 A13 N10 c10 c13 L10 w13.heap.size w13.heap.size w13 HX10.out (HT13.out.at 2 rfl) (HT13.out.at 0 rfl) (by omega)).mono ?_
      rintro e w14 ⟨rfl, m14, rfl⟩
      have HT14 := Lib.hid (HT13.out.drewN m14)
      clear HT13
      generalize (w13.drewN m14) = w14 at *
      go_wp2
      go_ret
      exact ⟨rfl, HT14.out.2⟩
    · by_cases q1 : k < 0
      · go_wp2_with fail
        refine (s_ShrinkRegion A1 n c1 xs k wv HX.out (HTv.out.at 2 rfl) (by omega)).mono ?_
        rintro e w13 ⟨v, rfl, hO, hb⟩
        obtain ⟨N13, hN13⟩ : ∃ N, N = (cond (chOk xs n k) (rnN (chG false k.toNat xs n)) 0) := ⟨_, rfl⟩
        obtain ⟨L13, hL13⟩ : ∃ L, L = (cond (chOk xs n k) (rnL (chG false k.toNat xs n)) []) := ⟨_, rfl⟩
        rw [← hN13, ← hL13] at hO
        have hx13 : L13.length = 3 * N13 ∧ N13 ≤ 300 := by rw [hN13, hL13]; exact cnd_len _ _
        obtain ⟨A13, c13, rfl, hc13⟩ := hO.slice
        have HT13 := Lib.hid ((HTv.out.call hb).add hO.rds)
        have HN13 := Lib.hid hN13
        have HL13 := Lib.hid hL13
        have HX13 := Lib.hid hx13.1
        have hn13 := hx13.2
        clear hO hb HTv hN13 hL13 hx13
        have hE : L13 = L10 ∧ N13 = N10 := ⟨by rw [HL13.out, HL10.out], by rw [HN13.out, HN10.out]⟩
        have hE1 := hE.1.symm
        have hE2 := hE.2.symm
        clear hE
        clear HL13 HN13 HX13
        subst hE1
        subst hE2
        go_wp2_with fail
        refine (equalRuns_same A10 A13 N10 c10 c13 L10 w13.heap.size w13.heap.size w13 HX10.out (HT13.out.at 2 rfl) (HT13.out.at 0 rfl) (by omega)).mono ?_
        rintro e w14 ⟨rfl, m14, rfl⟩
        have HT14 := Lib.hid (HT13.out.drewN m14)
        clear HT13
        generalize (w13.drewN m14) = w14 at *
        go_wp2
        go_ret
        exact ⟨rfl, HT14.out.2⟩
      · by_cases q2 : 16 < k
        · go_wp2_with fail
          refine (s_ShrinkRegion A1 n c1 xs k wv HX.out (HTv.out.at 2 rfl) (by omega)).mono ?_
          rintro e w13 ⟨v, rfl, hO, hb⟩
          obtain ⟨N13, hN13⟩ : ∃ N, N = (cond (chOk xs n k) (rnN (chG false k.toNat xs n)) 0) := ⟨_, rfl⟩
          obtain ⟨L13, hL13⟩ : ∃ L, L = (cond (chOk xs n k) (rnL (chG false k.toNat xs n)) []) := ⟨_, rfl⟩
          rw [← hN13, ← hL13] at hO
          have hx13 : L13.length = 3 * N13 ∧ N13 ≤ 300 := by rw [hN13, hL13]; exact cnd_len _ _
          obtain ⟨A13, c13, rfl, hc13⟩ := hO.slice
          have HT13 := Lib.hid ((HTv.out.call hb).add hO.rds)
          have HN13 := Lib.hid hN13
          have HL13 := Lib.hid hL13
          have HX13 := Lib.hid hx13.1
          have hn13 := hx13.2
          clear hO hb HTv hN13 hL13 hx13
          have hE : L13 = L10 ∧ N13 = N10 := ⟨by rw [HL13.out, HL10.out], by rw [HN13.out, HN10.out]⟩
          have hE1 := hE.1.symm
          have hE2 := hE.2.symm
          clear hE
          clear HL13 HN13 HX13
          subst hE1
          subst hE2
          go_wp2_with fail
          refine (equalRuns_same A10 A13 N10 c10 c13 L10 w13.heap.size w13.heap.size w13 HX10.out (HT13.out.at 2 rfl) (HT13.out.at 0 rfl) (by omega)).mono ?_
          rintro e w14 ⟨rfl, m14, rfl⟩
          have HT14 := Lib.hid (HT13.out.drewN m14)
          clear HT13
          generalize (w13.drewN m14) = w14 at *
          go_wp2
          go_ret
          exact ⟨rfl, HT14.out.2⟩
        · obtain ⟨K, hK⟩ := Int.eq_ofNat_of_zero_le (show 0 ≤ k by omega)
          subst hK
          have hK16 : K ≤ 16 := by omega
          have HRg := Lib.hid (regB_of hr)
          have hok : chOk xs n (K : Int) = true := by unfold chOk; rw [hr, decide_eq_true (by omega)]; rfl
          have HOk := Lib.hid hok
          clear hok hr
          have hz : reg L10 N10 := by rw [HL10.out, HN10.out, HOk.out]; exact rnL_reg _
          have ok1 : chOk xs n 1 = true := by unfold chOk; rw [regB_yes HRg.out, decide_eq_true (by omega)]; rfl
          have Hok1 := Lib.hid ok1
          clear ok1
          have ok3 : chOk L10 N10 (K : Int) = true := by unfold chOk; rw [regB_yes hz, decide_eq_true (by omega)]; rfl
          have Hok3 := Lib.hid ok3
          clear ok3
          have HZ10 := Lib.hid hz
          clear hz
          go_wp2_with fail
          refine (i_BoxRegion 1 1 14 14 wv).mono ?_
          rintro e w13 ⟨v, rfl, hO, hb⟩
          have hf : ftB 1 1 14 14 16 16 = true := by decide
          rw [hf]
          obtain ⟨N13, hN13⟩ : ∃ N, N = brN 1 1 14 14 := ⟨_, rfl⟩
          obtain ⟨L13, hL13⟩ : ∃ L, L = brL 1 1 14 14 := ⟨_, rfl⟩
          rw [← hN13, ← hL13] at hO
          have hx13 : L13.length = 3 * N13 ∧ N13 ≤ 300 := by rw [hN13, hL13]; exact ⟨(brow_len _ _ _ _).trans (Nat.mul_comm _ _), by have := brN_le 1 1 14 14; omega⟩
          obtain ⟨A13, c13, rfl, hc13⟩ := hO.slice
          have HT13 := Lib.hid ((HTv.out.call hb).add hO.rds)
          have HN13 := Lib.hid hN13
          have HL13 := Lib.hid hL13
          have HX13 := Lib.hid hx13.1
          have hn13 := hx13.2
          clear hO hb HTv hN13 hL13 hx13
          go_wp2_with fail
          refine (i_GrowRegion A1 n c1 xs (1 : Int) w13 HX.out (HT13.out.at 3 rfl) (by omega) (HTab.out.below HT13.out.2)).mono ?_
          rintro e w14 ⟨v, rfl, hO, hb⟩
          rw [Hok1.out] at hO
          simp only [cond_true] at hO
          obtain ⟨N14, hN14⟩ : ∃ N, N = rnN (chG true (1 : Int).toNat xs n) := ⟨_, rfl⟩
          obtain ⟨L14, hL14⟩ : ∃ L, L = rnL (chG true (1 : Int).toNat xs n) := ⟨_, rfl⟩
          rw [← hN14, ← hL14] at hO
          have hx14 : L14.length = 3 * N14 ∧ N14 ≤ 300 := by rw [hN14, hL14]; exact ⟨(rnL_len _).1, by have := (rnL_len (chG true (1 : Int).toNat xs n)).2; omega⟩
          obtain ⟨A14, c14, rfl, hc14⟩ := hO.slice
          have HT14 := Lib.hid ((HT13.out.call hb).add hO.rds)
          have HN14 := Lib.hid hN14
          have HL14 := Lib.hid hL14
          have HX14 := Lib.hid hx14.1
          have hn14 := hx14.2
          clear hO hb HT13 hN14 hL14 hx14
          have hz : reg L14 N14 := by rw [HL14.out, HN14.out]; exact rnL_reg _
          have ok2 : chOk L14 N14 1 = true := by unfold chOk; rw [regB_yes hz, decide_eq_true (by omega)]; rfl
          have Hok2 := Lib.hid ok2
          clear ok2
          clear hz
          go_wp2_with fail
          refine (i_ShrinkRegion A14 N14 c14 L14 (1 : Int) w14 HX14.out (HT14.out.at 0 rfl) (by omega) (HTab.out.below HT14.out.2)).mono ?_
          rintro e w15 ⟨v, rfl, hO, hb⟩
          rw [Hok2.out] at hO
          simp only [cond_true] at hO
          obtain ⟨N15, hN15⟩ : ∃ N, N = rnN (chG false (1 : Int).toNat L14 N14) := ⟨_, rfl⟩
          obtain ⟨L15, hL15⟩ : ∃ L, L = rnL (chG false (1 : Int).toNat L14 N14) := ⟨_, rfl⟩
          rw [← hN15, ← hL15] at hO
          have hx15 : L15.length = 3 * N15 ∧ N15 ≤ 300 := by rw [hN15, hL15]; exact ⟨(rnL_len _).1, by have := (rnL_len (chG false (1 : Int).toNat L14 N14)).2; omega⟩
          obtain ⟨A15, c15, rfl, hc15⟩ := hO.slice
          have HT15 := Lib.hid ((HT14.out.call hb).add hO.rds)
          have HN15 := Lib.hid hN15
          have HL15 := Lib.hid hL15
          have HX15 := Lib.hid hx15.1
          have hn15 := hx15.2
          clear hO hb HT14 hN15 hL15 hx15
          have hin := inner_has
          rw [← HL13.out, ← HN13.out] at hin
          have hLw := back_law HX.out HRg.out K (L := L10) (N := N10) (by rw [HL10.out, HOk.out]; rfl) (by rw [HN10.out, HOk.out]; rfl) HX13.out hin.1 hin.2
          have l1 : L14 = rnL (chG true 1 xs n) := HL14.out
          have l2 : N14 = rnN (chG true 1 xs n) := HN14.out
          have l3 : L15 = rnL (chG false 1 L14 N14) := HL15.out
          have l4 : N15 = rnN (chG false 1 L14 N14) := HN15.out
          rw [← l1, ← l2, ← l3, ← l4] at hLw
          have HLw := Lib.hid hLw
          clear hLw l1 l2 l3 l4 hin hf
          go_wp2_with fail
          refine (i_GrowRegion A10 N10 c10 L10 (K : Int) w15 HX10.out (HT15.out.at 4 rfl) (by omega) (HTab.out.below HT15.out.2)).mono ?_
          rintro e w16 ⟨v, rfl, hO, hb⟩
          rw [Hok3.out] at hO
          simp only [cond_true] at hO
          obtain ⟨N16, hN16⟩ : ∃ N, N = rnN (chG true (K : Int).toNat L10 N10) := ⟨_, rfl⟩
          obtain ⟨L16, hL16⟩ : ∃ L, L = rnL (chG true (K : Int).toNat L10 N10) := ⟨_, rfl⟩
          rw [← hN16, ← hL16] at hO
          have hx16 : L16.length = 3 * N16 ∧ N16 ≤ 300 := by rw [hN16, hL16]; exact ⟨(rnL_len _).1, by have := (rnL_len (chG true (K : Int).toNat L10 N10)).2; omega⟩
          obtain ⟨A16, c16, rfl, hc16⟩ := hO.slice
          have HT16 := Lib.hid ((HT15.out.call hb).add hO.rds)
          have HN16 := Lib.hid hN16
          have HL16 := Lib.hid hL16
          have HX16 := Lib.hid hx16.1
          have hn16 := hx16.2
          clear hO hb HT15 hN16 hL16 hx16
          go_wp2_with fail
          refine (combined_any A16 A1 N16 n c16 c1 L16 xs 2 w16 HX16.out (HT16.out.at 0 rfl) (by omega) HX.out (HT16.out.at 6 rfl) (by omega)).mono ?_
          rintro e w17 ⟨v, rfl, hO, hb⟩
          obtain ⟨N17, hN17⟩ : ∃ N, N = cbN 2 L16 N16 xs n := ⟨_, rfl⟩
          obtain ⟨L17, hL17⟩ : ∃ L, L = cbL 2 L16 N16 xs n := ⟨_, rfl⟩
          rw [← hN17, ← hL17] at hO
          have hx17 : L17.length = 3 * N17 ∧ N17 ≤ 300 := by rw [hN17, hL17]; exact cb_len _ _ _ _ _
          obtain ⟨A17, c17, rfl, hc17⟩ := hO.slice
          have HT17 := Lib.hid ((HT16.out.call hb).add hO.rds)
          have HN17 := Lib.hid hN17
          have HL17 := Lib.hid hL17
          have HX17 := Lib.hid hx17.1
          have hn17 := hx17.2
          clear hO hb HT16 hN17 hL17 hx17
          have hz0 : N17 = 0 := by rw [HN17.out, HL16.out, HN16.out]; exact HLw.out.1
          clear HL17 hn17
          subst hz0
          go_wp2_with fail
          refine (combined_any A1 A13 n N13 c1 c13 xs L13 1 w17 HX.out (HT17.out.at 7 rfl) (by omega) HX13.out (HT17.out.at 4 rfl) (by omega)).mono ?_
          rintro e w18 ⟨v, rfl, hO, hb⟩
          obtain ⟨N18, hN18⟩ : ∃ N, N = cbN 1 xs n L13 N13 := ⟨_, rfl⟩
          obtain ⟨L18, hL18⟩ : ∃ L, L = cbL 1 xs n L13 N13 := ⟨_, rfl⟩
          rw [← hN18, ← hL18] at hO
          have hx18 : L18.length = 3 * N18 ∧ N18 ≤ 300 := by rw [hN18, hL18]; exact cb_len _ _ _ _ _
          obtain ⟨A18, c18, rfl, hc18⟩ := hO.slice
          have HT18 := Lib.hid ((HT17.out.call hb).add hO.rds)
          have HN18 := Lib.hid hN18
          have HL18 := Lib.hid hL18
          have HX18 := Lib.hid hx18.1
          have hn18 := hx18.2
          clear hO hb HT17 hN18 hL18 hx18
          go_wp2_with fail
          refine (combined_any A18 A15 N18 N15 c18 c15 L18 L15 2 w18 HX18.out (HT18.out.at 0 rfl) (by omega) HX15.out (HT18.out.at 3 rfl) (by omega)).mono ?_
          rintro e w19 ⟨v, rfl, hO, hb⟩
          obtain ⟨N19, hN19⟩ : ∃ N, N = cbN 2 L18 N18 L15 N15 := ⟨_, rfl⟩
          obtain ⟨L19, hL19⟩ : ∃ L, L = cbL 2 L18 N18 L15 N15 := ⟨_, rfl⟩
          rw [← hN19, ← hL19] at hO
          have hx19 : L19.length = 3 * N19 ∧ N19 ≤ 300 := by rw [hN19, hL19]; exact cb_len _ _ _ _ _
          obtain ⟨A19, c19, rfl, hc19⟩ := hO.slice
          have HT19 := Lib.hid ((HT18.out.call hb).add hO.rds)
          have HN19 := Lib.hid hN19
          have HL19 := Lib.hid hL19
          have HX19 := Lib.hid hx19.1
          have hn19 := hx19.2
          clear hO hb HT18 hN19 hL19 hx19
          have hz0 : N19 = 0 := by rw [HN19.out, HL18.out, HN18.out]; exact HLw.out.2
          clear HL19 hn19
          subst hz0
          go_wp2
          go_ret
          exact ⟨rfl, HT19.out.2⟩

/-! ### From the walk to the statement. -/
theorem own : ownKnob Tryd.prog.godebug = none := by kernel_rfl
theorem laidOut : laidOutB Tryd.prog = true := by kernel_rfl
set_option maxRecDepth 100000 in
theorem lifted (os : Os) (started : os.Started) (H : Type) (enc : TypeId × Value → H) :
    ReturnsInHanded {} Tryd.checked os 6 .any (fun w args => (Rows.fnShrinkRegionSpec.pre enc Tryd.prog Tryd.f6 [] false w args ∧ laidMetH Tryd.prog laidTab w) ∧ sizedMet enc Tryd.prog Tryd.f6 (OpenSpec.ofChange Rows.fnShrinkRegionSpec) false w args) (Rows.fnShrinkRegionSpec.post enc Tryd.prog Tryd.f6 false true false false) := by
  refine returnsInHanded_of_change_and (C := Tryd.checked) (X := fun w _ => laidMetH Tryd.prog laidTab w) (fun _ _ _ hh h => h.of_heap hh) own started (by kernel_rfl) Tryd.func6
    (ChangeSpec.witness_shaped (enc := enc) (C := Tryd.checked) (os := os) (X := fun w _ => laidMetH Tryd.prog laidTab w) false (World.doorLaid Tryd.prog doorSteps os) #[.slice none 0 0] 8 rfl (World.shaped_of_RefB (by kernel_rfl) (by kernel_rfl)) (by kernel_rfl) (by kernel_rfl) (by kernel_rfl) (door_met os _)) ?_
  intro W base args ds gs before hval0 hW _ _ hL _
  have hval : ∀ (j : Nat) t v, Tryd.f6.params[j]? = some t → args[j]? = some v → Value.okWide Tryd.prog W .any base t v := hval0
  have hW' := hW
  obtain ⟨p, q, hA0, hV, rfl, hfz, hnd⟩ := hW
  have hA : DataW.TrodAll enc Tryd.prog W 0 (fun _ => true) true Tryd.f6.params.toList args.toList ds p := hA0
  rw [Tryd.params6] at hA hval
  obtain ⟨v0, vs0, d0, ds0, p0, q0, hargs, rfl, rfl, h0, r0⟩ := trodAll_cons hA
  obtain ⟨rfl, rfl, rfl⟩ := trodAll_nil r0
  obtain rfl : args = #[v0] := by cases args; simp_all
  obtain ⟨rfl, rfl⟩ := trodVars_none hV
  obtain ⟨a0, len0, cap0, rfl⟩ := okWide_slice Tryd.underlying22 (hval 0 22 v0 rfl rfl)
  have k0 := h0
  have lt0 : ∀ x ∈ p0, x.block < W.heap.size := by obtain ⟨m, hm⟩ := k0; exact DataW.trod_lt m _ _ _ hm
  obtain ⟨z0, hl0, hc0, w0⟩ : ∃ zs : List Int, len0 = zs.length ∧ zs.length ≤ cap0 ∧ Rdw .u8 W W.heap.size a0 zs := by
    obtain ⟨fuel, hf⟩ := h0
    rcases open_ints Tryd.underlying22 Tryd.underlying5 (by kernel_rfl) hf with ⟨hcs, _⟩ | ⟨x, l, c, zs, hcs, _, hl, hm, hz, _, hcell, hwz⟩
    · simp [Value.cells] at hcs
      obtain ⟨rfl, rfl, rfl⟩ := hcs
      exact ⟨[], rfl, Nat.le_refl _, Rdw.nil⟩
    · simp [Value.cells] at hcs
      obtain ⟨rfl, rfl, rfl⟩ := hcs
      exact ⟨zs.take len0, by simp at hz ⊢; omega, by simp at hz ⊢; omega, Rdw.of_row hl hm (by simpa using hz) hcell hwz⟩
  subst hl0
  clear hA0 hval0
  refine (walk W a0 cap0 z0 hc0 w0 (tab_of hL)).mono fun e W' ⟨he, bel⟩ => ?_
  subst he
  exact ⟨_, rfl, _, _, _, [], _, [], hW', trodAll_mk1 (shut_bool Tryd.underlying4 _), (trodAll_cons_mk (Below.trod laidOut (by kernel_rfl) (of_decide_eq_true (by kernel_rfl)) k0 bel lt0) trodAll_mk0), rfl, bel.frame _, fun h => by cases h⟩

theorem over : Rows.fnShrinkRegionRow.holds Tryd.pinned (OpenSpec.ofChange Rows.fnShrinkRegionSpec) :=
  OpenClaim.holds_of_wide 6 Tryd.f6 rfl rfl rfl rfl rfl rfl rfl ⟨rfl, rfl, rfl, rfl, rfl⟩ rfl rfl rfl rfl rfl (by kernel_rfl) Tryd.func6 (by kernel_rfl)
    (of_decide_eq_true (by kernel_rfl)) (by unfold Func.isWrapper; first | (rw [if_pos (by decide +kernel)]; kernel_rfl) | (rw [if_neg (by decide +kernel)]; exact ⟨rfl, rfl⟩))
    (fun os started H enc _ => lifted os started H enc)

theorem proved : Rows.FnShrinkRegionCardSaid :=
  Claim7.holds_tied_plain_at .later [] [.data] true _ _
    over (fun _ h => by cases h) (by kernel_rfl) (fun _ h => by cases h) fnShrinkRegion_row_tie rfl ⟨rfl, rfl⟩ (by kernel_rfl) rfl
    (fun f fn hf hfn => by
      obtain rfl : f = 6 := Option.some.inj ((show Tryd.prog.funcNamed "loop.example/pixelworks/laws.FnShrinkRegion" = some 6 by kernel_rfl).symm.trans hf) |>.symm
      obtain rfl : fn = Tryd.f6 := (Option.some.inj (Tryd.func6.symm.trans hfn)).symm
      exact ⟨by kernel_rfl, fun j t ht => by
        rw [Tryd.params6] at ht
        have hm : t ∈ [22] := by simpa using Array.mem_of_getElem? ht
        have hall : ([22].all fun u => !Tryd.prog.wantsStandIn u) = true := by kernel_rfl
        exact (show Tryd.prog.wantsStandIn t = false by simpa using List.all_eq_true.1 hall t hm)⟩)
    (by kernel_rfl)
end Go.Proofs.YtoeifhflbgfcjaaDoor.fnShrinkRegion
