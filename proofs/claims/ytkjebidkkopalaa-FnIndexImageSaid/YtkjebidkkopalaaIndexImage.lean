/- Whatever the code: IndexImage of the drawn image and list of colors answers what the model answers, and where there is an answer it has one plane and each of its numbers is the nearest color of the pixel there. -/
import Derived.Test.YtkjebidkkopalaaRows
import Derived.WalkKit
import Derived.ProofKit
import Derived.OpenShut
import Derived.ShutString
import Derived.ChangeOld
import Derived.Below
import Derived.Test.YtkjebidkkopalaaIxI
import Derived.Test.YtkjebidkkopalaaIxS
import Derived.Test.YtkjebidkkopalaaIxL
import Derived.Test.YtkjebidkkopalaaDrawIx
import Derived.Test.YtkjebidkkopalaaLSt
import Derived.Deep.RegionHeld3
namespace Go.Proofs.Ytkjebidkkopalaa.fnIndexImage
open Go.ChangeShapes Go.WideShapes Go.ChangeAt Go.RowKit
open Go.ChangeMaps (open_string shut_string)
set_option linter.unusedVariables false

set_option linter.unusedSimpArgs false
set_option maxRecDepth 20000
/-- IndexImage's contract, its answer in letters. -/
def ICx (f : FuncId) (W H P : Int) (xs : List Int) (xss : List (List Int)) (X Y Z : Int) (ys : List Int) (ok : Bool) : Prop :=
  ∀ (A : Option Addr) (c : Nat) (A2 : Option Addr) (c2 : Nat) (u : World), Rds .i64 u u.heap.size A xs → xs.length ≤ c → Rdss u u.heap.size A2 xss → Calls Try.prog f #[.agg #[.int .i64 W, .int .i64 H, .int .i64 P, .slice A xs.length c], .slice A2 xss.length c2] u fun e w' => ∃ v, e = .returned (.tuple #[.agg #[.int .i64 X, .int .i64 Y, .int .i64 Z, v], .bool ok]) ∧ Own w' u.heap.size v ys ∧ Below u.heap.size u w'
theorem ix_use (W H P : Int) (xs : List Int) (xss : List (List Int)) (hl : xs.length ≤ 256) (ht : tot xss ≤ 2000000) : ∃ (X Y Z : Int) (ys : List Int) (ok : Bool), Hid (ICx 16 W H P xs xss X Y Z ys ok) ∧ Hid (ICx 24 W H P xs xss X Y Z ys ok) ∧ ys.length ≤ 2000000 ∧
    (ok = false ∨ (ok = true ∧ ∃ w h p : Nat, W = w ∧ H = h ∧ P = p ∧ X = w ∧ Y = h ∧ Z = 1 ∧ (w ≤ 16 ∧ h ≤ 16 ∧ p ≤ 4) ∧ Hid (∀ x y : Nat, x < w → y < h → (pxl w p xs x y).length = p ∧ pxv W H P xs x y = pxl w p xs x y ∧ ∃ z : Nat, ncV xss (pxl w p xs x y) = z ∧ z ≤ 16 ∧ pxv W H 1 ys x y = [(z : Int)]))) := by
  refine ⟨_, _, _, _, ixOk W H P xs xss, Lib.hid (fun A c A2 c2 u h1 h2 h3 => i_IndexImage W H P A c xs A2 _ c2 xss u h1 (by omega) h2 h3 rfl ht), Lib.hid (fun A c A2 c2 u h1 h2 h3 => s_IndexImage W H P A c xs A2 _ c2 xss u h1 (by omega) h2 h3 rfl ht), ?_, ?_⟩
  · cases hk : ixOk W H P xs xss
    · simp
    · obtain ⟨w, h, p, rfl, rfl, rfl, ⟨_, hw⟩, ⟨_, hh⟩, _, _⟩ := ix_law hk
      have h1 : (img w h 1 (ixF w p xs xss)).length = w * h * 1 := img_len ..
      have h2 := Nat.mul_le_mul hw hh
      show (img w h 1 (ixF w p xs xss)).length ≤ 2000000
      omega
  · cases hk : ixOk W H P xs xss
    · exact .inl rfl
    · obtain ⟨w, h, p, rfl, rfl, rfl, ⟨_, hw⟩, ⟨_, hh⟩, ⟨_, hp⟩, hlaw⟩ := ix_law hk
      exact .inr ⟨rfl, w, h, p, rfl, rfl, rfl, rfl, rfl, rfl, ⟨hw, hh, hp⟩, Lib.hid hlaw⟩
set_option maxHeartbeats 16000000 in
theorem walk (w : World) (a0 : Option Addr) (cap0 : Nat) (z0 : List Int) (hc0 : z0.length ≤ cap0) (w0 : Rdw .u8 w w.heap.size a0 z0) :
    Calls Try.prog 5 #[.slice a0 z0.length cap0] w fun e w' => e = .returned (.bool true) ∧ Below w.heap.size w w' := by
  have hm := w0.2.1
  unfold maxLen at hm
  by_cases hlen : 1048576 < z0.length
  · go_enter Try.func5, Try.ntmps5
    go_wp2
    go_ret
    exact ⟨rfl, Below.refl _ _⟩
  · have HD := Lib.hid (drawIx_any a0 cap0 z0 w hc0 w0)
    clear w0 hc0
    go_enter Try.func5, Try.ntmps5
    go_wp2_with fail
    refine HD.out.mono ?_
    rintro e w1 ⟨W, H, P, A, c, xs, A2, c2, xss, rfl, hx256, hxc, hcc2, hx2, hrow, hr, hrs, hb1⟩
    have htot : tot xss ≤ 2000000 := by have := tot_le hrow; omega
    have HT := Lib.hid htot
    obtain ⟨X, Y, Z, ys, ok, HI, HS, hyl, hor⟩ := ix_use W H P xs xss hx256 htot
    have HR := Lib.hid hr
    have HRS := Lib.hid hrs
    have HB1 := Lib.hid hb1
    obtain ⟨mg, hmg⟩ : ∃ mg, mg = w1.heap.size := ⟨_, rfl⟩
    have S1 := GS.box' (GS.start w1) 25 #[.int .i64 W, .int .i64 H, .int .i64 P, .slice A xs.length c] mg hmg
    have Hmg := Lib.hid hmg
    clear HD hr hrs hb1 htot hrow hmg
    go_wp2_with fail
    rw [← Hmg.out]
    generalize w1.alloc (.cells #[.int .i64 W, .int .i64 H, .int .i64 P, .slice A xs.length c] 25) = u1 at *
    refine (HI.out A c A2 c2 _ (S1.arg HR.out) hxc (S1.argSSx HRS.out)).mono ?_
    rintro e u2 ⟨v2, rfl, hO2, hB2⟩
    have S2 := S1.add hO2 hB2
    obtain ⟨A2', c2', rfl, hc2'⟩ := hO2.slice
    obtain ⟨lo2, hlo2⟩ : ∃ lo2, lo2 = u1.heap.size := ⟨_, rfl⟩
    obtain ⟨hi2, hhi2⟩ : ∃ hi2, hi2 = u2.heap.size := ⟨_, rfl⟩
    obtain ⟨og, hog⟩ : ∃ og, og = u2.heap.size := ⟨_, rfl⟩
    rw [← hlo2, ← hhi2] at S2
    have S3 := GS.box' S2 25 #[.int .i64 X, .int .i64 Y, .int .i64 Z, .slice A2' ys.length c2'] og hog
    obtain ⟨m0, m1, m2, m3⟩ := S3.b1_4
    have Hog := Lib.hid hog
    clear S1 S2 hO2 hB2 hlo2 hhi2 hog
    go_wp2_with fail
    rw [← Hog.out]
    generalize u2.alloc (.cells #[.int .i64 X, .int .i64 Y, .int .i64 Z, .slice A2' ys.length c2'] 25) = u3 at *
    clear m0 m1 m2 m3 Hog Hmg
    refine (HS.out A c A2 c2 _ (S3.arg HR.out) hxc (S3.argSSx HRS.out)).mono ?_
    rintro e u4 ⟨v4, rfl, hO4, hB4⟩
    have S4 := S3.add hO4 hB4
    obtain ⟨A4, c4, rfl, hc4⟩ := hO4.slice
    obtain ⟨lo4, hlo4⟩ : ∃ lo4, lo4 = u3.heap.size := ⟨_, rfl⟩
    obtain ⟨hi4, hhi4⟩ : ∃ hi4, hi4 = u4.heap.size := ⟨_, rfl⟩
    obtain ⟨jg, hjg⟩ : ∃ jg, jg = u4.heap.size := ⟨_, rfl⟩
    rw [← hlo4, ← hhi4] at S4
    have S5 := GS.box' S4 25 #[.int .i64 X, .int .i64 Y, .int .i64 Z, .slice A4 ys.length c4] jg hjg
    obtain ⟨j0, j1, j2, j3⟩ := S5.b0_4
    obtain ⟨o0, o1, o2, o3⟩ := S5.b1_4
    have Hjg := Lib.hid hjg
    clear S3 S4 hO4 hB4 hlo4 hhi4 hjg HI HS
    go_wp2_with fail
    rw [← Hjg.out]
    generalize u4.alloc (.cells #[.int .i64 X, .int .i64 Y, .int .i64 Z, .slice A4 ys.length c4] 25) = u5 at *
    clear j0 j1 j2 j3 o0 o1 o2 o3 Hjg
    refine (lEqIm X Y Z ys A2' A4 c2' c4 u5 (S5.rds (lo := lo2) (hi := hi2) (n := ys.length) (c := c2') (A := A2') (xs := ys) (by simp)) (S5.rds (lo := lo4) (hi := hi4) (n := ys.length) (c := c4) (A := A4) (xs := ys) (by simp)) hyl).mono ?_
    rintro e u6 ⟨rfl, hB6⟩
    have S6 := S5.call hB6
    clear S5 hB6
    rcases hor with rfl | ⟨rfl, W, H, P, rfl, rfl, rfl, rfl, rfl, rfl, ⟨hW, hH, hP⟩, HLaw⟩
    · obtain ⟨j0, j1, j2, j3⟩ := S6.b0_4
      obtain ⟨o0, o1, o2, o3⟩ := S6.b1_4
      go_wp2_with fail
      refine (lEqIm X Y Z ys A2' A4 c2' c4 u6 (S6.rds (lo := lo2) (hi := hi2) (n := ys.length) (c := c2') (A := A2') (xs := ys) (by simp)) (S6.rds (lo := lo4) (hi := hi4) (n := ys.length) (c := c4) (A := A4) (xs := ys) (by simp)) hyl).mono ?_
      rintro e u7 ⟨rfl, hB7⟩
      have HB7 := Lib.hid (HB1.out.trans ((S6.call hB7).below.mono HB1.out.size))
      clear S6 hB7 j0 j1 j2 j3 o0 o1 o2 o3
      go_wp2
      go_ret
      exact ⟨rfl, HB7.out⟩
    · have HS6 : Hid (GS w1 u6 [ri lo4 hi4 (.slice A4 ys.length c4) ys, ri lo2 hi2 (.slice A2' ys.length c2') ys] [⟨jg, 25, #[.int .i64 (W : Int), .int .i64 (H : Int), .int .i64 1, .slice A4 ys.length c4]⟩, ⟨og, 25, #[.int .i64 (W : Int), .int .i64 (H : Int), .int .i64 1, .slice A2' ys.length c2']⟩, ⟨mg, 25, #[.int .i64 (W : Int), .int .i64 (H : Int), .int .i64 (P : Int), .slice A xs.length c]⟩]) := Lib.hid S6
      clear S6
      go_wp2
      go_loopw [9, 10] (fun y x wr => ∃ b : Nat, b ≤ H ∧ y = .int .i64 (b : Int) ∧ Hid (GS w1 wr [ri lo4 hi4 (.slice A4 ys.length c4) ys, ri lo2 hi2 (.slice A2' ys.length c2') ys] [⟨jg, 25, #[.int .i64 (W : Int), .int .i64 (H : Int), .int .i64 1, .slice A4 ys.length c4]⟩, ⟨og, 25, #[.int .i64 (W : Int), .int .i64 (H : Int), .int .i64 1, .slice A2' ys.length c2']⟩, ⟨mg, 25, #[.int .i64 (W : Int), .int .i64 (H : Int), .int .i64 (P : Int), .slice A xs.length c]⟩])) (fun y _ _ => H - (intOf y).toNat)
      case atStart => exact ⟨0, Nat.zero_le _, rfl, HS6⟩
      case round =>
        obtain ⟨b, hb, rfl, hI⟩ := hrel
        clear HS6
        obtain ⟨m0, m1, m2, m3⟩ := hI.out.b2_4
        by_cases hlt : b < H
        · go_wp2
          clear m0 m1 m2 m3
          go_loopw [10] (fun x wr => ∃ a : Nat, a ≤ W ∧ x = .int .i64 (a : Int) ∧ Hid (GS w1 wr [ri lo4 hi4 (.slice A4 ys.length c4) ys, ri lo2 hi2 (.slice A2' ys.length c2') ys] [⟨jg, 25, #[.int .i64 (W : Int), .int .i64 (H : Int), .int .i64 1, .slice A4 ys.length c4]⟩, ⟨og, 25, #[.int .i64 (W : Int), .int .i64 (H : Int), .int .i64 1, .slice A2' ys.length c2']⟩, ⟨mg, 25, #[.int .i64 (W : Int), .int .i64 (H : Int), .int .i64 (P : Int), .slice A xs.length c]⟩])) (fun x _ => W - (intOf x).toNat)
          case atStart => exact ⟨0, Nat.zero_le _, rfl, hI⟩
          case round =>
            obtain ⟨a, ha, rfl, hJ⟩ := hrel
            clear hI
            obtain ⟨m0, m1, m2, m3⟩ := hJ.out.b2_4
            by_cases hlt2 : a < W
            · obtain ⟨hql, hpv2, z, hnc, hz16, hpv1⟩ := HLaw.out a b hlt2 hlt
              have HP1 : Hid (∀ u, Rds .i64 u u.heap.size A2' ys → Calls Try.prog 19 #[.agg #[.int .i64 (W : Int), .int .i64 (H : Int), .int .i64 1, .slice A2' ys.length c2'], .int .i64 (a : Int), .int .i64 (b : Int)] u (Shows [(z : Int)] u)) := Lib.hid (fun u h => by
                have h2 := i_PixelAt W H 1 A2' c2' ys a b u h hyl hc2'
                rw [hpv1] at h2
                exact h2)
              obtain ⟨qs, hqs⟩ : ∃ qs, qs = pxl W P xs a b := ⟨_, rfl⟩
              rw [← hqs] at hql hpv2 hnc
              have HP2 : Hid (∀ u, Rds .i64 u u.heap.size A xs → Calls Try.prog 19 #[.agg #[.int .i64 (W : Int), .int .i64 (H : Int), .int .i64 (P : Int), .slice A xs.length c], .int .i64 (a : Int), .int .i64 (b : Int)] u (Shows qs u)) := Lib.hid (fun u h => by
                have h2 := i_PixelAt W H P A c xs a b u h (by omega) hxc
                rw [hpv2] at h2
                exact h2)
              have HNC : Hid (∀ (u : World) (A7 : Option Addr) (c7 : Nat), Rdss u u.heap.size A2 xss → Rds .i64 u u.heap.size A7 qs → Calls Try.prog 21 #[.slice A2 xss.length c2, .slice A7 qs.length c7] u fun e w' => e = .returned (.int .i64 (z : Int)) ∧ Below u.heap.size u w') := Lib.hid (fun u A7 c7 h1 h2 => by
                have h3 := i_NearestColor A2 A7 c2 c7 _ _ xss qs u rfl rfl h1 h2 HT.out (by omega)
                rw [hnc] at h3
                exact h3)
              have HC := Lib.hid hJ.out.drew
              clear hql hpv2 hnc hpv1 hqs hJ
              go_upto_region 14 with fail
              clear m0 m1 m2 m3
              refine wp_region_held_drew (S := (fun w' => w'.cell? ⟨og, 0, none⟩ = some (.int .i64 (W : Int)) ∧ w'.cell? ⟨og, 1, none⟩ = some (.int .i64 (H : Int)) ∧ w'.cell? ⟨og, 2, none⟩ = some (.int .i64 1) ∧ w'.cell? ⟨og, 3, none⟩ = some (.slice A2' ys.length c2') ∧ w'.cell? ⟨mg, 0, none⟩ = some (.int .i64 (W : Int)) ∧ w'.cell? ⟨mg, 1, none⟩ = some (.int .i64 (H : Int)) ∧ w'.cell? ⟨mg, 2, none⟩ = some (.int .i64 (P : Int)) ∧ w'.cell? ⟨mg, 3, none⟩ = some (.slice A xs.length c))) (by kernel_rfl) (by exact ⟨HC.out.b1_4.1, HC.out.b1_4.2.1, HC.out.b1_4.2.2.1, HC.out.b1_4.2.2.2, HC.out.b2_4.1, HC.out.b2_4.2.1, HC.out.b2_4.2.2.1, HC.out.b2_4.2.2.2⟩) (fun hHeld => ?_)
              refine' wpAnyH_take (i := 0) (oi := _) (v := _) ?hi1 (by kernel_rfl) (by kernel_rfl) (by kernel_rfl) ?hq1 (Or.inl ⟨?hw1, ?hy1⟩) (by assumption) ?rest1
              case hi1 => (simp only [List.getElem?_toArray, List.getElem?_cons_succ, List.getElem?_cons_zero]; rfl)
              case hq1 => exact fun _ _ _ h => h
              case hw1 => rfl
              case hy1 => (intro wq hSw; (try dsimp only at hSw); go_simp; (try with_reducible rfl))
              (try simp only [Act.put, List.setIfInBounds_toArray, List.set_cons_zero, List.set_cons_succ])
              refine' wpAnyH_take (i := 1) (oi := _) (v := _) ?hi2 (by kernel_rfl) (by kernel_rfl) (by kernel_rfl) ?hq2 (Or.inl ⟨?hw2, ?hy2⟩) (by assumption) ?rest2
              case hi2 => (simp only [List.getElem?_toArray, List.getElem?_cons_succ, List.getElem?_cons_zero]; rfl)
              case hq2 => exact fun _ _ _ h => h
              case hw2 => rfl
              case hy2 => (intro wq hSw; (try dsimp only at hSw); go_simp; (try with_reducible rfl))
              (try simp only [Act.put, List.setIfInBounds_toArray, List.set_cons_zero, List.set_cons_succ])
              refine' wpAnyH_take (i := 2) (oi := _) (v := _) ?hi3 (by kernel_rfl) (by kernel_rfl) (by kernel_rfl) ?hq3 (Or.inl ⟨?hw3, ?hy3⟩) (by assumption) ?rest3
              case hi3 => (simp only [List.getElem?_toArray, List.getElem?_cons_succ, List.getElem?_cons_zero]; rfl)
              case hq3 => exact fun _ _ _ h => h
              case hw3 => rfl
              case hy3 => (intro wq hSw; (try dsimp only at hSw); go_simp; (try with_reducible rfl))
              (try simp only [Act.put, List.setIfInBounds_toArray, List.set_cons_zero, List.set_cons_succ])
              refine' wpAnyH_take (i := 4) (oi := _) (v := _) ?hi4 (by kernel_rfl) (by kernel_rfl) (by kernel_rfl) ?hq4 (Or.inl ⟨?hw4, ?hy4⟩) (by assumption) ?rest4
              case hi4 => (simp only [List.getElem?_toArray, List.getElem?_cons_succ, List.getElem?_cons_zero]; rfl)
              case hq4 => exact fun _ _ _ h => h
              case hw4 => rfl
              case hy4 => (intro wq hSw; (try dsimp only at hSw); go_simp; (try with_reducible rfl))
              (try simp only [Act.put, List.setIfInBounds_toArray, List.set_cons_zero, List.set_cons_succ])
              refine' wpAnyH_take (i := 5) (oi := _) (v := _) ?hi5 (by kernel_rfl) (by kernel_rfl) (by kernel_rfl) ?hq5 (Or.inl ⟨?hw5, ?hy5⟩) (by assumption) ?rest5
              case hi5 => (simp only [List.getElem?_toArray, List.getElem?_cons_succ, List.getElem?_cons_zero]; rfl)
              case hq5 => exact fun _ _ _ h => h
              case hw5 => rfl
              case hy5 => (intro wq hSw; (try dsimp only at hSw); go_simp; (try with_reducible rfl))
              (try simp only [Act.put, List.setIfInBounds_toArray, List.set_cons_zero, List.set_cons_succ])
              refine' wpAnyH_take (i := 6) (oi := _) (v := _) ?hi6 (by kernel_rfl) (by kernel_rfl) (by kernel_rfl) ?hq6 (Or.inl ⟨?hw6, ?hy6⟩) (by assumption) ?rest6
              case hi6 => (simp only [List.getElem?_toArray, List.getElem?_cons_succ, List.getElem?_cons_zero]; rfl)
              case hq6 => exact fun _ _ _ h => h
              case hw6 => rfl
              case hy6 => (intro wq hSw; (try dsimp only at hSw); go_simp; (try with_reducible rfl))
              (try simp only [Act.put, List.setIfInBounds_toArray, List.set_cons_zero, List.set_cons_succ])
              refine' wpAnyH_take (i := 7) (oi := _) (v := _) ?hi7 (by kernel_rfl) (by kernel_rfl) (by kernel_rfl) ?hq7 (Or.inl ⟨?hw7, ?hy7⟩) (by assumption) ?rest7
              case hi7 => (simp only [List.getElem?_toArray, List.getElem?_cons_succ, List.getElem?_cons_zero]; rfl)
              case hq7 => exact fun _ _ _ h => h
              case hw7 => rfl
              case hy7 => (intro wq hSw; (try dsimp only at hSw); go_simp; (try with_reducible rfl))
              (try simp only [Act.put, List.setIfInBounds_toArray, List.set_cons_zero, List.set_cons_succ])
              refine wpAnyH_ready (rs := [3]) (by kernel_rfl) (by simp) ?_
              refine' AllReadyH.cons (o := _) ?hi8 (fun K hK => ?rest8) AllReadyH.nil
              case hi8 => (simp only [List.getElem?_toArray, List.getElem?_cons_succ, List.getElem?_cons_zero]; rfl)
              go_simp
              go_at_call 19
              refine (HP1.out _ (HC.out.rds (lo := lo2) (hi := hi2) (n := ys.length) (c := c2') (A := A2') (xs := ys) (by simp))).mono ?_
              rintro e u6 ⟨A6, c6, rfl, hc6, hr6, hB⟩
              have HR6 := Lib.hid hr6
              have HD := Lib.hid (HC.out.call hB)
              clear HC
              have HC := HD
              clear HD
              clear hr6 hB
              simp only [List.length_singleton]
              go_wp2_with fail
              refine hK.out _ _ (by (try dsimp only); exact ⟨HC.out.b1_4.1, HC.out.b1_4.2.1, HC.out.b1_4.2.2.1, HC.out.b1_4.2.2.2, HC.out.b2_4.1, HC.out.b2_4.2.1, HC.out.b2_4.2.2.1, HC.out.b2_4.2.2.2⟩) (fun hHeld => ?_)
              clear hK K
              (try simp only [Act.put, List.setIfInBounds_toArray, List.set_cons_zero, List.set_cons_succ])
              refine wpAnyH_ready (rs := [8]) (by kernel_rfl) (by simp) ?_
              refine' AllReadyH.cons (o := _) ?hi9 (fun K hK => ?rest9) AllReadyH.nil
              case hi9 => (simp only [List.getElem?_toArray, List.getElem?_cons_succ, List.getElem?_cons_zero]; rfl)
              go_simp
              go_at_call 19
              refine (HP2.out _ (HC.out.arg HR.out)).mono ?_
              rintro e u7 ⟨A7, c7, rfl, hc7, hr7, hB⟩
              have HR7 := Lib.hid hr7
              have HR8 := Lib.hid ((HR6.out.below hB).more hB.size)
              have HD := Lib.hid (HC.out.call hB)
              clear HC
              have HC := HD
              clear HD
              clear hr7 hB HR6
              go_wp2_with fail
              refine hK.out _ _ (by (try dsimp only); exact ⟨HC.out.b1_4.1, HC.out.b1_4.2.1, HC.out.b1_4.2.2.1, HC.out.b1_4.2.2.2, HC.out.b2_4.1, HC.out.b2_4.2.1, HC.out.b2_4.2.2.1, HC.out.b2_4.2.2.2⟩) (fun hHeld => ?_)
              clear hK K
              (try simp only [Act.put, List.setIfInBounds_toArray, List.set_cons_zero, List.set_cons_succ])
              refine wpAnyH_ready (rs := [9]) (by kernel_rfl) (by simp) ?_
              refine' AllReadyH.cons (o := _) ?hi10 (fun K hK => ?rest10) AllReadyH.nil
              case hi10 => (simp only [List.getElem?_toArray, List.getElem?_cons_succ, List.getElem?_cons_zero]; rfl)
              go_simp
              go_at_call 21
              refine (HNC.out _ A7 c7 (HC.out.argSSx HRS.out) HR7.out).mono ?_
              rintro e u8 ⟨rfl, hB⟩
              have HR9 := Lib.hid ((HR8.out.below hB).more hB.size)
              have HD := Lib.hid (HC.out.call hB)
              clear HC
              have HC := HD
              clear HD
              clear hB HR8 HR7
              go_wp2_with fail
              refine hK.out _ _ (by (try dsimp only); exact ⟨HC.out.b1_4.1, HC.out.b1_4.2.1, HC.out.b1_4.2.2.1, HC.out.b1_4.2.2.2, HC.out.b2_4.1, HC.out.b2_4.2.1, HC.out.b2_4.2.2.1, HC.out.b2_4.2.2.2⟩) (fun hHeld => ?_)
              clear hK K
              (try simp only [Act.put, List.setIfInBounds_toArray, List.set_cons_zero, List.set_cons_succ])
              refine wpAnyH_ready (rs := [10]) (by kernel_rfl) (by simp) ?_
              refine' AllReadyH.cons (o := _) ?hi11 (fun K hK => ?rest11) AllReadyH.nil
              case hi11 => (simp only [List.getElem?_toArray, List.getElem?_cons_succ, List.getElem?_cons_zero]; rfl)
              go_simp
              have HQ := Lib.hid (rds_one u8 (z : Int))
              have HR10 := Lib.hid ((HR9.out.alloc (Nat.le_refl _) (.cells #[.int .i64 (z : Int)] 3)).more (show u8.heap.size ≤ (u8.alloc (.cells #[.int .i64 (z : Int)] 3)).heap.size by simp))
              have hB : Below u8.heap.size u8 (u8.alloc (.cells #[.int .i64 (z : Int)] 3)) := (Below.refl _ _).alloc (Nat.le_refl _) _
              have HD := Lib.hid (HC.out.call hB)
              clear HC
              have HC := HD
              clear HD
              clear hB HR9
              refine hK.out _ _ (by (try dsimp only); exact ⟨HC.out.b1_4.1, HC.out.b1_4.2.1, HC.out.b1_4.2.2.1, HC.out.b1_4.2.2.2, HC.out.b2_4.1, HC.out.b2_4.2.1, HC.out.b2_4.2.2.1, HC.out.b2_4.2.2.2⟩) (fun hHeld => ?_)
              clear hK K
              (try simp only [Act.put, List.setIfInBounds_toArray, List.set_cons_zero, List.set_cons_succ])
              refine wpAnyH_ready (rs := [11]) (by kernel_rfl) (by simp) ?_
              refine' AllReadyH.cons (o := _) ?hi12 (fun K hK => ?rest12) AllReadyH.nil
              case hi12 => (simp only [List.getElem?_toArray, List.getElem?_cons_succ, List.getElem?_cons_zero]; rfl)
              go_simp
              go_at_call 15
              refine (lEqualInts_any A6 (some ⟨u8.heap.size, 0, none⟩) c6 1 [(z : Int)] [(z : Int)] _ _ _ HR10.out HQ.out (by simp) (by simp)).mono ?_
              rintro e u9 ⟨rfl, m9, rfl⟩
              rw [decide_eq_true rfl]
              have HD := Lib.hid (HC.out.drewN m9)
              clear HC
              have HC := HD
              clear HD
              go_wp2_with fail
              refine hK.out _ _ (by (try dsimp only); exact ⟨HC.out.b1_4.1, HC.out.b1_4.2.1, HC.out.b1_4.2.2.1, HC.out.b1_4.2.2.2, HC.out.b2_4.1, HC.out.b2_4.2.1, HC.out.b2_4.2.2.1, HC.out.b2_4.2.2.2⟩) (fun hHeld => ?_)
              clear hK K
              (try simp only [Act.put, List.setIfInBounds_toArray, List.set_cons_zero, List.set_cons_succ])
              refine' wpAnyH_take (i := 12) (oi := _) (v := _) ?hi13 (by kernel_rfl) (by kernel_rfl) (by kernel_rfl) ?hq13 (Or.inl ⟨?hw13, ?hy13⟩) (by assumption) ?rest13
              case hi13 => (simp only [List.getElem?_toArray, List.getElem?_cons_succ, List.getElem?_cons_zero]; rfl)
              case hq13 => exact fun _ _ _ h => h
              case hw13 => rfl
              case hy13 => (intro wq hSw; (try dsimp only at hSw); go_simp; (try with_reducible rfl))
              (try simp only [Act.put, List.setIfInBounds_toArray, List.set_cons_zero, List.set_cons_succ])
              refine wpAnyH_done (by kernel_rfl) ?_ _
              clear HP1 HP2 HNC HR10 HQ
              go_wp2
              go_roundw
              case rel => exact ⟨a + 1, by omega, by go_num, HC⟩
              case measure => simp [intOf]; omega
            · go_wp2
              go_roundw
              case rel => exact ⟨b + 1, by omega, by go_num, hJ⟩
              case measure => simp [intOf]; omega
        · obtain ⟨o0, o1, o2, o3⟩ := hI.out.b1_4
          have HB7 := Lib.hid (HB1.out.trans (hI.out.below.mono HB1.out.size))
          clear hI
          go_wp2
          go_ret
          exact ⟨rfl, HB7.out⟩

/-! ### From the walk to the statement. -/
theorem own : ownKnob Try.prog.godebug = none := by kernel_rfl
theorem laidOut : laidOutB Try.prog = true := by kernel_rfl
set_option maxRecDepth 100000 in
theorem lifted (os : Os) (started : os.Started) (H : Type) (enc : TypeId × Value → H) :
    ReturnsInHanded {} Try.checked os 5 .any (Rows.fnIndexImageSpec.pre6 enc Try.prog Try.f5 Rows.fnIndexImageRow.domain false) (Rows.fnIndexImageSpec.post enc Try.prog Try.f5 false true false false) := by
  refine returnsInHanded_of_change (C := Try.checked) own started (by kernel_rfl) Try.func5
    (ChangeSpec.witness6 (enc := enc) (C := Try.checked) false ⟨#[], #[.slice none 0 0], []⟩ 8 (by kernel_rfl) (by kernel_rfl) (by kernel_rfl) (by kernel_rfl)) ?_
  intro W base args ds gs before hval0 hW hcnd _
  have hval : ∀ (j : Nat) t v, Try.f5.params[j]? = some t → args[j]? = some v → Value.okWide Try.prog W .any base t v := hval0
  have hW' := hW
  obtain ⟨p, q, hA0, hV, rfl, hfz, hnd⟩ := hW
  have hA : DataW.TrodAll enc Try.prog W 0 (fun _ => true) true Try.f5.params.toList args.toList ds p := hA0
  rw [Try.params5] at hA hval
  obtain ⟨v0, vs0, d0, ds0, p0, q0, hargs, rfl, rfl, h0, r0⟩ := trodAll_cons hA
  obtain ⟨rfl, rfl, rfl⟩ := trodAll_nil r0
  obtain rfl : args = #[v0] := by cases args; simp_all
  obtain ⟨rfl, rfl⟩ := trodVars_none hV
  obtain ⟨a0, len0, cap0, rfl⟩ := okWide_slice Try.underlying22 (hval 0 22 v0 rfl rfl)
  have k0 := h0
  have lt0 : ∀ x ∈ p0, x.block < W.heap.size := by obtain ⟨m, hm⟩ := k0; exact DataW.trod_lt m _ _ _ hm
  obtain ⟨z0, hl0, hc0, w0⟩ : ∃ zs : List Int, len0 = zs.length ∧ zs.length ≤ cap0 ∧ Rdw .u8 W W.heap.size a0 zs := by
    obtain ⟨fuel, hf⟩ := h0
    rcases open_ints Try.underlying22 Try.underlying5 (by kernel_rfl) hf with ⟨hcs, _⟩ | ⟨x, l, c, zs, hcs, _, hl, hm, hz, _, hcell, hwz⟩
    · simp [Value.cells] at hcs
      obtain ⟨rfl, rfl, rfl⟩ := hcs
      exact ⟨[], rfl, Nat.le_refl _, Rdw.nil⟩
    · simp [Value.cells] at hcs
      obtain ⟨rfl, rfl, rfl⟩ := hcs
      exact ⟨zs.take len0, by simp at hz ⊢; omega, by simp at hz ⊢; omega, Rdw.of_row hl hm (by simpa using hz) hcell hwz⟩
  subst hl0
  clear hA0 hval0
  refine (walk W a0 cap0 z0 hc0 w0).mono fun e W' ⟨he, bel⟩ => ?_
  subst he
  exact ⟨_, rfl, _, _, _, [], _, [], hW', trodAll_mk1 (shut_bool Try.underlying4 _), (trodAll_cons_mk (Below.trod laidOut (by kernel_rfl) (of_decide_eq_true (by kernel_rfl)) k0 bel lt0) trodAll_mk0), rfl, bel.frame _, fun h => by cases h⟩

theorem over : Rows.fnIndexImageRow.holds Try.pinned (OpenSpec.ofChange Rows.fnIndexImageSpec) :=
  OpenClaim.holds_of_wide 5 Try.f5 rfl rfl rfl rfl rfl rfl rfl ⟨rfl, rfl, rfl, rfl, rfl⟩ rfl rfl rfl rfl rfl (by kernel_rfl) Try.func5 (by kernel_rfl)
    (of_decide_eq_true (by kernel_rfl)) (by unfold Func.isWrapper; first | (rw [if_pos (by decide +kernel)]; kernel_rfl) | (rw [if_neg (by decide +kernel)]; exact ⟨rfl, rfl⟩))
    (fun os started H enc _ => lifted os started H enc)

theorem proved : Rows.FnIndexImageSaid := over
end Go.Proofs.Ytkjebidkkopalaa.fnIndexImage
