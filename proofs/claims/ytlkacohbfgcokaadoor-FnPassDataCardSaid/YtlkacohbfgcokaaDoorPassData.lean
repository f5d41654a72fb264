/- Whatever the code: the numbers of a drawn pass are what the model tells; there are as many as PassSize tells, and the first pass begins with the first pixel, where the table of passes is what the program lays. -/
import Derived.Test.YtlkacohbfgcokaaDoorRows
import Derived.WalkKit
import Derived.ProofKit
import Derived.OpenShut
import Derived.ShutString
import Derived.ChangeOld
import Derived.Below
import Derived.Test.YtlkacohbfgcokaaDoorPasI
import Derived.Test.YtlkacohbfgcokaaDoorPasS
import Derived.Test.YtlkacohbfgcokaaDoorDrawPas
import Derived.Test.YtlkacohbfgcokaaDoorPixI
import Derived.Test.YtlkacohbfgcokaaDoorLSt
import Derived.Test.YtlkacohbfgcokaaDoorPassP
import Derived.Test.YtlkacohbfgcokaaDoorDoorP
import Derived.Test.YtlkacohbfgcokaaDoorTie
import Derived.Test.YtlkacohbfgcokaaDoorCards
import Derived.SevenTiedAt
import Derived.LaidMore
import Derived.OpenVars
import Derived.ChangeVars
import Derived.Deep.RegionHeld3
namespace Go.Proofs.YtlkacohbfgcokaaDoor.fnPassData
open Go.ChangeShapes Go.WideShapes Go.ChangeAt Go.RowKit
open Go.ChangeMaps (open_string shut_string)
set_option linter.unusedVariables false

/-- An image and a list that are read while calls go by, and the image's box. -/
structure PasF (w : World) (g : Nat) (ca : Array Value) (A1 A2 : Option Addr) (xs L : List Int) (u : World) : Prop where
  ra : Rds .i64 u u.heap.size A1 xs
  rb : Rds .i64 u u.heap.size A2 L
  xa : Bx u g 25 ca
  be : Below w.heap.size w u
theorem pas_rds {u u' : World} {A : Option Addr} {xs : List Int} (h : Rds .i64 u u.heap.size A xs) (hb : Below u.heap.size u u') : Rds .i64 u' u'.heap.size A xs := (h.below hb).more hb.size
theorem PasF.call {w u u' : World} {g : Nat} {ca : Array Value} {A1 A2 : Option Addr} {xs L : List Int} (t : PasF w g ca A1 A2 xs L u) (hb : Below u.heap.size u u') : PasF w g ca A1 A2 xs L u' :=
  ⟨pas_rds t.ra hb, pas_rds t.rb hb, (hb.block g t.xa.lt).trans t.xa, t.be.trans (hb.mono t.be.size)⟩
theorem PasF.drew {w u : World} {g : Nat} {ca : Array Value} {A1 A2 : Option Addr} {xs L : List Int} (t : PasF w g ca A1 A2 xs L u) : PasF w g ca A1 A2 xs L u.drew := ⟨t.ra, t.rb, t.xa, t.be.drew⟩
theorem pdL_pre (W P : Nat) (xs : List Int) (fx dx fy dy N : Nat) : ∀ k, (pdL W P xs fx dx fy dy N (k + 1)).take P = pxl W P xs fx fy
  | 0 => by
    show ([] ++ pxl W P xs (fx + dx * (0 % N)) (fy + dy * (0 / N))).take P = _
    rw [List.nil_append, Nat.zero_mod, Nat.zero_div, Nat.mul_zero, Nat.mul_zero, Nat.add_zero, Nat.add_zero, List.take_of_length_le (by rw [pxl_len]; exact Nat.le_refl _)]
  | k + 1 => by
    have h := pdL_pre W P xs fx dx fy dy N k
    have hl := pdL_len W P xs fx dx fy dy N (k + 1)
    show (pdL W P xs fx dx fy dy N (k + 1) ++ _).take P = _
    rw [List.take_append_of_le_length (by rw [hl, Nat.succ_mul]; omega), h]
/-- What the law says of a pass. -/
theorem pas_law {W H P : Nat} {xs : List Int} {p : Nat} (hv : vim W H P xs = true) (hp : p ≤ 6) : ∃ N M : Nat, N ≤ 16 ∧ M ≤ 16 ∧ (1 ≤ P ∧ P ≤ 4) ∧ psW W H (p : Int) = N ∧ psH W H (p : Int) = M ∧ (pdV W P xs H p).length = N * M * P ∧
    P ≤ (pdV W P xs H 0).length ∧ (pdV W P xs H 0).length ≤ 1024 ∧ (pdV W P xs H 0).take P = pxv W H P xs 0 0 := by
  have hv' := hv
  obtain ⟨w, h, q, e1, e2, e3, a1, a2, a3, a4, a5, a6, _⟩ := vim_nat hv
  obtain rfl : w = W := by omega
  obtain rfl : h = H := by omega
  obtain rfl : q = P := by omega
  have hok : pok w h (p : Int) = true := by
    simp only [pok, Bool.and_eq_true, decide_eq_true_eq]; omega
  obtain ⟨fx, dx, fy, dy, b1, b2, b3, b4, c1, c2, c3, c4⟩ := ps_nat p hp
  have g1 : cN w 0 8 * cN h 0 8 ≠ 0 := by
    have h1 : 1 ≤ cN w 0 8 := (Nat.le_div_iff_mul_le (by omega)).2 (by omega)
    have h2 : 1 ≤ cN h 0 8 := (Nat.le_div_iff_mul_le (by omega)).2 (by omega)
    have := Nat.mul_pos h1 h2
    omega
  obtain ⟨k, hk⟩ : ∃ k, cN w 0 8 * cN h 0 8 = k + 1 := ⟨cN w 0 8 * cN h 0 8 - 1, by omega⟩
  have e0 : pdV w q xs h 0 = pdL w q xs 0 8 0 8 (cN w 0 8) (k + 1) := by rw [← hk]; exact pdV_eq (p := 0) rfl rfl rfl rfl
  refine ⟨cN w fx dx, cN h fy dy, Nat.le_trans (cN_le c1 a1) a2, Nat.le_trans (cN_le c3 a3) a4, ⟨a5, a6⟩, ?_, ?_, ?_, ?_, ?_, ?_⟩
  · unfold psW; rw [if_pos hok]; simp only [Int.toNat_natCast]; rw [b1, b2]; exact pcnt_nat c1 a1
  · unfold psH; rw [if_pos hok]; simp only [Int.toNat_natCast]; rw [b3, b4]; exact pcnt_nat c3 a3
  · rw [pdV_eq b1 b2 b3 b4, pdL_len]
  · rw [e0, pdL_len, Nat.succ_mul]; omega
  · rw [e0]
    refine pdL_bd ?_ a6
    rw [← hk]
    exact Nat.mul_le_mul (Nat.le_trans (cN_le (by omega) a1) a2) (Nat.le_trans (cN_le (by omega) a3) a4)
  · rw [e0, pdL_pre]
    unfold pxv onIm
    rw [hv', decide_eq_true (show (0 : Int) ≤ 0 ∧ (0 : Int) ≤ (w : Int) - 1 by omega), decide_eq_true (show (0 : Int) ≤ 0 ∧ (0 : Int) ≤ (h : Int) - 1 by omega)]
    rfl
set_option maxHeartbeats 32000000 in
theorem walk (w : World) (a0 : Option Addr) (cap0 : Nat) (z0 : List Int) (hc0 : z0.length ≤ cap0) (w0 : Rdw .u8 w w.heap.size a0 z0) (hT : Tab w) :
    Calls Tryd.prog 3 #[.slice a0 z0.length cap0] w fun e w' => e = .returned (.bool true) ∧ Below w.heap.size w w' := by
  have hm := w0.2.1
  unfold maxLen at hm
  by_cases hlen : 1048576 < z0.length
  · go_enter Tryd.func3, Tryd.ntmps3
    go_wp2
    go_ret
    exact ⟨rfl, Below.refl _ _⟩
  · have HD := Lib.hid (drawPas_any a0 cap0 z0 w hc0 w0)
    clear w0 hc0
    have HT := Lib.hid hT
    have HL0 := Lib.hid hT.lt
    clear hT
    go_enter Tryd.func3, Tryd.ntmps3
    go_wp2_with fail
    refine HD.out.mono ?_
    rintro e w1 ⟨W, H, P, A1, c1, xs, q, rfl, ⟨hx1, hq1, hq8⟩, hc1, hr1, hb1⟩
    obtain ⟨L, hL⟩ : ∃ L, L = cond (pdB W H P xs q) (pdV W.toNat P.toNat xs H.toNat q.toNat) [] := ⟨_, rfl⟩
    have hLl : L.length ≤ 1024 := by
      rw [hL]
      cases hpd : pdB W H P xs q
      · simp
      · unfold pdB at hpd
        rw [Bool.and_eq_true, decide_eq_true_eq] at hpd
        obtain ⟨h1, h2, h3⟩ := hpd
        obtain ⟨w, h, p, rfl, rfl, rfl, _⟩ := vim_nat h1
        obtain ⟨N, M, k1, k2, k3, _, _, k4, _⟩ := pas_law h1 (show q.toNat ≤ 6 by omega)
        show (pdV w p xs h q.toNat).length ≤ 1024
        rw [k4]
        exact Nat.mul_le_mul (Nat.mul_le_mul k1 k2) k3.2
    obtain ⟨u, hu⟩ : ∃ x, x = w1.alloc (.cells #[.int .i64 W, .int .i64 H, .int .i64 P, .slice A1 xs.length c1] 25) := ⟨_, rfl⟩
    obtain ⟨bg, hbg⟩ : ∃ x, x = w1.heap.size := ⟨_, rfl⟩
    have HR1 : Hid (Rds .i64 u u.heap.size A1 xs) := Lib.hid (by rw [hu]; exact (hr1.alloc (Nat.le_refl _) _).more (by simp))
    have HX1 : Hid (Bx u bg 25 (imC W H P (.slice A1 xs.length c1))) := Lib.hid (by rw [hu, hbg]; exact Bx.new w1 _ _)
    have HB1 : Hid (Below w.heap.size w u) := Lib.hid (by rw [hu]; exact hb1.alloc hb1.size _)
    have HI : Hid (∀ (p : Int) u, Rds .i64 u u.heap.size A1 xs → Below w.heap.size w u → Calls Tryd.prog 9 #[.agg #[.int .i64 W, .int .i64 H, .int .i64 P, .slice A1 xs.length c1], .int .i64 p] u (Made (cond (pdB W H P xs p) (pdV W.toNat P.toNat xs H.toNat p.toNat) []) u)) := Lib.hid (fun p u h hb => i_PassData W H P p A1 c1 xs u h (by omega) hc1 (HT.out.below HL0.out hb))
    have HS : Hid (∀ u, Rds .i64 u u.heap.size A1 xs → Calls Tryd.prog 11 #[.agg #[.int .i64 W, .int .i64 H, .int .i64 P, .slice A1 xs.length c1], .int .i64 q] u (Made L u)) := Lib.hid (fun u h => by rw [hL]; exact s_PassData W H P q A1 c1 xs u h (by omega) hc1)
    have HVI : Hid (∀ u, Rds .i64 u u.heap.size A1 xs → Calls Tryd.prog 12 #[.agg #[.int .i64 W, .int .i64 H, .int .i64 P, .slice A1 xs.length c1]] u fun e w' => e = .returned (.bool (vim W H P xs)) ∧ Below u.heap.size u w') := Lib.hid (fun u h => iVimg_any W H P A1 c1 xs u h (by omega))
    have HPZ : Hid (∀ u, Below w.heap.size w u → Calls Tryd.prog 13 #[.int .i64 W, .int .i64 H, .int .i64 q] u fun e w' => e = .returned (.tuple #[.int .i64 (psW W H q), .int .i64 (psH W H q)]) ∧ Below u.heap.size u w') := Lib.hid (fun u hb => i_PassSize W H q u (HT.out.below HL0.out hb))
    have HPX : Hid (∀ u, Rds .i64 u u.heap.size A1 xs → Calls Tryd.prog 14 #[.agg #[.int .i64 W, .int .i64 H, .int .i64 P, .slice A1 xs.length c1], .int .i64 0, .int .i64 0] u (Shows (pxv W H P xs 0 0) u)) := Lib.hid (fun u h => i_PixelAt W H P A1 c1 xs 0 0 u h (by omega) hc1)
    have HU := Lib.hid hu
    have Hbg := Lib.hid hbg
    have HLe := Lib.hid hL
    clear hr1 hb1 hu hbg HT HL0 HD
    obtain ⟨a0, a1, a2, a3⟩ := HX1.out.im
    rw [HU.out, Hbg.out] at a0 a1 a2 a3
    go_wp2_with fail
    rw [← HU.out, ← Hbg.out]
    clear HU Hbg a0 a1 a2 a3
    refine (HI.out q u HR1.out HB1.out).mono ?_
    rw [← hL]
    clear hL
    rintro e u2 ⟨v, rfl, hO, hb⟩
    obtain ⟨A2, c2, rfl, hc2⟩ := hO.slice
    have HT2 : Hid (PasF w bg (imC W H P (.slice A1 xs.length c1)) A1 A2 xs L u2) := Lib.hid ⟨pas_rds HR1.out hb, hO.rds.2, (hb.block bg HX1.out.lt).trans HX1.out, HB1.out.trans (hb.mono HB1.out.size)⟩
    clear hO hb HR1 HX1 HB1
    obtain ⟨a0, a1, a2, a3⟩ := HT2.out.xa.im
    go_wp2_with fail
    refine (HS.out u2 HT2.out.ra).mono ?_
    rintro e u3 ⟨v, rfl, hO, hb⟩
    obtain ⟨A3, c3, rfl, hc3⟩ := hO.slice
    have HT3 := Lib.hid (HT2.out.call hb)
    have HR3 := Lib.hid hO.rds.2
    clear hO hb HT2 a0 a1 a2 a3
    obtain ⟨a0, a1, a2, a3⟩ := HT3.out.xa.im
    go_wp2_with fail
    refine (lEqInts_same A2 A3 c2 c3 L u3 HT3.out.rb HR3.out (by omega)).mono ?_
    rintro e u4 ⟨rfl, hb⟩
    have HT4 := Lib.hid (HT3.out.call hb)
    clear hb HT3 HR3 a0 a1 a2 a3
    obtain ⟨a0, a1, a2, a3⟩ := HT4.out.xa.im
    go_wp2_with fail
    refine (HVI.out u4 HT4.out.ra).mono ?_
    rintro e u5 ⟨rfl, hb⟩
    have HT5 := Lib.hid (HT4.out.call hb)
    clear hb HT4 HVI a0 a1 a2 a3
    obtain ⟨a0, a1, a2, a3⟩ := HT5.out.xa.im
    rcases (show vim W H P xs = false ∨ (vim W H P xs = true ∧ q < 0) ∨ (vim W H P xs = true ∧ ¬ q < 0 ∧ 6 < q) ∨ (vim W H P xs = true ∧ ¬ q < 0 ∧ ¬ 6 < q) by
      cases vim W H P xs
      · exact .inl rfl
      · by_cases h1 : q < 0
        · exact .inr (.inl ⟨rfl, h1⟩)
        · by_cases h2 : 6 < q
          · exact .inr (.inr (.inl ⟨rfl, h1, h2⟩))
          · exact .inr (.inr (.inr ⟨rfl, h1, h2⟩))) with hv | ⟨hv, hq0⟩ | ⟨hv, hq0, hq6⟩ | ⟨hv, hq0, hq6⟩
    iterate 3
      · rw [hv]
        clear HLe
        go_wp2_with fail
        refine (HS.out u5 HT5.out.ra).mono ?_
        rintro e u6 ⟨v, rfl, hO, hb⟩
        obtain ⟨A4, c4, rfl, hc4⟩ := hO.slice
        have HT6 := Lib.hid (HT5.out.call hb)
        have HR6 := Lib.hid hO.rds.2
        clear hO hb HT5 a0 a1 a2 a3
        go_wp2_with fail
        refine (lEqInts_same A2 A4 c2 c4 L u6 HT6.out.rb HR6.out (by omega)).mono ?_
        rintro e u7 ⟨rfl, hb⟩
        have HB := Lib.hid (HT6.out.call hb).be
        clear hb HT6 HR6
        go_wp2
        go_ret
        exact ⟨rfl, HB.out⟩
    · rw [hv]
      obtain ⟨p, rfl⟩ := Int.eq_ofNat_of_zero_le (show 0 ≤ q by omega)
      obtain ⟨W, H, P, rfl, rfl, rfl, -⟩ := vim_nat hv
      obtain ⟨N, M, hN, hM, ⟨hP1, hP4⟩, z1, z2, z3, z4, z5, z6⟩ := pas_law hv (show p ≤ 6 by omega)
      have hpd : pdB W H P xs (p : Int) = true := by unfold pdB; rw [hv, decide_eq_true (show 0 ≤ (p : Int) ∧ (p : Int) ≤ 6 by omega)]; rfl
      have hpd0 : pdB W H P xs 0 = true := by unfold pdB; rw [hv]; rfl
      have hLL : L.length = N * M * P := by rw [HLe.out, hpd]; exact z3
      obtain ⟨L0, hL0⟩ : ∃ L0, L0 = pdV W P xs H 0 := ⟨_, rfl⟩
      have HI0 : Hid (∀ u, Rds .i64 u u.heap.size A1 xs → Below w.heap.size w u → Calls Tryd.prog 9 #[.agg #[.int .i64 (W : Int), .int .i64 (H : Int), .int .i64 (P : Int), .slice A1 xs.length c1], .int .i64 0] u (Made L0 u)) := Lib.hid (fun u h hb => by
        have := HI.out 0 u h hb
        rw [hpd0] at this
        rw [hL0]
        exact this)
      rw [← hL0] at z4 z5 z6
      have HPZ' := HPZ
      rw [z1, z2] at HPZ'
      rw [← z6] at HPX
      have HLL := Lib.hid hLL
      clear HI HS HLe hpd hpd0 hLL hL0 HPZ z1 z2 z3 z6 hv
      go_wp2_with fail
      refine (HPZ'.out u5 HT5.out.be).mono ?_
      rintro e u6 ⟨rfl, hb⟩
      have HT6 := Lib.hid (HT5.out.call hb)
      clear hb HT5 a0 a1 a2 a3 HPZ'
      obtain ⟨a0, a1, a2, a3⟩ := HT6.out.xa.im
      go_wp2_with fail
      refine (HI0.out u6 HT6.out.ra HT6.out.be).mono ?_
      rintro e u7 ⟨v, rfl, hO, hb⟩
      obtain ⟨g0, c4, rfl, hg1, hg2⟩ := hO.form (Nat.lt_of_lt_of_le hP1 z4)
      have HT7 := Lib.hid (HT6.out.call hb)
      have HR7 := Lib.hid hO.rds.2
      have hc4 : L0.length ≤ c4 := by
        obtain ⟨A, c', e, hc⟩ := hO.slice
        simp only [Value.slice.injEq] at e
        obtain ⟨_, _, rfl⟩ := e
        exact hc
      clear hO hb HT6 a0 a1 a2 a3 HI0 hg1 hg2
      obtain ⟨a0, a1, a2, a3⟩ := HT7.out.xa.im
      go_upto_region 9 with fail
      have HTd := Lib.hid HT7.out.drew
      have HRd : Hid (Rds .i64 u7.drew u7.drew.heap.size (some ⟨g0, 0, none⟩) L0) := Lib.hid HR7.out
      clear HT7 HR7
      have hnm : N * M ≤ 256 := Nat.mul_le_mul hN hM
      have hnmp : N * M * P ≤ 1024 := Nat.mul_le_mul hnm hP4
      have HW1 : Hid (IntKind.i64.wrap ((N : Int) * (M : Int)) = (N : Int) * (M : Int)) := Lib.hid (by rw [← Int.natCast_mul]; generalize N * M = k at hnm ⊢; exact IntWalk.i64_in _ (by omega))
      have HW2 : Hid (IntKind.i64.wrap ((N : Int) * (M : Int) * (P : Int)) = (N : Int) * (M : Int) * (P : Int)) := Lib.hid (by rw [← Int.natCast_mul, ← Int.natCast_mul]; generalize N * M * P = k at hnmp ⊢; exact IntWalk.i64_in _ (by omega))
      have HEQ : Hid ((L.length : Int) = (N : Int) * (M : Int) * (P : Int)) := Lib.hid (by rw [HLL.out, Int.natCast_mul, Int.natCast_mul])
      have hz4 : (P : Int) ≤ (L0.length : Int) := by omega
      have hPc : (P : Int) ≤ (c4 : Int) := by omega
      have hP0 : (0 : Int) ≤ (P : Int) := by omega
      clear hnm hnmp HLL
      refine wp_region_held_drew (S := (fun w' => w'.cell? ⟨bg, 0, none⟩ = some (.int .i64 (W : Int)) ∧ w'.cell? ⟨bg, 1, none⟩ = some (.int .i64 (H : Int)) ∧ w'.cell? ⟨bg, 2, none⟩ = some (.int .i64 (P : Int)) ∧ w'.cell? ⟨bg, 3, none⟩ = some (.slice A1 xs.length c1))) (by kernel_rfl) (by exact ⟨a0, a1, a2, a3⟩) (fun hHeld => ?_)
      refine' wpAnyH_take (i := 0) (oi := _) (v := _) ?hi1 (by kernel_rfl) (by kernel_rfl) (by kernel_rfl) ?hq1 (Or.inl ⟨?hw1, ?hy1⟩) (by assumption) ?rest1
      case hi1 => (simp only [List.getElem?_toArray, List.getElem?_cons_succ, List.getElem?_cons_zero]; rfl)
      case hq1 => exact fun _ _ _ h => h
      case hw1 => rfl
      case hy1 => (intro wq hSw; (try dsimp only at hSw); go_simp; (try with_reducible rfl))
      (try simp only [Act.put, List.setIfInBounds_toArray, List.set_cons_zero, List.set_cons_succ])
      refine' wpAnyH_take (i := 1) (oi := _) (v := _) ?hi2 (by kernel_rfl) (by kernel_rfl) (by kernel_rfl) ?hq2 (Or.inl ⟨?hw2, ?hy2⟩) (by assumption) ?rest2
      case hi2 => (simp only [List.getElem?_toArray, List.getElem?_cons_succ, List.getElem?_cons_zero]; rfl)
      case hq2 => exact fun _ _ _ h => h
      case hw2 => rfl
      case hy2 => (intro wq hSw; (try dsimp only at hSw); go_simp; (try with_reducible rfl))
      (try simp only [Act.put, List.setIfInBounds_toArray, List.set_cons_zero, List.set_cons_succ])
      refine' wpAnyH_take (i := 2) (oi := _) (v := _) ?hi3 (by kernel_rfl) (by kernel_rfl) (by kernel_rfl) ?hq3 (Or.inl ⟨?hw3, ?hy3⟩) (by assumption) ?rest3
      case hi3 => (simp only [List.getElem?_toArray, List.getElem?_cons_succ, List.getElem?_cons_zero]; rfl)
      case hq3 => exact fun _ _ _ h => h
      case hw3 => rfl
      case hy3 => (intro wq hSw; (try dsimp only at hSw); go_simp; (try with_reducible rfl))
      (try simp only [Act.put, List.setIfInBounds_toArray, List.set_cons_zero, List.set_cons_succ])
      refine' wpAnyH_take (i := 3) (oi := _) (v := _) ?hi4 (by kernel_rfl) (by kernel_rfl) (by kernel_rfl) ?hq4 (Or.inl ⟨?hw4, ?hy4⟩) (by assumption) ?rest4
      case hi4 => (simp only [List.getElem?_toArray, List.getElem?_cons_succ, List.getElem?_cons_zero]; rfl)
      case hq4 => exact fun _ _ _ h => h
      case hw4 => rfl
      case hy4 => (intro wq hSw; (try dsimp only at hSw); go_simp; (try with_reducible rfl))
      (try simp only [Act.put, List.setIfInBounds_toArray, List.set_cons_zero, List.set_cons_succ])
      refine' wpAnyH_take (i := 4) (oi := _) (v := Value.int .i64 ((N : Int) * (M : Int))) ?hi5 (by kernel_rfl) (by kernel_rfl) (by kernel_rfl) ?hq5 (Or.inl ⟨?hw5, ?hy5⟩) (by assumption) ?rest5
      case hi5 => (simp only [List.getElem?_toArray, List.getElem?_cons_succ, List.getElem?_cons_zero]; rfl)
      case hq5 => exact fun _ _ _ h => h
      case hw5 => rfl
      case hy5 => (intro wq hSw; (try dsimp only at hSw); (try go_simp); (first | done | rfl | exact HW1.out | rw [HW1.out]))
      (try simp only [Act.put, List.setIfInBounds_toArray, List.set_cons_zero, List.set_cons_succ])
      refine' wpAnyH_take (i := 5) (oi := _) (v := _) ?hi6 (by kernel_rfl) (by kernel_rfl) (by kernel_rfl) ?hq6 (Or.inl ⟨?hw6, ?hy6⟩) (by assumption) ?rest6
      case hi6 => (simp only [List.getElem?_toArray, List.getElem?_cons_succ, List.getElem?_cons_zero]; rfl)
      case hq6 => exact fun _ _ _ h => h
      case hw6 => rfl
      case hy6 => (intro wq hSw; (try dsimp only at hSw); go_simp; (try with_reducible rfl))
      (try simp only [Act.put, List.setIfInBounds_toArray, List.set_cons_zero, List.set_cons_succ])
      refine' wpAnyH_take (i := 6) (oi := _) (v := _) ?hi7 (by kernel_rfl) (by kernel_rfl) (by kernel_rfl) ?hq7 (Or.inl ⟨?hw7, ?hy7⟩) (by assumption) ?rest7
      case hi7 => (simp only [List.getElem?_toArray, List.getElem?_cons_succ, List.getElem?_cons_zero]; rfl)
      case hq7 => exact fun _ _ _ h => h
      case hw7 => rfl
      case hy7 => (intro wq hSw; (try dsimp only at hSw); go_simp; (try with_reducible rfl))
      (try simp only [Act.put, List.setIfInBounds_toArray, List.set_cons_zero, List.set_cons_succ])
      refine' wpAnyH_take (i := 7) (oi := _) (v := Value.int .i64 ((N : Int) * (M : Int) * (P : Int))) ?hi8 (by kernel_rfl) (by kernel_rfl) (by kernel_rfl) ?hq8 (Or.inl ⟨?hw8, ?hy8⟩) (by assumption) ?rest8
      case hi8 => (simp only [List.getElem?_toArray, List.getElem?_cons_succ, List.getElem?_cons_zero]; rfl)
      case hq8 => exact fun _ _ _ h => h
      case hw8 => rfl
      case hy8 => (intro wq hSw; (try dsimp only at hSw); (try go_simp); (first | done | rfl | exact HW2.out | rw [HW2.out]))
      (try simp only [Act.put, List.setIfInBounds_toArray, List.set_cons_zero, List.set_cons_succ])
      refine' wpAnyH_take (i := 8) (oi := _) (v := Value.bool true) ?hi9 (by kernel_rfl) (by kernel_rfl) (by kernel_rfl) ?hq9 (Or.inl ⟨?hw9, ?hy9⟩) (by assumption) ?rest9
      case hi9 => (simp only [List.getElem?_toArray, List.getElem?_cons_succ, List.getElem?_cons_zero]; rfl)
      case hq9 => exact fun _ _ _ h => h
      case hw9 => rfl
      case hy9 => (intro wq hSw; (try dsimp only at hSw); (try go_simp); (first | done | rfl | exact HEQ.out | simp [HEQ.out]))
      (try simp only [Act.put, List.setIfInBounds_toArray, List.set_cons_zero, List.set_cons_succ])
      refine' wpAnyH_take (i := 9) (oi := _) (v := Value.bool true) ?hi10 (by kernel_rfl) (by kernel_rfl) (by kernel_rfl) ?hq10 (Or.inl ⟨?hw10, ?hy10⟩) (by assumption) ?rest10
      case hi10 => (simp only [List.getElem?_toArray, List.getElem?_cons_succ, List.getElem?_cons_zero]; rfl)
      case hq10 => exact fun _ _ _ h => h
      case hw10 => rfl
      case hy10 => (intro wq hSw; (try dsimp only at hSw); (try go_simp); (first | done | (with_reducible rfl) | rfl | simp))
      (try simp only [Act.put, List.setIfInBounds_toArray, List.set_cons_zero, List.set_cons_succ])
      refine' wpAnyH_take (i := 10) (oi := _) (v := _) ?hi11 (by kernel_rfl) (by kernel_rfl) (by kernel_rfl) ?hq11 (Or.inl ⟨?hw11, ?hy11⟩) (by assumption) ?rest11
      case hi11 => (simp only [List.getElem?_toArray, List.getElem?_cons_succ, List.getElem?_cons_zero]; rfl)
      case hq11 => exact fun _ _ _ h => h
      case hw11 => rfl
      case hy11 => (intro wq hSw; (try dsimp only at hSw); go_simp; (try with_reducible rfl))
      (try simp only [Act.put, List.setIfInBounds_toArray, List.set_cons_zero, List.set_cons_succ])
      refine' wpAnyH_take (i := 11) (oi := _) (v := _) ?hi12 (by kernel_rfl) (by kernel_rfl) (by kernel_rfl) ?hq12 (Or.inl ⟨?hw12, ?hy12⟩) (by assumption) ?rest12
      case hi12 => (simp only [List.getElem?_toArray, List.getElem?_cons_succ, List.getElem?_cons_zero]; rfl)
      case hq12 => exact fun _ _ _ h => h
      case hw12 => rfl
      case hy12 => (intro wq hSw; (try dsimp only at hSw); go_simp; (try with_reducible rfl))
      (try simp only [Act.put, List.setIfInBounds_toArray, List.set_cons_zero, List.set_cons_succ])
      refine' wpAnyH_take (i := 12) (oi := _) (v := _) ?hi13 (by kernel_rfl) (by kernel_rfl) (by kernel_rfl) ?hq13 (Or.inl ⟨?hw13, ?hy13⟩) (by assumption) ?rest13
      case hi13 => (simp only [List.getElem?_toArray, List.getElem?_cons_succ, List.getElem?_cons_zero]; rfl)
      case hq13 => exact fun _ _ _ h => h
      case hw13 => rfl
      case hy13 => (intro wq hSw; (try dsimp only at hSw); go_simp; (try with_reducible rfl))
      (try simp only [Act.put, List.setIfInBounds_toArray, List.set_cons_zero, List.set_cons_succ])
      refine' wpAnyH_take (i := 13) (oi := _) (v := _) ?hi14 (by kernel_rfl) (by kernel_rfl) (by kernel_rfl) ?hq14 (Or.inl ⟨?hw14, ?hy14⟩) (by assumption) ?rest14
      case hi14 => (simp only [List.getElem?_toArray, List.getElem?_cons_succ, List.getElem?_cons_zero]; rfl)
      case hq14 => exact fun _ _ _ h => h
      case hw14 => rfl
      case hy14 => (intro wq hSw; (try dsimp only at hSw); go_simp; (try with_reducible rfl))
      (try simp only [Act.put, List.setIfInBounds_toArray, List.set_cons_zero, List.set_cons_succ])
      refine' wpAnyH_take (i := 14) (oi := _) (v := Value.bool true) ?hi15 (by kernel_rfl) (by kernel_rfl) (by kernel_rfl) ?hq15 (Or.inl ⟨?hw15, ?hy15⟩) (by assumption) ?rest15
      case hi15 => (simp only [List.getElem?_toArray, List.getElem?_cons_succ, List.getElem?_cons_zero]; rfl)
      case hq15 => exact fun _ _ _ h => h
      case hw15 => rfl
      case hy15 => (intro wq hSw; (try dsimp only at hSw); (try go_simp); (first | done | rfl | exact hz4 | simp [hz4] | omega))
      (try simp only [Act.put, List.setIfInBounds_toArray, List.set_cons_zero, List.set_cons_succ])
      refine' wpAnyH_take (i := 15) (oi := _) (v := Value.bool true) ?hi16 (by kernel_rfl) (by kernel_rfl) (by kernel_rfl) ?hq16 (Or.inl ⟨?hw16, ?hy16⟩) (by assumption) ?rest16
      case hi16 => (simp only [List.getElem?_toArray, List.getElem?_cons_succ, List.getElem?_cons_zero]; rfl)
      case hq16 => exact fun _ _ _ h => h
      case hw16 => rfl
      case hy16 => (intro wq hSw; (try dsimp only at hSw); (try go_simp); (first | done | (with_reducible rfl) | rfl | simp))
      (try simp only [Act.put, List.setIfInBounds_toArray, List.set_cons_zero, List.set_cons_succ])
      refine' wpAnyH_take (i := 16) (oi := _) (v := Value.bool true) ?hi17 (by kernel_rfl) (by kernel_rfl) (by kernel_rfl) ?hq17 (Or.inl ⟨?hw17, ?hy17⟩) (by assumption) ?rest17
      case hi17 => (simp only [List.getElem?_toArray, List.getElem?_cons_succ, List.getElem?_cons_zero]; rfl)
      case hq17 => exact fun _ _ _ h => h
      case hw17 => rfl
      case hy17 => (intro wq hSw; (try dsimp only at hSw); (try go_simp); (first | done | (with_reducible rfl) | rfl | simp))
      (try simp only [Act.put, List.setIfInBounds_toArray, List.set_cons_zero, List.set_cons_succ])
      refine' wpAnyH_take (i := 17) (oi := _) (v := _) ?hi18 (by kernel_rfl) (by kernel_rfl) (by kernel_rfl) ?hq18 (Or.inl ⟨?hw18, ?hy18⟩) (by assumption) ?rest18
      case hi18 => (simp only [List.getElem?_toArray, List.getElem?_cons_succ, List.getElem?_cons_zero]; rfl)
      case hq18 => exact fun _ _ _ h => h
      case hw18 => rfl
      case hy18 => (intro wq hSw; (try dsimp only at hSw); go_simp; (try with_reducible rfl))
      (try simp only [Act.put, List.setIfInBounds_toArray, List.set_cons_zero, List.set_cons_succ])
      refine' wpAnyH_take (i := 18) (oi := _) (v := _) ?hi19 (by kernel_rfl) (by kernel_rfl) (by kernel_rfl) ?hq19 (Or.inl ⟨?hw19, ?hy19⟩) (by assumption) ?rest19
      case hi19 => (simp only [List.getElem?_toArray, List.getElem?_cons_succ, List.getElem?_cons_zero]; rfl)
      case hq19 => exact fun _ _ _ h => h
      case hw19 => rfl
      case hy19 => (intro wq hSw; (try dsimp only at hSw); go_simp; (try with_reducible rfl))
      (try simp only [Act.put, List.setIfInBounds_toArray, List.set_cons_zero, List.set_cons_succ])
      refine' wpAnyH_take (i := 19) (oi := _) (v := _) ?hi20 (by kernel_rfl) (by kernel_rfl) (by kernel_rfl) ?hq20 (Or.inl ⟨?hw20, ?hy20⟩) (by assumption) ?rest20
      case hi20 => (simp only [List.getElem?_toArray, List.getElem?_cons_succ, List.getElem?_cons_zero]; rfl)
      case hq20 => exact fun _ _ _ h => h
      case hw20 => rfl
      case hy20 => (intro wq hSw; (try dsimp only at hSw); go_simp; (try with_reducible rfl))
      (try simp only [Act.put, List.setIfInBounds_toArray, List.set_cons_zero, List.set_cons_succ])
      refine' wpAnyH_take (i := 20) (oi := _) (v := _) ?hi21 (by kernel_rfl) (by kernel_rfl) (by kernel_rfl) ?hq21 (Or.inl ⟨?hw21, ?hy21⟩) (by assumption) ?rest21
      case hi21 => (simp only [List.getElem?_toArray, List.getElem?_cons_succ, List.getElem?_cons_zero]; rfl)
      case hq21 => exact fun _ _ _ h => h
      case hw21 => rfl
      case hy21 => (intro wq hSw; (try dsimp only at hSw); go_simp; (try with_reducible rfl))
      (try simp only [Act.put, List.setIfInBounds_toArray, List.set_cons_zero, List.set_cons_succ])
      refine' wpAnyH_take (i := 21) (oi := _) (v := _) ?hi22 (by kernel_rfl) (by kernel_rfl) (by kernel_rfl) ?hq22 (Or.inl ⟨?hw22, ?hy22⟩) (by assumption) ?rest22
      case hi22 => (simp only [List.getElem?_toArray, List.getElem?_cons_succ, List.getElem?_cons_zero]; rfl)
      case hq22 => exact fun _ _ _ h => h
      case hw22 => rfl
      case hy22 => (intro wq hSw; (try dsimp only at hSw); go_simp; (try with_reducible rfl))
      (try simp only [Act.put, List.setIfInBounds_toArray, List.set_cons_zero, List.set_cons_succ])
      refine wpAnyH_ready (rs := [22]) (by kernel_rfl) (by simp) ?_
      refine' AllReadyH.cons (o := _) ?hi23 (fun K hK => ?rest23) AllReadyH.nil
      case hi23 => (simp only [List.getElem?_toArray, List.getElem?_cons_succ, List.getElem?_cons_zero]; rfl)
      go_simp
      go_at_call 14
      refine (HPX.out u7.drew HTd.out.ra).mono ?_
      rintro e u8 ⟨D, d, rfl, hd, hr, hb⟩
      have HT8 := Lib.hid (HTd.out.call hb)
      have HR8 := Lib.hid hr
      have HQ8 := Lib.hid ((pas_rds HRd.out hb).take P)
      clear hr hb HTd a0 a1 a2 a3
      obtain ⟨a0, a1, a2, a3⟩ := HT8.out.xa.im
      go_wp2_with fail
      refine hK.out _ _ (by (try dsimp only); exact ⟨a0, a1, a2, a3⟩) (fun hHeld => ?_)
      clear hK K
      (try simp only [Act.put, List.setIfInBounds_toArray, List.set_cons_zero, List.set_cons_succ])
      refine wpAnyH_ready (rs := [23]) (by kernel_rfl) (by simp) ?_
      refine' AllReadyH.cons (o := _) ?hi24 (fun K hK => ?rest24) AllReadyH.nil
      case hi24 => (simp only [List.getElem?_toArray, List.getElem?_cons_succ, List.getElem?_cons_zero]; rfl)
      go_simp
      go_at_call 10
      have hPl : P = (L0.take P).length := by rw [List.length_take]; omega
      have HE := lEqInts_same (some ⟨g0, 0, none⟩) D c4 d (L0.take P) u8 HQ8.out HR8.out (by rw [← hPl]; omega)
      rw [← hPl] at HE
      (try rw [← hPl])
      refine HE.mono ?_
      rintro e u9 ⟨rfl, hb⟩
      have HT9 := Lib.hid (HT8.out.call hb)
      clear hb HT8 HR8 HQ8 a0 a1 a2 a3 hPl HE
      obtain ⟨a0, a1, a2, a3⟩ := HT9.out.xa.im
      go_wp2_with fail
      refine hK.out _ _ (by (try dsimp only); exact ⟨a0, a1, a2, a3⟩) (fun hHeld => ?_)
      clear hK K
      (try simp only [Act.put, List.setIfInBounds_toArray, List.set_cons_zero, List.set_cons_succ])
      refine' wpAnyH_take (i := 24) (oi := _) (v := Value.bool true) ?hi25 (by kernel_rfl) (by kernel_rfl) (by kernel_rfl) ?hq25 (Or.inl ⟨?hw25, ?hy25⟩) (by assumption) ?rest25
      case hi25 => (simp only [List.getElem?_toArray, List.getElem?_cons_succ, List.getElem?_cons_zero]; rfl)
      case hq25 => exact fun _ _ _ h => h
      case hw25 => rfl
      case hy25 => (intro wq hSw; (try dsimp only at hSw); (try go_simp); (first | done | (with_reducible rfl) | rfl | simp))
      (try simp only [Act.put, List.setIfInBounds_toArray, List.set_cons_zero, List.set_cons_succ])
      refine' wpAnyH_take (i := 25) (oi := _) (v := Value.bool true) ?hi26 (by kernel_rfl) (by kernel_rfl) (by kernel_rfl) ?hq26 (Or.inl ⟨?hw26, ?hy26⟩) (by assumption) ?rest26
      case hi26 => (simp only [List.getElem?_toArray, List.getElem?_cons_succ, List.getElem?_cons_zero]; rfl)
      case hq26 => exact fun _ _ _ h => h
      case hw26 => rfl
      case hy26 => (intro wq hSw; (try dsimp only at hSw); (try go_simp); (first | done | (with_reducible rfl) | rfl | simp))
      (try simp only [Act.put, List.setIfInBounds_toArray, List.set_cons_zero, List.set_cons_succ])
      refine wpAnyH_done (by kernel_rfl) ?_ _
      clear a0 a1 a2 a3
      have HB := Lib.hid HT9.out.be
      go_wp2
      go_ret
      exact ⟨by simp, HB.out⟩

/-! ### From the walk to the statement. -/
theorem own : ownKnob Tryd.prog.godebug = none := by kernel_rfl
theorem laidOut : laidOutB Tryd.prog = true := by kernel_rfl
set_option maxRecDepth 100000 in
theorem lifted (os : Os) (started : os.Started) (H : Type) (enc : TypeId × Value → H) :
    ReturnsInHanded {} Tryd.checked os 3 .any (fun w args => (Rows.fnPassDataSpec.pre enc Tryd.prog Tryd.f3 [] false w args ∧ laidMetH Tryd.prog laidTab w) ∧ sizedMet enc Tryd.prog Tryd.f3 (OpenSpec.ofChange Rows.fnPassDataSpec) false w args) (Rows.fnPassDataSpec.post enc Tryd.prog Tryd.f3 false true false false) := by
  refine returnsInHanded_of_change_and (C := Tryd.checked) (X := fun w _ => laidMetH Tryd.prog laidTab w) (fun _ _ _ hh h => h.of_heap hh) own started (by kernel_rfl) Tryd.func3
    (ChangeSpec.witness_shaped (enc := enc) (C := Tryd.checked) (os := os) (X := fun w _ => laidMetH Tryd.prog laidTab w) false (World.doorLaid Tryd.prog doorSteps os) #[.slice none 0 0] 8 rfl (World.shaped_of_RefB (by kernel_rfl) (by kernel_rfl)) (by kernel_rfl) (by kernel_rfl) (by kernel_rfl) (door_met os _)) ?_
  intro W base args ds gs before hval0 hW _ _ hL _
  have hval : ∀ (j : Nat) t v, Tryd.f3.params[j]? = some t → args[j]? = some v → Value.okWide Tryd.prog W .any base t v := hval0
  have hW' := hW
  obtain ⟨p, q, hA0, hV, rfl, hfz, hnd⟩ := hW
  have hA : DataW.TrodAll enc Tryd.prog W 0 (fun _ => true) true Tryd.f3.params.toList args.toList ds p := hA0
  rw [Tryd.params3] at hA hval
  obtain ⟨v0, vs0, d0, ds0, p0, q0, hargs, rfl, rfl, h0, r0⟩ := trodAll_cons hA
  obtain ⟨rfl, rfl, rfl⟩ := trodAll_nil r0
  obtain rfl : args = #[v0] := by cases args; simp_all
  have hV2 : DataW.TrodVars enc Tryd.prog W (fun _ => true) ["loop.example/pixelworks/impl.patterns"] gs q := hV
  obtain ⟨g1, rfl⟩ : ∃ g, gs = [g] := by
    obtain ⟨_, _, _, _, d, _, h, _⟩ := trodVars_one hV2
    exact ⟨d, h⟩
  obtain ⟨a0, len0, cap0, rfl⟩ := okWide_slice Tryd.underlying22 (hval 0 22 v0 rfl rfl)
  have k0 := h0
  have lt0 : ∀ x ∈ p0, x.block < W.heap.size := by obtain ⟨m, hm⟩ := k0; exact DataW.trod_lt m _ _ _ hm
  obtain ⟨z0, hl0, hc0, w0⟩ : ∃ zs : List Int, len0 = zs.length ∧ zs.length ≤ cap0 ∧ Rdw .u8 W W.heap.size a0 zs := by
    obtain ⟨fuel, hf⟩ := h0
    rcases open_ints Tryd.underlying22 Tryd.underlying5 (by kernel_rfl) hf with ⟨hcs, _⟩ | ⟨x, l, c, zs, hcs, _, hl, hm, hz, _, hcell, hwz⟩
    · simp [Value.cells] at hcs
      obtain ⟨rfl, rfl, rfl⟩ := hcs
      exact ⟨[], rfl, Nat.le_refl _, Rdw.nil⟩
    · simp [Value.cells] at hcs
      obtain ⟨rfl, rfl, rfl⟩ := hcs
      exact ⟨zs.take len0, by simp at hz ⊢; omega, by simp at hz ⊢; omega, Rdw.of_row hl hm (by simpa using hz) hcell hwz⟩
  subst hl0
  clear hA0 hval0
  refine (walk W a0 cap0 z0 hc0 w0 (tab_of hL)).mono fun e W' ⟨he, bel⟩ => ?_
  subst he
  exact ⟨_, rfl, _, _, _, [], _, _, hW', trodAll_mk1 (shut_bool Tryd.underlying4 _), (trodAll_cons_mk (Below.trod laidOut (by kernel_rfl) (of_decide_eq_true (by kernel_rfl)) k0 bel lt0) trodAll_mk0), Below.trodVars laidOut bel (by kernel_rfl) hV2, bel.frame _, fun h => by cases h⟩

theorem over : Rows.fnPassDataRow.holds Tryd.pinned (OpenSpec.ofChange Rows.fnPassDataSpec) :=
  OpenClaim.holds_of_wide 3 Tryd.f3 rfl rfl rfl rfl rfl rfl rfl ⟨rfl, rfl, rfl, rfl, rfl⟩ rfl rfl rfl rfl rfl (by kernel_rfl) Tryd.func3 (by kernel_rfl)
    (of_decide_eq_true (by kernel_rfl)) (by unfold Func.isWrapper; first | (rw [if_pos (by decide +kernel)]; kernel_rfl) | (rw [if_neg (by decide +kernel)]; exact ⟨rfl, rfl⟩))
    (fun os started H enc _ => lifted os started H enc)

theorem proved : Rows.FnPassDataCardSaid :=
  Claim7.holds_tied_plain_at .later [] [.wider] true _ _
    over (fun _ h => by cases h) (by kernel_rfl) (fun _ h => by cases h) fnPassData_row_tie rfl ⟨rfl, rfl⟩ (by kernel_rfl) rfl
    (fun f fn hf hfn => by
      obtain rfl : f = 3 := Option.some.inj ((show Tryd.prog.funcNamed "loop.example/pixelworks/laws.FnPassData" = some 3 by kernel_rfl).symm.trans hf) |>.symm
      obtain rfl : fn = Tryd.f3 := (Option.some.inj (Tryd.func3.symm.trans hfn)).symm
      exact ⟨by kernel_rfl, fun j t ht => by
        rw [Tryd.params3] at ht
        have hm : t ∈ [22] := by simpa using Array.mem_of_getElem? ht
        have hall : ([22].all fun u => !Tryd.prog.wantsStandIn u) = true := by kernel_rfl
        exact (show Tryd.prog.wantsStandIn t = false by simpa using List.all_eq_true.1 hall t hm)⟩)
    (by kernel_rfl)
end Go.Proofs.YtlkacohbfgcokaaDoor.fnPassData
