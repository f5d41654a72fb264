/- Contracts of GrayImage, in the model and in the program. -/
import Derived.Test.YtpajccpcdmaalaaGridN
import Derived.Test.YtpajccpcdmaalaaDiv
import Derived.Test.YtpajccpcdmaalaaSpecM
import Derived.Deep.RegionHeld3
namespace Go.Proofs.Ytpajccpcdmaalaa
open Go.RowKit Go.Shelf
set_option linter.unusedSimpArgs false
set_option linter.unusedVariables false
set_option maxRecDepth 20000

/-- The gray of a color. -/
def gry (a b c : Int) : Int := (299 * a + 587 * b + 114 * c + 500) / 1000
theorem gry_bd {a b c : Int} (ha : 0 ≤ a ∧ a ≤ 255) (hb : 0 ≤ b ∧ b ≤ 255) (hc : 0 ≤ c ∧ c ≤ 255) : 0 ≤ gry a b c ∧ gry a b c ≤ 255 := by unfold gry; omega
def gyOk (W H P : Int) (xs : List Int) : Bool := vim W H P xs && decide (P = 3)
def gyF (W : Nat) (xs : List Int) (x y : Nat) : Int := gry (pxc W 3 xs x y 0) (pxc W 3 xs x y 1) (pxc W 3 xs x y 2)
def gyL (W H : Nat) (xs : List Int) : List Int := img W H 1 (fun x y _ => gyF W xs x y)
set_option maxHeartbeats 4000000 in
theorem igry_any (a b c : Int) (ha : 0 ≤ a ∧ a ≤ 255) (hb : 0 ≤ b ∧ b ≤ 255) (hc : 0 ≤ c ∧ c ≤ 255) (w : World) :
    Calls Try.prog 64 #[.agg #[.int .i64 a, .int .i64 b, .int .i64 c]] w fun e w' => e = .returned (.int .i64 (gry a b c)) ∧ Below w.heap.size w w' := by
  obtain ⟨ha0, ha1⟩ := ha
  obtain ⟨hb0, hb1⟩ := hb
  obtain ⟨hc0, hc1⟩ := hc
  have HE : Hid ((2 * (299 * a + 587 * b + 114 * c) + 1000) / (2 * 1000) = gry a b c) := Lib.hid (by unfold gry; omega)
  have HB := Lib.hid ((Below.refl w.heap.size w).alloc (Nat.le_refl _) (.cells #[.int .i64 a, .int .i64 b, .int .i64 c] 85))
  go_enter Try.func64, Try.ntmps64
  go_wp2_with fail
  refine (iNst_any _ 1000 _ (by omega) (by omega) (by omega) (by omega)).mono ?_
  rintro e w' ⟨rfl, rfl⟩
  go_wp2
  go_ret
  exact ⟨ret_int HE.out, HB.out⟩
theorem pxc_bd {W : Nat} {xs : List Int} (hb : ∀ j, j < xs.length → 0 ≤ xs.getD j 0 ∧ xs.getD j 0 ≤ 255) (x y p : Nat) : 0 ≤ pxc W 3 xs x y p ∧ pxc W 3 xs x y p ≤ 255 := by
  by_cases hp : p < 3
  · rw [show pxc W 3 xs x y p = xs.getD (pix W 3 x y p) 0 from pxl_get _ _ _ _ _ _ hp]
    by_cases hj : pix W 3 x y p < xs.length
    · exact hb _ hj
    · rw [List.getD_eq_getElem?_getD, List.getElem?_eq_none (by omega)]; simp
  · unfold pxc
    rw [List.getD_eq_getElem?_getD, List.getElem?_eq_none (by rw [pxl_len]; omega)]; simp
set_option maxHeartbeats 4000000 in
theorem igr1_any (W H n : Nat) (hn : W * H = n) (hW : W ≤ 16) (hH : H ≤ 16) (A : Option Addr) (c : Nat) (xs : List Int) (hby : ∀ j, j < xs.length → 0 ≤ xs.getD j 0 ∧ xs.getD j 0 ≤ 255) (hc : n ≤ c) (x y : Nat) (hx : x < W) (hy : y < H) (pg : Nat) (w : World) (hr : Rds .i64 w w.heap.size A (img W H 4 (pxc W 3 xs))) (hg : Bx w pg 78 #[.int .i64 (W : Int), .int .i64 (H : Int), .slice A n c]) :
    Calls Try.prog 62 (#[.int .i64 (x : Int), .int .i64 (y : Int)] ++ #[.pointer (some ⟨pg, 0, none⟩)]) w fun e w' => e = .returned (.int .i64 (gyF W xs x y)) ∧ Below w.heap.size w w' := by
  obtain ⟨g0, g1, g2⟩ := bx3 hg
  have HA := Lib.hid (pxc_bd (W := W) hby x y 0)
  have HB := Lib.hid (pxc_bd (W := W) hby x y 1)
  have HC := Lib.hid (pxc_bd (W := W) hby x y 2)
  have HF : Hid (gry (pxc W 3 xs x y 0) (pxc W 3 xs x y 1) (pxc W 3 xs x y 2) = gyF W xs x y) := Lib.hid rfl
  have HR := Lib.hid hr
  have Hn := Lib.hid hn
  clear hby hg hr hn
  show Calls Try.prog 62 #[.int .i64 (x : Int), .int .i64 (y : Int), .pointer (some ⟨pg, 0, none⟩)] w _
  go_enter Try.func62, Try.ntmps62
  go_wp2_with fail
  refine (at_n W H n Hn.out hW hH A c (pxc W 3 xs) x y hx hy w HR.out hc).mono ?_
  rintro e w1 ⟨rfl, hB1⟩
  simp only [colV]
  generalize pxc W 3 xs x y 0 = z0 at *
  generalize pxc W 3 xs x y 1 = z1 at *
  generalize pxc W 3 xs x y 2 = z2 at *
  generalize pxc W 3 xs x y 3 = z3 at *
  have HB1 := Lib.hid hB1
  clear hB1
  go_wp2_with fail
  refine (igry_any z0 z1 z2 HA.out HB.out HC.out _).mono ?_
  rintro e w2 ⟨rfl, hB2⟩
  have HB2 := Lib.hid hB2
  clear hB2
  go_wp2
  go_ret
  exact ⟨ret_int HF.out, (HB1.out.alloc HB1.out.size (.cells #[.int .i64 z0, .int .i64 z1, .int .i64 z2, .int .i64 z3] 82)).trans (HB2.out.mono (by have := HB1.out.size; simp; omega))⟩
set_option maxHeartbeats 16000000 in
theorem i_GrayImage (W H P : Int) (A : Option Addr) (c : Nat) (xs : List Int) (w : World) (hx : Rds .i64 w w.heap.size A xs) (hl : xs.length ≤ 2000000) (hlc : xs.length ≤ c) :
    Calls Try.prog 23 #[.agg #[.int .i64 W, .int .i64 H, .int .i64 P, .slice A xs.length c]] w (MadeIf (gyOk W H P xs) W H 1 (gyL W.toNat H.toNat xs) w) := by
  have HX := Lib.hid hx
  clear hx
  have S0 : GS w ((w.alloc (.cells #[.int .i64 W, .int .i64 H, .int .i64 P, .slice A xs.length c] 26)).alloc (.cells #[.int .i64 0, .int .i64 0, .int .i64 0, .slice none 0 0] 26)) [] [⟨(w.heap.size + 1), 26, #[.int .i64 0, .int .i64 0, .int .i64 0, .slice none 0 0]⟩, ⟨w.heap.size, 26, #[.int .i64 W, .int .i64 H, .int .i64 P, .slice A xs.length c]⟩] := GS.box' (GS.box' (GS.start w) 26 #[.int .i64 W, .int .i64 H, .int .i64 P, .slice A xs.length c] w.heap.size (by simp)) 26 #[.int .i64 0, .int .i64 0, .int .i64 0, .slice none 0 0] (w.heap.size + 1) (by simp)
  have HV : Hid (gyOk W H P xs = (vim W H P xs && decide (P = 3))) := Lib.hid rfl
  have Eg : Hid (∀ args w, (callFunc 62 args).run Try.prog w = .ok (.enter 62 args) w) := Lib.hid (enters_of Try.func62 (by kernel_rfl) rfl)
  go_enter Try.func23, Try.ntmps23
  go_wp2_with fail
  generalize (w.alloc (.cells #[.int .i64 W, .int .i64 H, .int .i64 P, .slice A xs.length c] 26)).alloc (.cells #[.int .i64 0, .int .i64 0, .int .i64 0, .slice none 0 0] 26) = u0 at *
  refine (iVimg_any W H P A c xs u0 (S0.arg HX.out) hl).mono ?_
  rintro e u1 ⟨rfl, hB⟩
  have S1 := S0.call hB
  clear hB S0
  cases hv : vim W H P xs
  · have Hv : Hid (gyOk W H P xs = false) := Lib.hid (by rw [HV.out, hv]; rfl)
    clear hv HV
    obtain ⟨r0, r1, r2, r3⟩ := S1.b0_4
    have f0 := S1.f0 0
    have f1 := S1.f0 1
    have f2 := S1.f0 2
    have f3 := S1.f0 3
    have HE := Lib.hid (S1.e0_4 (.int .i64 0) (.int .i64 0) (.int .i64 0) (.slice none 0 0))
    clear S1
    go_wp2
    exact bodyPost_ret (v := .agg #[.int .i64 0, .int .i64 0, .int .i64 0, .slice none 0 0]) (by simp [results, Try.results23, go_sem, r0, r1, r2, r3]) rfl (MadeIf.no Hv.out ⟨_, rfl, World.ownsRow_nil _ _ _ _, HE.out.1⟩)
  by_cases hP3 : P = 3
  case neg =>
    have Hv : Hid (gyOk W H P xs = false) := Lib.hid (by rw [HV.out, decide_eq_false hP3, Bool.and_false])
    clear hv HV
    obtain ⟨d0, d1, d2, d3⟩ := S1.b1_4
    obtain ⟨r0, r1, r2, r3⟩ := S1.b0_4
    have f0 := S1.f0 0
    have f1 := S1.f0 1
    have f2 := S1.f0 2
    have f3 := S1.f0 3
    have HE := Lib.hid (S1.e0_4 (.int .i64 0) (.int .i64 0) (.int .i64 0) (.slice none 0 0))
    clear S1
    go_wp2
    exact bodyPost_ret (v := .agg #[.int .i64 0, .int .i64 0, .int .i64 0, .slice none 0 0]) (by simp [results, Try.results23, go_sem, r0, r1, r2, r3]) rfl (MadeIf.no Hv.out ⟨_, rfl, World.ownsRow_nil _ _ _ _, HE.out.1⟩)
  case pos =>
    have Hv : Hid (gyOk W H P xs = true) := Lib.hid (by rw [HV.out, hv, decide_eq_true hP3]; rfl)
    clear HV
    obtain ⟨W, H, P, rfl, rfl, rfl, hW1, hW, hH1, hH, hP1, hP, hln, hby⟩ := vim_nat hv
    have hP3' : P = 3 := by omega
    subst hP3'
    have HLn := Lib.hid hln
    have HBy := Lib.hid hby
    clear hv hln hby hP3 hP1 hP
    obtain ⟨d0, d1, d2, d3⟩ := S1.b1_4
    have HS1 := Lib.hid S1
    clear S1
    go_wp2_with fail
    refine (gridOf_any W H 3 hW hH (by omega) (by omega) hW1 hH1 A c xs HLn.out hlc _ (by exact HS1.out.arg HX.out)).mono ?_
    rintro e u2 ⟨v2, rfl, hO2, hB2⟩
    obtain ⟨A2, c2, rfl, hc2⟩ := hO2.slice
    have S2 := GS.addT HS1.out hO2 hB2
    clear hO2 hB2 HS1 d0 d1 d2 d3
    obtain ⟨n, hn⟩ : ∃ n, n = W * H := ⟨_, rfl⟩
    rw [← hn] at hc2 S2 ⊢
    obtain ⟨b3, hb3⟩ : ∃ b3, b3 = u2.heap.size := ⟨_, rfl⟩
    have HB3 := Lib.hid hb3
    have S3 := Lib.hid (GS.box' S2 78 #[.int .i64 (W : Int), .int .i64 (H : Int), .slice A2 n c2] b3 hb3)
    have Hn := Lib.hid hn
    clear S2 hn hb3
    obtain ⟨d0, d1, d2, d3⟩ := S3.out.b2_4
    go_wp2_with fail
    rw [← HB3.out]
    generalize u2.alloc (.cells #[.int .i64 (W : Int), .int .i64 (H : Int), .slice A2 n c2] 78) = u3 at *
    refine (buildN_any W H hW hH 62 #[.pointer (some ⟨b3, 0, none⟩)] (gyF W xs) u3 Eg.out (fun x y w' hx hy hbel => igr1_any W H n Hn.out.symm hW hH A2 c2 xs HBy.out hc2 x y hx hy b3 w' (S3.out.call hbel).t0 (S3.out.call hbel).x0)).mono ?_
    rintro e u4 ⟨v4, rfl, hO4, hB4⟩
    obtain ⟨A4, c4, rfl, hc4⟩ := hO4.slice
    have hl4 : (img W H 1 (fun x y _ => gyF W xs x y)).length = W * H := by rw [img_len]; simp
    have S4 := GS.add S3.out hO4 hB4
    rw [hl4] at hc4 S4 ⊢
    have hn2 := Hn.out
    rw [← hn2] at hc4 S4 ⊢
    obtain ⟨b5, hb5⟩ : ∃ b5, b5 = u4.heap.size := ⟨_, rfl⟩
    have HB5 := Lib.hid hb5
    have S5 := Lib.hid (GS.box' S4 65 #[.int .i64 (W : Int), .int .i64 (H : Int), .slice A4 n c4] b5 hb5)
    clear S4 S3 hO4 hB4 hn2 hb5 d0 d1 d2 d3 hl4
    go_wp2_with fail
    rw [← HB5.out]
    generalize u4.alloc (.cells #[.int .i64 (W : Int), .int .i64 (H : Int), .slice A4 n c4] 65) = u5 at *
    have hn2 := Hn.out
    subst hn2
    obtain ⟨q0, q1, q2⟩ := S5.out.b0_3
    have hcell : ∀ i, i < 1 → u5.cell? ⟨b5, 0 + i * 3, none⟩ = some (.int .i64 (W : Int)) ∧ u5.cell? ⟨b5, 0 + i * 3 + 1, none⟩ = some (.int .i64 (H : Int)) ∧ u5.cell? ⟨b5, 0 + i * 3 + 2, none⟩ = some (.slice A4 (W * H) c4) := by
      intro i hi
      have hi0 : i = 0 := by omega
      subst hi0
      exact ⟨q0, q1, q2⟩
    refine (join_any W H 1 hW1 hW hH1 hH (Nat.le_refl _) (by omega) b5 0 1 (fun x y _ => gyF W xs x y) (fun _ => A4) (fun _ => c4) u5 (by exact S5.out.l0) hcell (fun i hi => ⟨S5.out.r0, hc4⟩)).mono ?_
    rintro e u6 ⟨v6, rfl, hO6, hB6⟩
    obtain ⟨A6, c6, rfl, hc6⟩ := hO6.slice
    rw [show (((1 : Nat) : Int)) = 1 from rfl]
    have S6 := GS.add S5.out hO6 hB6
    clear S5 q0 q1 q2 hO6 hB6
    obtain ⟨r0, r1, r2, r3⟩ := S6.b2_4
    have f0 := S6.f2 0
    have f1 := S6.f2 1
    have f2 := S6.f2 2
    have f3 := S6.f2 3
    have HE := Lib.hid (S6.e2_4 (.int .i64 (W : Int)) (.int .i64 (H : Int)) (.int .i64 1) (.slice A6 (img W H 1 (fun x y _ => gyF W xs x y)).length c6))
    clear S6
    go_wp2
    exact bodyPost_ret (v := .agg #[.int .i64 (W : Int), .int .i64 (H : Int), .int .i64 1, .slice A6 (img W H 1 (fun x y _ => gyF W xs x y)).length c6]) (by simp [results, Try.results23, go_sem, r0, r1, r2, r3]) rfl (MadeIf.yes Hv.out ⟨_, rfl, HE.out.2 _ (List.Mem.head _), HE.out.1⟩)
set_option maxHeartbeats 4000000 in
theorem sgry_any (a b c : Int) (ha : 0 ≤ a ∧ a ≤ 255) (hb : 0 ≤ b ∧ b ≤ 255) (hc : 0 ≤ c ∧ c ≤ 255) (g o cc : Nat) (w : World) (h0 : w.cell? ⟨g, o, none⟩ = some (.int .i64 a)) (h1 : w.cell? ⟨g, o + 1, none⟩ = some (.int .i64 b)) (h2 : w.cell? ⟨g, o + 2, none⟩ = some (.int .i64 c)) :
    Calls Try.prog 66 #[.slice (some ⟨g, o, none⟩) 3 cc] w fun e w' => e = .returned (.int .i64 (gry a b c)) ∧ Below w.heap.size w w' := by
  obtain ⟨ha0, ha1⟩ := ha
  obtain ⟨hb0, hb1⟩ := hb
  obtain ⟨hc0, hc1⟩ := hc
  have HE : Hid ((299 * a + 587 * b + 114 * c + 500) / 1000 = gry a b c) := Lib.hid rfl
  go_enter Try.func66, Try.ntmps66
  go_wp2
  go_quiet (fail)
  go_wp2
  go_ret
  exact ⟨ret_int HE.out, ⟨rfl, rfl, rfl, Nat.le_refl _, fun _ _ => rfl⟩⟩
theorem sgry_of (a b c : Int) (ha : 0 ≤ a ∧ a ≤ 255) (hb : 0 ≤ b ∧ b ≤ 255) (hc : 0 ≤ c ∧ c ≤ 255) (g o O n cc : Nat) (hO : O = o) (hn : n = 3) (w : World) (h0 : w.cell? ⟨g, o, none⟩ = some (.int .i64 a)) (h1 : w.cell? ⟨g, o + 1, none⟩ = some (.int .i64 b)) (h2 : w.cell? ⟨g, o + 2, none⟩ = some (.int .i64 c)) :
    Calls Try.prog 66 #[.slice (some ⟨g, O, none⟩) n cc] w fun e w' => e = .returned (.int .i64 (gry a b c)) ∧ Below w.heap.size w w' := by
  subst hO hn
  exact sgry_any a b c ha hb hc g O cc w h0 h1 h2
set_option maxHeartbeats 16000000 in
theorem s_GrayImage (W H P : Int) (A : Option Addr) (c : Nat) (xs : List Int) (w : World) (hx : Rds .i64 w w.heap.size A xs) (hl : xs.length ≤ 2000000) (hlc : xs.length ≤ c) :
    Calls Try.prog 25 #[.agg #[.int .i64 W, .int .i64 H, .int .i64 P, .slice A xs.length c]] w (MadeIf (gyOk W H P xs) W H 1 (gyL W.toNat H.toNat xs) w) := by
  have HX := Lib.hid hx
  clear hx
  have S0 : GS w ((w.alloc (.cells #[.int .i64 W, .int .i64 H, .int .i64 P, .slice A xs.length c] 26)).alloc (.cells #[.int .i64 0, .int .i64 0, .int .i64 0, .slice none 0 0] 26)) [] [⟨(w.heap.size + 1), 26, #[.int .i64 0, .int .i64 0, .int .i64 0, .slice none 0 0]⟩, ⟨w.heap.size, 26, #[.int .i64 W, .int .i64 H, .int .i64 P, .slice A xs.length c]⟩] := GS.box' (GS.box' (GS.start w) 26 #[.int .i64 W, .int .i64 H, .int .i64 P, .slice A xs.length c] w.heap.size (by simp)) 26 #[.int .i64 0, .int .i64 0, .int .i64 0, .slice none 0 0] (w.heap.size + 1) (by simp)
  have HV : Hid (gyOk W H P xs = (vim W H P xs && decide (P = 3))) := Lib.hid rfl
  go_enter Try.func25, Try.ntmps25
  go_wp2_with fail
  generalize (w.alloc (.cells #[.int .i64 W, .int .i64 H, .int .i64 P, .slice A xs.length c] 26)).alloc (.cells #[.int .i64 0, .int .i64 0, .int .i64 0, .slice none 0 0] 26) = u0 at *
  refine (sVimg_any W H P A c xs u0 (S0.arg HX.out) hl).mono ?_
  rintro e u1 ⟨rfl, hB⟩
  have S1 := S0.call hB
  clear hB S0
  cases hv : vim W H P xs
  · have Hv : Hid (gyOk W H P xs = false) := Lib.hid (by rw [HV.out, hv]; rfl)
    clear hv HV
    obtain ⟨r0, r1, r2, r3⟩ := S1.b0_4
    have f0 := S1.f0 0
    have f1 := S1.f0 1
    have f2 := S1.f0 2
    have f3 := S1.f0 3
    have HE := Lib.hid (S1.e0_4 (.int .i64 0) (.int .i64 0) (.int .i64 0) (.slice none 0 0))
    clear S1
    go_wp2
    exact bodyPost_ret (v := .agg #[.int .i64 0, .int .i64 0, .int .i64 0, .slice none 0 0]) (by simp [results, Try.results25, go_sem, r0, r1, r2, r3]) rfl (MadeIf.no Hv.out ⟨_, rfl, World.ownsRow_nil _ _ _ _, HE.out.1⟩)
  by_cases hP3 : P = 3
  case neg =>
    have Hv : Hid (gyOk W H P xs = false) := Lib.hid (by rw [HV.out, decide_eq_false hP3, Bool.and_false])
    clear hv HV
    obtain ⟨d0, d1, d2, d3⟩ := S1.b1_4
    obtain ⟨r0, r1, r2, r3⟩ := S1.b0_4
    have f0 := S1.f0 0
    have f1 := S1.f0 1
    have f2 := S1.f0 2
    have f3 := S1.f0 3
    have HE := Lib.hid (S1.e0_4 (.int .i64 0) (.int .i64 0) (.int .i64 0) (.slice none 0 0))
    clear S1
    go_wp2
    exact bodyPost_ret (v := .agg #[.int .i64 0, .int .i64 0, .int .i64 0, .slice none 0 0]) (by simp [results, Try.results25, go_sem, r0, r1, r2, r3]) rfl (MadeIf.no Hv.out ⟨_, rfl, World.ownsRow_nil _ _ _ _, HE.out.1⟩)
  case pos =>
    have Hv : Hid (gyOk W H P xs = true) := Lib.hid (by rw [HV.out, hv, decide_eq_true hP3]; rfl)
    clear HV
    obtain ⟨W, H, P, rfl, rfl, rfl, hW1, hW, hH1, hH, hP1, hP, hln, hby⟩ := vim_nat hv
    have hP3' : P = 3 := by omega
    subst hP3'
    have hpos : 0 < xs.length := by rw [hln]; exact Nat.mul_pos (Nat.mul_pos hW1 hH1) (by omega)
    obtain ⟨b, off, rfl, hb, hcx⟩ := HX.out.cells_ hpos
    have HLn := Lib.hid hln
    have HBy := Lib.hid hby
    have HCx := Lib.hid hcx
    have HLc := Lib.hid hlc
    clear hv hln hby hP3 hP1 hP hcx HX hpos hlc
    obtain ⟨d0, d1, d2, d3⟩ := S1.b1_4
    go_wp2_with fail
    rw [show (1 : Int) = ((1 : Nat) : Int) from rfl]
    refine (newImage_any W H 1 hW hH (by omega) u1).mono ?_
    rintro e u3 ⟨v3, rfl, hO3, hB3⟩
    have hzl : (zeros (W * H * 1)).length = W * H := by simp [zeros]
    have hgl : (gyL W H xs).length = W * H := by unfold gyL; rw [img_len]; simp
    obtain ⟨g, c2, rfl, hg1, hg2⟩ := hO3.form (by rw [hzl]; exact Nat.mul_pos (by omega) (by omega))
    have S3 := S1.add hO3 hB3
    rw [hzl] at S3 ⊢
    obtain ⟨n, hn⟩ : ∃ n, n = W * H := ⟨_, rfl⟩
    obtain ⟨lo3, hlo3⟩ : ∃ lo3, lo3 = u1.heap.size := ⟨_, rfl⟩
    obtain ⟨hi3, hhi3⟩ : ∃ hi3, hi3 = u3.heap.size := ⟨_, rfl⟩
    obtain ⟨b3, hb3⟩ : ∃ b3, b3 = u3.heap.size := ⟨_, rfl⟩
    rw [← hlo3, ← hhi3, Nat.mul_one, ← hn] at S3
    have HI0 : Hid (GS w (u3.alloc (.cells #[.int .i64 (W : Int), .int .i64 (H : Int), .int .i64 1, .slice (some ⟨g, 0, none⟩) n c2] 26)) [ri lo3 hi3 (.slice (some ⟨g, 0, none⟩) n c2) ((gyL W H xs).take 0 ++ zeros (n - 0))] [⟨b3, 26, #[.int .i64 (W : Int), .int .i64 (H : Int), .int .i64 1, .slice (some ⟨g, 0, none⟩) n c2]⟩, ⟨w.heap.size + 1, 26, #[.int .i64 0, .int .i64 0, .int .i64 0, .slice none 0 0]⟩, ⟨w.heap.size, 26, #[.int .i64 (W : Int), .int .i64 (H : Int), .int .i64 3, .slice (some ⟨b, off, none⟩) xs.length c]⟩]) :=
      Lib.hid (by simpa using GS.box' S3 _ _ b3 hb3)
    rw [← hn]
    rw [show (((1 : Nat) : Int)) = 1 from rfl]
    have HB3 := Lib.hid hb3
    have Hn := Lib.hid hn
    have HGl := Lib.hid (hgl.trans hn.symm)
    clear hO3 hB3 S1 S3 hzl hgl hlo3 hhi3 hb3 hg1 hg2 d0 d1 d2 d3 hn
    go_wp2
    (try rw [← HB3.out])
    go_loopw [4] (fun i wr => ∃ j : Nat, j ≤ n ∧ i = .int .i64 j ∧ Hid (GS w wr [ri lo3 hi3 (.slice (some ⟨g, 0, none⟩) n c2) ((gyL W H xs).take j ++ zeros (n - j))] [⟨b3, 26, #[.int .i64 (W : Int), .int .i64 (H : Int), .int .i64 1, .slice (some ⟨g, 0, none⟩) n c2]⟩, ⟨w.heap.size + 1, 26, #[.int .i64 0, .int .i64 0, .int .i64 0, .slice none 0 0]⟩, ⟨w.heap.size, 26, #[.int .i64 (W : Int), .int .i64 (H : Int), .int .i64 3, .slice (some ⟨b, off, none⟩) xs.length c]⟩])) (fun i _ => n - (intOf i).toNat)
    case atStart => exact ⟨0, Nat.zero_le _, rfl, HI0⟩
    case round =>
      obtain ⟨j, hj, rfl, hI⟩ := hrel
      clear HI0
      have hn := Hn.out
      have hn256 : n ≤ 256 := by have := Nat.mul_le_mul hW hH; omega
      have hlj : ((gyL W H xs).take j ++ zeros (n - j)).length = n := by simp [zeros, HGl.out]; omega
      by_cases hjlt : j < n
      · have hx3 : xs.length = 3 * n := by rw [HLn.out, ← hn]; omega
        have c0 := (hI.out.drew.below.cell (p := ⟨b, off + 3 * j, none⟩) hb).trans (HCx.out (3 * j) (by omega))
        have c1 := (hI.out.drew.below.cell (p := ⟨b, off + 3 * j + 1, none⟩) hb).trans (HCx.out (3 * j + 1) (by omega))
        have c2' := (hI.out.drew.below.cell (p := ⟨b, off + 3 * j + 2, none⟩) hb).trans (HCx.out (3 * j + 2) (by omega))
        have hbd0 := HBy.out (3 * j) (by omega)
        have hbd1 := HBy.out (3 * j + 1) (by omega)
        have hbd2 := HBy.out (3 * j + 2) (by omega)
        have hgx : gry (xs.getD (3 * j) 0) (xs.getD (3 * j + 1) 0) (xs.getD (3 * j + 2) 0) = (gyL W H xs).getD j 0 := by
          have h1 := img_at (W := W) (H := H) (P := 1) (fun x y _ => gyF W xs x y) (k := j) (p := 0) (by rw [← hn]; exact hjlt) (by omega)
          rw [Nat.mul_one, Nat.add_zero] at h1
          have h2 : (gyL W H xs).getD j 0 = gyF W xs (j % W) (j / W) := h1
          rw [h2]
          have hd : j / W * W + j % W = j := by rw [Nat.mul_comm]; exact Nat.div_add_mod j W
          have hp : ∀ p, p < 3 → pxc W 3 xs (j % W) (j / W) p = xs.getD (3 * j + p) 0 := by
            intro p hp
            rw [show pxc W 3 xs (j % W) (j / W) p = xs.getD (pix W 3 (j % W) (j / W) p) 0 from pxl_get _ _ _ _ _ _ hp]
            unfold pix
            rw [hd, Nat.mul_comm j 3]
          unfold gyF
          rw [hp 0 (by omega), hp 1 (by omega), hp 2 (by omega)]
          rfl
        have HT := Lib.hid (take_set_next (gyL W H xs) j (by rw [HGl.out]; exact hjlt))
        rw [← hgx, HGl.out] at HT
        obtain ⟨o0, o1, o2, o3⟩ := hI.out.b0_4
        obtain ⟨m0, m1, m2, m3⟩ := hI.out.b2_4
        have HC := Lib.hid hI.out.drew
        have Hlj := Lib.hid hlj
        have hlc := HLc.out
        have k1 : IntKind.i64.wrap (3 * (j : Int)) = 3 * (j : Int) := IntWalk.i64_in _ (by omega)
        have HT1 : Hid ((3 * (j : Int)).toNat = 3 * j) := Lib.hid (by omega)
        have HT2 : Hid ((3 * (j : Int) + 3).toNat - (3 * (j : Int)).toNat = 3) := Lib.hid (by omega)
        have k3 : (0 : Int) ≤ 3 * (j : Int) := by omega
        have k4 : 3 * (j : Int) ≤ 3 * (j : Int) + 3 := by omega
        have k5 : 3 * (j : Int) + 3 ≤ (c : Int) := by omega
        have k6 : (0 : Int) ≤ 3 * (j : Int) + 3 := by omega
        have k7 : (j : Int) < (n : Int) := by omega
        have k8 : ¬ (c = 3 * j) := by omega
        have k9 : ¬ (c = (3 * (j : Int)).toNat) := by omega
        have k2 : IntKind.i64.wrap (3 * (j : Int) + 3) = 3 * (j : Int) + 3 := IntWalk.i64_in _ (by omega)
        clear hI hgx hn
        generalize xs.getD (3 * j) 0 = z0 at *
        generalize xs.getD (3 * j + 1) 0 = z1 at *
        generalize xs.getD (3 * j + 2) 0 = z2 at *
        clear hx3 hlj
        generalize xs.length = m at *
        go_upto_region 7 with fail
        refine wp_region_held_drew (S := (fun w' => w'.cell? ⟨b3, 3, none⟩ = some (.slice (some ⟨g, 0, none⟩) n c2) ∧ w'.cell? ⟨w.heap.size, 3, none⟩ = some (.slice (some ⟨b, off, none⟩) m c))) (by kernel_rfl) (by exact ⟨HC.out.b0_4.2.2.2, HC.out.b2_4.2.2.2⟩) (fun hHeld => ?_)
        refine' wpAnyH_take (i := 0) (oi := _) (v := _) ?hi1 (by kernel_rfl) (by kernel_rfl) (by kernel_rfl) ?hq1 (Or.inl ⟨?hw1, ?hy1⟩) (by assumption) ?rest1
        case hi1 => (simp only [List.getElem?_toArray, List.getElem?_cons_succ, List.getElem?_cons_zero]; rfl)
        case hq1 => exact fun _ _ _ h => h
        case hw1 => rfl
        case hy1 => (intro wq hSw; (try dsimp only at hSw); go_simp; (try with_reducible rfl))
        (try simp only [Act.put, List.setIfInBounds_toArray, List.set_cons_zero, List.set_cons_succ])
        refine' wpAnyH_take (i := 1) (oi := _) (v := _) ?hi2 (by kernel_rfl) (by kernel_rfl) (by kernel_rfl) ?hq2 (Or.inl ⟨?hw2, ?hy2⟩) (by assumption) ?rest2
        case hi2 => (simp only [List.getElem?_toArray, List.getElem?_cons_succ, List.getElem?_cons_zero]; rfl)
        case hq2 => exact fun _ _ _ h => h
        case hw2 => rfl
        case hy2 => (intro wq hSw; (try dsimp only at hSw); go_simp; (try with_reducible rfl))
        (try simp only [Act.put, List.setIfInBounds_toArray, List.set_cons_zero, List.set_cons_succ])
        refine' wpAnyH_take (i := 2) (oi := _) (v := _) ?hi3 (by kernel_rfl) (by kernel_rfl) (by kernel_rfl) ?hq3 (Or.inl ⟨?hw3, ?hy3⟩) (by assumption) ?rest3
        case hi3 => (simp only [List.getElem?_toArray, List.getElem?_cons_succ, List.getElem?_cons_zero]; rfl)
        case hq3 => exact fun _ _ _ h => h
        case hw3 => rfl
        case hy3 => (intro wq hSw; (try dsimp only at hSw); go_simp; (try with_reducible rfl))
        (try simp only [Act.put, List.setIfInBounds_toArray, List.set_cons_zero, List.set_cons_succ])
        refine' wpAnyH_take (i := 3) (oi := _) (v := _) ?hi4 (by kernel_rfl) (by kernel_rfl) (by kernel_rfl) ?hq4 (Or.inl ⟨?hw4, ?hy4⟩) (by assumption) ?rest4
        case hi4 => (simp only [List.getElem?_toArray, List.getElem?_cons_succ, List.getElem?_cons_zero]; rfl)
        case hq4 => exact fun _ _ _ h => h
        case hw4 => rfl
        case hy4 => (intro wq hSw; (try dsimp only at hSw); go_simp; (try with_reducible rfl))
        (try simp only [Act.put, List.setIfInBounds_toArray, List.set_cons_zero, List.set_cons_succ])
        refine' wpAnyH_take (i := 4) (oi := _) (v := _) ?hi5 (by kernel_rfl) (by kernel_rfl) (by kernel_rfl) ?hq5 (Or.inl ⟨?hw5, ?hy5⟩) (by assumption) ?rest5
        case hi5 => (simp only [List.getElem?_toArray, List.getElem?_cons_succ, List.getElem?_cons_zero]; rfl)
        case hq5 => exact fun _ _ _ h => h
        case hw5 => rfl
        case hy5 => (intro wq hSw; (try dsimp only at hSw); go_simp; (try with_reducible rfl))
        (try simp only [Act.put, List.setIfInBounds_toArray, List.set_cons_zero, List.set_cons_succ])
        refine' wpAnyH_take (i := 5) (oi := _) (v := _) ?hi6 (by kernel_rfl) (by kernel_rfl) (by kernel_rfl) ?hq6 (Or.inl ⟨?hw6, ?hy6⟩) (by assumption) ?rest6
        case hi6 => (simp only [List.getElem?_toArray, List.getElem?_cons_succ, List.getElem?_cons_zero]; rfl)
        case hq6 => exact fun _ _ _ h => h
        case hw6 => rfl
        case hy6 => (intro wq hSw; (try dsimp only at hSw); go_simp; (try with_reducible rfl))
        (try simp only [Act.put, List.setIfInBounds_toArray, List.set_cons_zero, List.set_cons_succ])
        refine' wpAnyH_take (i := 6) (oi := _) (v := _) ?hi7 (by kernel_rfl) (by kernel_rfl) (by kernel_rfl) ?hq7 (Or.inl ⟨?hw7, ?hy7⟩) (by assumption) ?rest7
        case hi7 => (simp only [List.getElem?_toArray, List.getElem?_cons_succ, List.getElem?_cons_zero]; rfl)
        case hq7 => exact fun _ _ _ h => h
        case hw7 => rfl
        case hy7 => (intro wq hSw; (try dsimp only at hSw); go_simp; (try with_reducible rfl))
        (try simp only [Act.put, List.setIfInBounds_toArray, List.set_cons_zero, List.set_cons_succ])
        refine' wpAnyH_take (i := 7) (oi := _) (v := _) ?hi8 (by kernel_rfl) (by kernel_rfl) (by kernel_rfl) ?hq8 (Or.inl ⟨?hw8, ?hy8⟩) (by assumption) ?rest8
        case hi8 => (simp only [List.getElem?_toArray, List.getElem?_cons_succ, List.getElem?_cons_zero]; rfl)
        case hq8 => exact fun _ _ _ h => h
        case hw8 => rfl
        case hy8 => (intro wq hSw; (try dsimp only at hSw); go_simp; (try with_reducible rfl))
        (try simp only [Act.put, List.setIfInBounds_toArray, List.set_cons_zero, List.set_cons_succ])
        refine' wpAnyH_take (i := 8) (oi := _) (v := _) ?hi9 (by kernel_rfl) (by kernel_rfl) (by kernel_rfl) ?hq9 (Or.inl ⟨?hw9, ?hy9⟩) (by assumption) ?rest9
        case hi9 => (simp only [List.getElem?_toArray, List.getElem?_cons_succ, List.getElem?_cons_zero]; rfl)
        case hq9 => exact fun _ _ _ h => h
        case hw9 => rfl
        case hy9 => (intro wq hSw; (try dsimp only at hSw); go_simp; (try with_reducible rfl))
        (try simp only [Act.put, List.setIfInBounds_toArray, List.set_cons_zero, List.set_cons_succ])
        refine' wpAnyH_take (i := 9) (oi := _) (v := _) ?hi10 (by kernel_rfl) (by kernel_rfl) (by kernel_rfl) ?hq10 (Or.inl ⟨?hw10, ?hy10⟩) (by assumption) ?rest10
        case hi10 => (simp only [List.getElem?_toArray, List.getElem?_cons_succ, List.getElem?_cons_zero]; rfl)
        case hq10 => exact fun _ _ _ h => h
        case hw10 => rfl
        case hy10 => (intro wq hSw; (try dsimp only at hSw); go_simp; (try with_reducible rfl))
        (try simp only [Act.put, List.setIfInBounds_toArray, List.set_cons_zero, List.set_cons_succ])
        refine' wpAnyH_take (i := 10) (oi := _) (v := _) ?hi11 (by kernel_rfl) (by kernel_rfl) (by kernel_rfl) ?hq11 (Or.inl ⟨?hw11, ?hy11⟩) (by assumption) ?rest11
        case hi11 => (simp only [List.getElem?_toArray, List.getElem?_cons_succ, List.getElem?_cons_zero]; rfl)
        case hq11 => exact fun _ _ _ h => h
        case hw11 => rfl
        case hy11 => (intro wq hSw; (try dsimp only at hSw); go_simp; (try with_reducible rfl))
        (try simp only [Act.put, List.setIfInBounds_toArray, List.set_cons_zero, List.set_cons_succ])
        refine wpAnyH_ready (rs := [11]) (by kernel_rfl) (by simp) ?_
        refine' AllReadyH.cons (o := _) ?hi13 (fun K hK => ?rest13) AllReadyH.nil
        case hi13 => (simp only [List.getElem?_toArray, List.getElem?_cons_succ, List.getElem?_cons_zero]; rfl)
        go_simp
        go_at_call 66
        have hcall := sgry_of z0 z1 z2 hbd0 hbd1 hbd2 b (off + 3 * j) (off + (3 * (j : Int)).toNat) ((3 * (j : Int) + 3).toNat - (3 * (j : Int)).toNat) (c - (3 * (j : Int)).toNat) (by rw [HT1.out]) HT2.out wr.drew c0 c1 c2'
        refine Calls.mono hcall ?_
        clear hcall
        rintro e w5 ⟨rfl, hB5⟩
        have HD := Lib.hid (HC.out.call hB5)
        clear HC hB5
        have HC := HD
        clear HD
        have hcw := HC.out.o0.cell Hlj.out.symm (j := j) (by rw [Hlj.out]; exact hjlt)
        have hfw := HC.out.o0.frozen Hlj.out.symm j
        go_wp2_with fail
        refine hK.out _ _ (by (try dsimp only); exact ⟨HC.out.b0_4.2.2.2, HC.out.b2_4.2.2.2⟩) (fun hHeld => ?_)
        clear hK K
        (try simp only [Act.put, List.setIfInBounds_toArray, List.set_cons_zero, List.set_cons_succ])
        refine' wpAnyH_take (i := 12) (oi := _) (v := _) ?hi12 (by kernel_rfl) (by kernel_rfl) (by kernel_rfl) ?hq12 (Or.inl ⟨?hw12, ?hy12⟩) (by assumption) ?rest12
        case hi12 => (simp only [List.getElem?_toArray, List.getElem?_cons_succ, List.getElem?_cons_zero]; rfl)
        case hq12 => exact fun _ _ _ h => h
        case hw12 => rfl
        case hy12 => (intro wq hSw; (try dsimp only at hSw); go_simp; (try with_reducible rfl))
        (try simp only [Act.put, List.setIfInBounds_toArray, List.set_cons_zero, List.set_cons_succ])
        refine wpAnyH_ready (rs := [13]) (by kernel_rfl) (by simp) ?_
        refine' AllReadyH.cons (o := _) ?hi14 (fun K hK => ?rest14) AllReadyH.nil
        case hi14 => (simp only [List.getElem?_toArray, List.getElem?_cons_succ, List.getElem?_cons_zero]; rfl)
        have HN : Hid (GS w (w5.setCell ⟨g, j, none⟩ (.int .i64 (gry z0 z1 z2))) [ri lo3 hi3 (.slice (some ⟨g, 0, none⟩) n c2) ((gyL W H xs).take (j + 1) ++ zeros (n - (j + 1)))] [⟨b3, 26, #[.int .i64 (W : Int), .int .i64 (H : Int), .int .i64 1, .slice (some ⟨g, 0, none⟩) n c2]⟩, ⟨w.heap.size + 1, 26, #[.int .i64 0, .int .i64 0, .int .i64 0, .slice none 0 0]⟩, ⟨w.heap.size, 26, #[.int .i64 (W : Int), .int .i64 (H : Int), .int .i64 3, .slice (some ⟨b, off, none⟩) m c]⟩]) := Lib.hid (by have hput := HC.out.o0.put Hlj.out.symm j (gry z0 z1 z2); have h := HC.out.mark0 hput.1 (by simp) hput.2; rw [HT.out] at h; exact h)
        clear HC
        go_simp
        refine hK.out _ _ (by (try dsimp only); exact ⟨HN.out.b0_4.2.2.2, HN.out.b2_4.2.2.2⟩) (fun hHeld => ?_)
        clear hK K
        (try simp only [Act.put, List.setIfInBounds_toArray, List.set_cons_zero, List.set_cons_succ])
        refine wpAnyH_done (by kernel_rfl) ?_ _
        (try go_wp2)
        go_roundw
        case rel => exact ⟨j + 1, by omega, by go_num, HN⟩
        case measure => simp [intOf]; omega
      · have hjn : j = n := by omega
        have hG := hI.out
        rw [hjn, Nat.sub_self, ← HGl.out, List.take_length, show zeros 0 = [] from rfl, List.append_nil, HGl.out] at hG
        obtain ⟨o0, o1, o2, o3⟩ := hG.b0_4
        obtain ⟨r0, r1, r2, r3⟩ := hG.b1_4
        have f0 := hG.f1 0
        have f1 := hG.f1 1
        have f2 := hG.f1 2
        have f3 := hG.f1 3
        have HE := Lib.hid (hG.e1_4 (.int .i64 (W : Int)) (.int .i64 (H : Int)) (.int .i64 1) (.slice (some ⟨g, 0, none⟩) n c2))
        have HLL : Hid (n = (gyL W H xs).length) := Lib.hid HGl.out.symm
        clear hI hG hlj hn
        go_wp2
        exact bodyPost_ret (v := .agg #[.int .i64 (W : Int), .int .i64 (H : Int), .int .i64 1, .slice (some ⟨g, 0, none⟩) n c2]) (by simp [results, Try.results25, go_sem, r0, r1, r2, r3]) rfl (MadeIf.yes Hv.out ⟨_, rfl, HE.out.2 _ (List.Mem.head _), HE.out.1⟩)
end Go.Proofs.Ytpajccpcdmaalaa
