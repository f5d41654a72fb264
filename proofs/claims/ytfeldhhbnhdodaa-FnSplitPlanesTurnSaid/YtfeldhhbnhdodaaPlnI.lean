/- Contract of SplitPlanes in the program. -/
import Derived.Test.YtfeldhhbnhdodaaPlnO
import Derived.Test.YtfeldhhbnhdodaaPlnM
import Derived.Test.YtfeldhhbnhdodaaIma
import Derived.Test.YtfeldhhbnhdodaaImgA
namespace Go.Proofs.Ytfeldhhbnhdodaa
open Go.RowKit Go.Shelf
set_option linter.unusedSimpArgs false
set_option linter.unusedVariables false
set_option maxRecDepth 20000

/-- The call made a slice of the images ms. -/
def MadeIS (ms : List Imv) (w : World) (e : Ending) (w' : World) : Prop := ∃ v, e = .returned v ∧ ImS w w' v ms [] []
set_option maxHeartbeats 8000000 in
theorem i_SplitPlanes (W H P : Int) (A : Option Addr) (c : Nat) (xs : List Int) (w : World) (hx : Rds .i64 w w.heap.size A xs) (hl : xs.length ≤ 2000000) (hlc : xs.length ≤ c) :
    Calls Try.prog 9 #[.agg #[.int .i64 W, .int .i64 H, .int .i64 P, .slice A xs.length c]] w (MadeIS (spL W H P xs) w) := by
  have HX := Lib.hid hx
  clear hx
  have S0 : GS w (w.alloc (.cells #[.int .i64 W, .int .i64 H, .int .i64 P, .slice A xs.length c] 25)) [] [⟨w.heap.size, 25, #[.int .i64 W, .int .i64 H, .int .i64 P, .slice A xs.length c]⟩] := GS.box' (GS.start w) _ _ w.heap.size (by simp)
  go_enter Try.func9, Try.ntmps9
  go_wp2_with fail
  generalize (w.alloc (.cells #[.int .i64 W, .int .i64 H, .int .i64 P, .slice A xs.length c] 25)) = u0 at *
  refine (iVimg_any W H P A c xs u0 (S0.arg HX.out) hl).mono ?_
  rintro e u1 ⟨rfl, hB⟩
  have S1 := S0.call hB
  clear hB S0
  cases hv : vim W H P xs
  · have HN : Hid (ImS w u1 (.slice none 0 0) (spL W H P xs) [] []) := Lib.hid (by rw [spL_no hv]; exact ImS.nil (S1.sub (List.Sublist.refl _) (List.nil_sublist _)))
    clear hv S1
    go_wp2
    go_ret
    exact ⟨_, rfl, HN.out⟩
  · obtain ⟨W, H, P, rfl, rfl, rfl, hW1, hW, hH1, hH, hP1, hP, hln, hby⟩ := vim_nat hv
    have HE := Lib.hid (spL_yes hv)
    have HLn := Lib.hid hln
    have HI0 : Hid (ImS w u1 (.slice none 0 0) ((spN W H P xs).take 0) [] [⟨w.heap.size, 25, #[.int .i64 (W : Int), .int .i64 (H : Int), .int .i64 (P : Int), .slice A xs.length c]⟩]) := Lib.hid (ImS.nil S1)
    have hWH : W * H ≤ 256 := by have := Nat.mul_le_mul hW hH; omega
    obtain ⟨d0, d1, d2, d3⟩ := S1.b0_4
    clear hv hln hby S1
    go_wp2
    clear d0 d1 d2 d3
    go_loopw [3, 10] (fun v i wr => ∃ k : Nat, k ≤ P ∧ i = .int .i64 k ∧ Hid (ImS w wr v ((spN W H P xs).take k) [] [⟨w.heap.size, 25, #[.int .i64 (W : Int), .int .i64 (H : Int), .int .i64 (P : Int), .slice A xs.length c]⟩])) (fun _ i _ => P - (intOf i).toNat)
    case atStart => exact ⟨0, Nat.zero_le _, rfl, HI0⟩
    case round =>
      clear HI0
      obtain ⟨k, hk, rfl, hI⟩ := hrel
      by_cases hlt : k < P
      · obtain ⟨m0, m1, m2, m3⟩ := hI.out.gs.b0_4
        have HR := Lib.hid (hI.out.gs.arg HX.out)
        go_wp2_with fail
        refine (iPlane_any W H P k hW hH hP hlt A c xs HLn.out wr HR.out).mono ?_
        rintro e w2 ⟨v2, rfl, hO2, hB2⟩
        have hl2 : (img W H 1 (fun x y _ => px W P xs x y k)).length = W * H := plL_len W H P xs k
        obtain ⟨A2, c2, rfl, hc2⟩ := hO2.slice
        rw [hl2] at hO2 hc2 ⊢
        obtain ⟨g2, hg2⟩ : ∃ g2, g2 = w2.heap.size := ⟨_, rfl⟩
        have hB3 := hB2.alloc hB2.size (.cells #[.int .i64 (W : Int), .int .i64 (H : Int), .slice A2 (W * H) c2] 52)
        have HR3 : Hid (Rds .i64 (w2.alloc (.cells #[.int .i64 (W : Int), .int .i64 (H : Int), .slice A2 (W * H) c2] 52)) (w2.alloc (.cells #[.int .i64 (W : Int), .int .i64 (H : Int), .slice A2 (W * H) c2] 52)).heap.size A2 (img W H 1 (fun x y _ => px W P xs x y k))) := Lib.hid ((hO2.rds.2.alloc (Nat.le_refl _) _).more (by simp))
        have hcl3 := Bx.new w2 52 #[.int .i64 (W : Int), .int .i64 (H : Int), .slice A2 (W * H) c2]
        obtain ⟨q0, q1, q2⟩ := bx3 hcl3
        have HI3 := Lib.hid (hI.out.call hB3)
        have hlt3 : w2.heap.size < (w2.alloc (.cells #[.int .i64 (W : Int), .int .i64 (H : Int), .slice A2 (W * H) c2] 52)).heap.size := by simp
        clear hI hB3 hO2 hB2 hcl3 m0 m1 m2 m3 HR hl2
        go_wp2_with fail
        rw [← hg2] at hlt3 q0 q1 q2 ⊢
        generalize w2.alloc (.cells #[.int .i64 (W : Int), .int .i64 (H : Int), .slice A2 (W * H) c2] 52) = wa at *
        have hcell : ∀ i, i < 1 → wa.cell? ⟨g2, 0 + i * 3, none⟩ = some (.int .i64 (W : Int)) ∧ wa.cell? ⟨g2, 0 + i * 3 + 1, none⟩ = some (.int .i64 (H : Int)) ∧ wa.cell? ⟨g2, 0 + i * 3 + 2, none⟩ = some (.slice A2 (W * H) c2) := by
          intro i hi
          have hi0 : i = 0 := by omega
          subst hi0
          exact ⟨q0, q1, q2⟩
        refine (join_any W H 1 hW1 hW hH1 hH (Nat.le_refl _) (by omega) g2 0 1 (fun x y _ => px W P xs x y k) (fun _ => A2) (fun _ => c2) wa hlt3 hcell (fun i hi => ⟨HR3.out, hc2⟩)).mono ?_
        rintro e w4 ⟨v4, rfl, hO4, hB4⟩
        have hl4 : (img W H 1 (fun x y _ => px W P xs x y k)).length = W * H := plL_len W H P xs k
        obtain ⟨A4, c4, rfl, hc4⟩ := hO4.slice
        have HI4 := Lib.hid ((HI3.out.add hO4 hB4).call ((Below.refl w4.heap.size w4).alloc (Nat.le_refl _) (.cells #[.int .i64 (W : Int), .int .i64 (H : Int), .int .i64 1, .slice A4 (W * H) c4] 25)))
        rw [hl4] at hc4
        have hcl4 := Bx.new w4 25 #[.int .i64 (W : Int), .int .i64 (H : Int), .int .i64 1, .slice A4 (W * H) c4]
        obtain ⟨z0, z1, z2, z3⟩ := bx4 hcl4
        rw [hl4, show (((1 : Nat) : Int)) = 1 from rfl]
        obtain ⟨lo4, hlo4⟩ : ∃ lo4, lo4 = wa.heap.size := ⟨_, rfl⟩
        obtain ⟨hi4, hhi4⟩ : ∃ hi4, hi4 = w4.heap.size := ⟨_, rfl⟩
        rw [← hlo4, ← hhi4] at HI4
        have HNx := Lib.hid (spN_next (xs := xs) hlt (W := W) (H := H))
        have HTl : Hid (((spN W H P xs).take k).length ≤ 1000) := Lib.hid (by rw [List.length_take]; omega)
        have HPl := Lib.hid (plL_len W H P xs k)
        clear HI3 HR3 hO4 hB4 hcl4 hl4 hcell q0 q1 q2 hlt3 hlo4
        have x0 : (w4.alloc (.cells #[.int .i64 (W : Int), .int .i64 (H : Int), .int .i64 1, .slice A4 (W * H) c4] 25)).cell? ((⟨w4.heap.size, 0, none⟩ : Addr).add 0) = some (.int .i64 (W : Int)) := by rw [add_spot rfl]; exact z0
        have x1 : (w4.alloc (.cells #[.int .i64 (W : Int), .int .i64 (H : Int), .int .i64 1, .slice A4 (W * H) c4] 25)).cell? ((⟨w4.heap.size, 0, none⟩ : Addr).add 1) = some (.int .i64 (H : Int)) := by rw [add_spot rfl]; exact z1
        have x2 : (w4.alloc (.cells #[.int .i64 (W : Int), .int .i64 (H : Int), .int .i64 1, .slice A4 (W * H) c4] 25)).cell? ((⟨w4.heap.size, 0, none⟩ : Addr).add 2) = some (.int .i64 1) := by rw [add_spot rfl]; exact z2
        have x3 : (w4.alloc (.cells #[.int .i64 (W : Int), .int .i64 (H : Int), .int .i64 1, .slice A4 (W * H) c4] 25)).cell? ((⟨w4.heap.size, 0, none⟩ : Addr).add 3) = some (.slice A4 (W * H) c4) := by rw [add_spot rfl]; exact z3
        have HI5 : Hid (ImS w (w4.alloc (.cells #[.int .i64 (W : Int), .int .i64 (H : Int), .int .i64 1, .slice A4 (W * H) c4] 25)) u3 ((spN W H P xs).take k) (rt 3 1 lo4 hi4 (.slice A4 (plL W H P xs k).length c4) (plL W H P xs k).length (plL W H P xs k) :: []) [⟨w.heap.size, 25, #[.int .i64 (W : Int), .int .i64 (H : Int), .int .i64 (P : Int), .slice A xs.length c]⟩]) := HI4
        clear HI4 z0 z1 z2 z3
        go_wp2_with (at_builtin; refine wpList_appIS rfl (.tmp 13) (.tmp 19) rfl 3 lo4 hi4 A4 (W * H) c4 c4 ⟨W, H, 1, plL W H P xs k⟩ rfl HI5.out ⟨w4.heap.size, 0, none⟩ 1 rfl (by rw [HPl.out]; exact hc4) HTl.out HPl.out.symm x0 x1 x2 x3 ?_; intro v5 w5 hI5)
        rw [← HNx.out] at hI5
        have HI6 := Lib.hid hI5
        clear hI5 HI5 x0 x1 x2 x3
        go_roundw
        case rel => exact ⟨k + 1, by omega, by go_num, HI6⟩
        case measure => simp [intOf]; omega
      · have hkP : k = P := by omega
        go_wp2
        go_ret
        have h := hI.out
        rw [hkP, List.take_of_length_le (by rw [spN_len]; exact Nat.le_refl _), ← HE.out] at h
        exact ⟨_, rfl, h.sub (List.Sublist.refl _) (List.nil_sublist _)⟩
end Go.Proofs.Ytfeldhhbnhdodaa
