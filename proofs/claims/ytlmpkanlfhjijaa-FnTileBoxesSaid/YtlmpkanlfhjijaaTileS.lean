/- Contract of the model's TileBoxes. -/
import Derived.Test.YtlmpkanlfhjijaaOwnB
import Derived.Test.YtlmpkanlfhjijaaTile
namespace Go.Proofs.Ytlmpkanlfhjijaa
open Go.RowKit
set_option linter.unusedSimpArgs false
set_option linter.unusedVariables false
set_option maxRecDepth 20000

def tN (W H P : Int) (xs : List Int) : Nat := if vim W H P xs = true then tcnt W.toNat H.toNat else 0
def tL (W H P : Int) (xs : List Int) : List Int := tileL W.toNat H.toNat (tN W H P xs)
theorem tL_len (W H P : Int) (xs : List Int) : (tL W H P xs).length = tN W H P xs * 4 := tileL_len _ _ _
theorem tN_no {W H P : Int} {xs : List Int} (h : vim W H P xs = false) : tN W H P xs = 0 := by unfold tN; rw [h]; rfl
theorem tN_yes {W H : Nat} {P : Int} {xs : List Int} (h : vim W H P xs = true) : tN W H P xs = tcnt W H := by unfold tN; rw [if_pos h]; simp
def Tiles (W H P : Int) (xs : List Int) (w : World) (e : Ending) (w' : World) : Prop :=
  ∃ v, e = .returned v ∧ OwnT 42 4 w' w.heap.size v (tN W H P xs) (tL W H P xs) ∧ Below w.heap.size w w'
theorem tiles_no {W H P : Int} {xs : List Int} {w w' : World} (h : vim W H P xs = false) (hb : Below w.heap.size w w') : Tiles W H P xs w (.returned (.slice none 0 0)) w' :=
  ⟨_, rfl, by unfold tL; rw [tN_no h]; exact OwnT.nil _ _ _ _, hb⟩
theorem tiles_yes {W H : Nat} {P : Int} {xs : List Int} {w w' : World} {v : Value} {b : Nat} (h : vim W H P xs = true) (hO : OwnT 42 4 w' b v (tcnt W H) (tileL W H (tcnt W H))) (hb : Below w.heap.size w w') (hbb : w.heap.size ≤ b) : Tiles W H P xs w (.returned v) w' :=
  ⟨_, rfl, by unfold tL; rw [tN_yes h]; simpa using hO.base_le hbb, hb⟩
theorem tN_le (W H P : Int) (xs : List Int) : tN W H P xs ≤ 16 := by
  cases h : vim W H P xs
  · rw [tN_no h]; omega
  · obtain ⟨W, H, P, rfl, rfl, rfl, hW1, hW, hH1, hH, _⟩ := vim_nat h
    rw [tN_yes h]; exact tcnt_le hW hH
set_option maxHeartbeats 8000000 in
theorem s_TileBoxes (W H P : Int) (A : Option Addr) (c : Nat) (xs : List Int) (w : World) (hx : Rds .i64 w w.heap.size A xs) (hl : xs.length ≤ 2000000) :
    Calls Try.prog 17 #[.agg #[.int .i64 W, .int .i64 H, .int .i64 P, .slice A xs.length c]] w (Tiles W H P xs w) := by
  have HM0 : Hid (Bx ((w.alloc (.cells #[.int .i64 W, .int .i64 H, .int .i64 P, .slice A xs.length c] 25)).alloc (.cells #[] 42)) w.heap.size 25 (imC W H P (.slice A xs.length c))) := Lib.hid ((Bx.new w 25 _).alloc _)
  have HB0 : Hid (Below w.heap.size w ((w.alloc (.cells #[.int .i64 W, .int .i64 H, .int .i64 P, .slice A xs.length c] 25)).alloc (.cells #[] 42))) := Lib.hid (((Below.refl _ _).alloc (Nat.le_refl _) _).alloc (by simp) _)
  have HO0 : Hid (OwnT 42 4 ((w.alloc (.cells #[.int .i64 W, .int .i64 H, .int .i64 P, .slice A xs.length c] 25)).alloc (.cells #[] 42)) (w.heap.size + 1) (.slice (some ⟨w.heap.size + 1, 0, none⟩) 0 0) 0 []) := Lib.hid (by simpa using OwnT.none 42 4 (w.alloc (.cells #[.int .i64 W, .int .i64 H, .int .i64 P, .slice A xs.length c] 25)))
  have Hsz : Hid (((w.alloc (.cells #[.int .i64 W, .int .i64 H, .int .i64 P, .slice A xs.length c] 25)).alloc (.cells #[] 42)).heap.size = w.heap.size + 2) := Lib.hid (by simp)
  have Hx : Hid (Rds .i64 ((w.alloc (.cells #[.int .i64 W, .int .i64 H, .int .i64 P, .slice A xs.length c] 25)).alloc (.cells #[] 42)) ((w.alloc (.cells #[.int .i64 W, .int .i64 H, .int .i64 P, .slice A xs.length c] 25)).alloc (.cells #[] 42)).heap.size A xs) := Lib.hid (((hx.alloc (Nat.le_refl _) _).alloc (by simp) _).more (by simp <;> omega))
  clear hx
  go_enter Try.func17, Try.ntmps17
  go_wp2_with fail
  generalize (w.alloc (.cells #[.int .i64 W, .int .i64 H, .int .i64 P, .slice A xs.length c] 25)).alloc (.cells #[] 42) = u0 at *
  refine (sVimg_any W H P A c xs u0 Hx.out hl).mono ?_
  rintro e u1 ⟨rfl, hB⟩
  have HM1 := Lib.hid (HM0.out.below hB)
  have HO1 := Lib.hid (HO0.out.below hB (Nat.le_refl _))
  have HB1 := Lib.hid (HB0.out.trans (hB.mono (by have := Hsz.out; omega)))
  have HZ1 : Hid (w.heap.size + 2 ≤ u1.heap.size) := Lib.hid (by have := Hsz.out; have := hB.size; omega)
  clear hB Hx HB0 HM0 HO0 Hsz
  cases hv : vim W H P xs
  · have HV := Lib.hid hv
    clear hv
    go_wp2
    go_ret
    exact tiles_no HV.out HB1.out
  · obtain ⟨W, H, P, rfl, rfl, rfl, hW1, hW, hH1, hH, hP1, hP, hln, hby⟩ := vim_nat hv
    have HV := Lib.hid hv
    have hcn := tcnt_le hW hH
    clear hv hln hby
    go_wp2
    go_loopw [4, 3] (fun t l wr => ∃ j : Nat, j ≤ tcnt W H ∧ t = .int .i64 j ∧ Hid (OwnT 42 4 wr (w.heap.size + 1) l j (tileL W H j)) ∧ Hid (Below (w.heap.size + 1) u1 wr)) (fun t _ _ => tcnt W H - (intOf t).toNat)
    case atStart => exact ⟨0, Nat.zero_le _, rfl, HO1, Lib.hid (Below.refl _ _)⟩
    case round =>
      obtain ⟨j, hj, rfl, hO, hbel⟩ := hrel
      obtain ⟨A1, c1, rfl, hc1⟩ := hO.out.slice
      have hMr : Hid (Bx wr w.heap.size 25 (imC W H P (.slice A xs.length c))) := Lib.hid ((hbel.out.block w.heap.size (by omega)).trans HM1.out)
      obtain ⟨m0, m1, m2, m3⟩ := hMr.out.im
      go_wp2_with fail
      refine (tileCount_any W H (.int .i64 P) (.slice A xs.length c) wr ⟨hW1, hW⟩ ⟨hH1, hH⟩).mono ?_
      rintro e w1 ⟨rfl, hb1⟩
      have hO1 : Hid (OwnT 42 4 w1 (w.heap.size + 1) (.slice A1 j c1) j (tileL W H j)) := Lib.hid (hO.out.below hb1 (Nat.le_refl _))
      have hbel1 : Hid (Below (w.heap.size + 1) u1 w1) := Lib.hid (hbel.out.trans (hb1.mono (by have := hbel.out.size; have := HZ1.out; omega)))
      have hM1 : Hid (Bx w1 w.heap.size 25 (imC W H P (.slice A xs.length c))) := Lib.hid ((hbel1.out.block w.heap.size (by omega)).trans HM1.out)
      obtain ⟨k0, k1, k2, k3⟩ := hM1.out.im
      clear hO hbel hb1 hMr m0 m1 m2 m3
      by_cases hlt : j < tcnt W H
      · go_wp2_with fail
        refine (tileBox_any W H j (.int .i64 P) (.slice A xs.length c) w1 ⟨hW1, hW⟩ ⟨hH1, hH⟩ (by omega)).mono ?_
        rintro e w2 ⟨rfl, hb2⟩
        have hO2 : Hid (OwnT 42 4 w2 (w.heap.size + 1) (.slice A1 j c1) j (tileL W H j)) := Lib.hid (hO1.out.below hb2 (Nat.le_refl _))
        have hbel2 : Hid (Below (w.heap.size + 1) u1 w2) := Lib.hid (hbel1.out.trans (hb2.mono (by have := hbel1.out.size; have := HZ1.out; omega)))
        have HX : Hid (tileL W H (j + 1) = tileL W H j ++ [((j % tcol W * 4 : Nat) : Int), ((j / tcol W * 4 : Nat) : Int), tsd W ((j % tcol W * 4 : Nat) : Int), tsd H ((j / tcol W * 4 : Nat) : Int)]) := Lib.hid rfl
        clear hO1 hbel1 hM1 k0 k1 k2 k3 hb2
        generalize ((j % tcol W * 4 : Nat) : Int) = a0 at *
        generalize ((j / tcol W * 4 : Nat) : Int) = a1 at *
        generalize tsd W a0 = a2 at *
        generalize tsd H a1 = a3 at *
        have HC : Hid (∀ q : Nat, q < [a0, a1, a2, a3].length → (w2.alloc (.cells #[.int .i64 a0, .int .i64 a1, .int .i64 a2, .int .i64 a3] 42)).cell? ⟨w2.heap.size, q, none⟩ = some (.int .i64 ([a0, a1, a2, a3].getD q 0))) := Lib.hid (fun q hq => by
          rw [cell_of_row _ _ _ _ _ _ (heap_alloc_new w2 _)]
          match q, hq with
          | 0, _ => rfl
          | 1, _ => rfl
          | 2, _ => rfl
          | 3, _ => rfl)
        have HO := Lib.hid (hO2.out.alloc (.cells #[.int .i64 a0, .int .i64 a1, .int .i64 a2, .int .i64 a3] 42))
        have HLt := Lib.hid hO2.out.lt
        have HA := Lib.hid (hbel2.out.alloc (by have := hbel2.out.size; have := HZ1.out; omega) (.cells #[.int .i64 a0, .int .i64 a1, .int .i64 a2, .int .i64 a3] 42))
        have HsB : Hid (w.heap.size + 2 ≤ w2.heap.size) := Lib.hid (by have := hbel2.out.size; have := HZ1.out; omega)
        clear hO2 hbel2
        go_wp2_with (at_builtin; refine wpList_appBoxB rfl (.tmp 15) (.tmp 19) rfl (w.heap.size + 1) (.slice A1 j c1) j (tileL W H j) rfl HO.out w2.heap.size 1 1 [a0, a1, a2, a3] rfl (by simp) HC.out (by omega) (by have := HsB.out; simp; omega) ?_; intro v2 w3 hO3 hG3)
        have hb3 : Hid (Below (w.heap.size + 1) u1 w3) := Lib.hid (HA.out.grown hG3 (by have := HA.out.size; have := HZ1.out; omega) (fun k hk => (HLt.out k hk).1))
        have HO3 : Hid (OwnT 42 4 w3 (w.heap.size + 1) v2 (j + 1) (tileL W H (j + 1))) := Lib.hid (by rw [HX.out]; exact hO3)
        clear hO3 hG3
        go_wp2
        go_roundw
        case rel => exact ⟨j + 1, by omega, by go_num, HO3, hb3⟩
        case measure => simp [intOf]; omega
      · have hje : j = tcnt W H := by omega
        have HJ := Lib.hid hje
        have HB := Lib.hid (HB1.out.trans (hbel1.out.mono (by omega)))
        clear hje
        go_wp2
        go_ret
        exact tiles_yes HV.out (by rw [← HJ.out]; exact hO1.out) HB.out (by omega)
end Go.Proofs.Ytlmpkanlfhjijaa
