/- Contracts of boxes that fit an image, in the program and in the model. -/
import Derived.Test.YtfjcbdpepbcjcaaSetI
namespace Go.Proofs.Ytfjcbdpepbcjcaa
open Go.RowKit Go.Shelf
set_option linter.unusedSimpArgs false
set_option linter.unusedVariables false

/-- Whether a box fits. -/
def fitB (bx by_ bw bh W H : Int) : Bool := decide (0 ≤ bx ∧ bx ≤ W - 1) && (decide (1 ≤ bw ∧ bw ≤ W - bx) && (decide (0 ≤ by_ ∧ by_ ≤ H - 1) && decide (1 ≤ bh ∧ bh ≤ H - by_)))
set_option maxHeartbeats 8000000 in
theorem fits_any (bx by_ bw bh W H : Int) (hW : 0 ≤ W ∧ W ≤ 1000) (hH : 0 ≤ H ∧ H ≤ 1000) (w : World) :
    Calls Try.prog 70 #[.agg #[.int .i64 bx, .int .i64 by_, .int .i64 bw, .int .i64 bh], .int .i64 W, .int .i64 H] w fun e w' => e = .returned (.bool (fitB bx by_ bw bh W H)) ∧ Below w.heap.size w w' := by
  have HB := Lib.hid ((Below.refl w.heap.size w).alloc (Nat.le_refl _) (.cells #[.int .i64 bx, .int .i64 by_, .int .i64 bw, .int .i64 bh] 27))
  obtain ⟨hW0, hW1⟩ := hW
  obtain ⟨hH0, hH1⟩ := hH
  have HV : Hid (fitB bx by_ bw bh W H = (decide (0 ≤ bx ∧ bx ≤ W - 1) && (decide (1 ≤ bw ∧ bw ≤ W - bx) && (decide (0 ≤ by_ ∧ by_ ≤ H - 1) && decide (1 ≤ bh ∧ bh ≤ H - by_))))) := Lib.hid rfl
  cases hx : decide (0 ≤ bx ∧ bx ≤ W - 1)
  · have Ex := Lib.hid hx
    clear hx
    have HF : Hid (fitB bx by_ bw bh W H = false) := Lib.hid (by rw [HV.out]; simp only [Ex.out]; simp)
    clear HV
    go_enter Try.func70, Try.ntmps70
    go_wp2_with fail
    refine (iIn_any bx 0 (W - 1) _).mono ?_
    rintro e w' ⟨rfl, rfl⟩
    rw [Ex.out]
    go_wp2
    go_ret
    exact ⟨ret_bool HF.out.symm, HB.out⟩
  · have Ex := Lib.hid hx
    obtain ⟨xx0, xx1⟩ := of_decide_eq_true hx
    clear hx
    cases hw : decide (1 ≤ bw ∧ bw ≤ W - bx)
    · have Ew := Lib.hid hw
      clear hw
      have HF : Hid (fitB bx by_ bw bh W H = false) := Lib.hid (by rw [HV.out]; simp only [Ex.out, Ew.out]; simp)
      clear HV
      go_enter Try.func70, Try.ntmps70
      go_wp2_with fail
      refine (iIn_any bx 0 (W - 1) _).mono ?_
      rintro e w' ⟨rfl, rfl⟩
      rw [Ex.out]
      go_wp2_with fail
      refine (iIn_any bw 1 (W - bx) _).mono ?_
      rintro e w' ⟨rfl, rfl⟩
      rw [Ew.out]
      go_wp2
      go_ret
      exact ⟨ret_bool HF.out.symm, HB.out⟩
    · have Ew := Lib.hid hw
      obtain ⟨ww0, ww1⟩ := of_decide_eq_true hw
      clear hw
      cases hy : decide (0 ≤ by_ ∧ by_ ≤ H - 1)
      · have Ey := Lib.hid hy
        clear hy
        have HF : Hid (fitB bx by_ bw bh W H = false) := Lib.hid (by rw [HV.out]; simp only [Ex.out, Ew.out, Ey.out]; simp)
        clear HV
        go_enter Try.func70, Try.ntmps70
        go_wp2_with fail
        refine (iIn_any bx 0 (W - 1) _).mono ?_
        rintro e w' ⟨rfl, rfl⟩
        rw [Ex.out]
        go_wp2_with fail
        refine (iIn_any bw 1 (W - bx) _).mono ?_
        rintro e w' ⟨rfl, rfl⟩
        rw [Ew.out]
        go_wp2_with fail
        refine (iIn_any by_ 0 (H - 1) _).mono ?_
        rintro e w' ⟨rfl, rfl⟩
        rw [Ey.out]
        go_wp2
        go_ret
        exact ⟨ret_bool HF.out.symm, HB.out⟩
      · have Ey := Lib.hid hy
        obtain ⟨yy0, yy1⟩ := of_decide_eq_true hy
        clear hy
        cases hh : decide (1 ≤ bh ∧ bh ≤ H - by_)
        · have Eh := Lib.hid hh
          clear hh
          have HF : Hid (fitB bx by_ bw bh W H = false) := Lib.hid (by rw [HV.out]; simp only [Ex.out, Ew.out, Ey.out, Eh.out]; simp)
          clear HV
          go_enter Try.func70, Try.ntmps70
          go_wp2_with fail
          refine (iIn_any bx 0 (W - 1) _).mono ?_
          rintro e w' ⟨rfl, rfl⟩
          rw [Ex.out]
          go_wp2_with fail
          refine (iIn_any bw 1 (W - bx) _).mono ?_
          rintro e w' ⟨rfl, rfl⟩
          rw [Ew.out]
          go_wp2_with fail
          refine (iIn_any by_ 0 (H - 1) _).mono ?_
          rintro e w' ⟨rfl, rfl⟩
          rw [Ey.out]
          go_wp2_with fail
          refine (iIn_any bh 1 (H - by_) _).mono ?_
          rintro e w' ⟨rfl, rfl⟩
          rw [Eh.out]
          go_wp2
          go_ret
          exact ⟨ret_bool HF.out.symm, HB.out⟩
        · have Eh := Lib.hid hh
          obtain ⟨hh0, hh1⟩ := of_decide_eq_true hh
          clear hh
          have HF : Hid (fitB bx by_ bw bh W H = true) := Lib.hid (by rw [HV.out]; simp only [Ex.out, Ew.out, Ey.out, Eh.out]; simp)
          clear HV
          go_enter Try.func70, Try.ntmps70
          go_wp2_with fail
          refine (iIn_any bx 0 (W - 1) _).mono ?_
          rintro e w' ⟨rfl, rfl⟩
          rw [Ex.out]
          go_wp2_with fail
          refine (iIn_any bw 1 (W - bx) _).mono ?_
          rintro e w' ⟨rfl, rfl⟩
          rw [Ew.out]
          go_wp2_with fail
          refine (iIn_any by_ 0 (H - 1) _).mono ?_
          rintro e w' ⟨rfl, rfl⟩
          rw [Ey.out]
          go_wp2_with fail
          refine (iIn_any bh 1 (H - by_) _).mono ?_
          rintro e w' ⟨rfl, rfl⟩
          rw [Eh.out]
          go_wp2
          go_ret
          exact ⟨ret_bool HF.out.symm, HB.out⟩
set_option maxHeartbeats 2000000 in
theorem hasBox_any (bx by_ bw bh W H P : Int) (v : Value) (hW : 0 ≤ W ∧ W ≤ 1000) (hH : 0 ≤ H ∧ H ≤ 1000) (w : World) :
    Calls Try.prog 42 #[.agg #[.int .i64 W, .int .i64 H, .int .i64 P, v], .agg #[.int .i64 bx, .int .i64 by_, .int .i64 bw, .int .i64 bh]] w fun e w' => e = .returned (.bool (fitB bx by_ bw bh W H)) ∧ Below w.heap.size w w' := by
  have HB := Lib.hid (((Below.refl w.heap.size w).alloc (Nat.le_refl _) (.cells #[.int .i64 W, .int .i64 H, .int .i64 P, v] 30)).alloc (by simp) (.cells #[.int .i64 bx, .int .i64 by_, .int .i64 bw, .int .i64 bh] 27))
  go_enter Try.func42, Try.ntmps42
  go_wp2_with fail
  refine (fits_any bx by_ bw bh W H hW hH _).mono ?_
  rintro e w2 ⟨rfl, hB2⟩
  have HB2 := Lib.hid (HB.out.trans (hB2.mono (by simp <;> omega)))
  clear hB2 HB
  go_wp2
  go_ret
  exact ⟨rfl, HB2.out⟩
set_option maxHeartbeats 8000000 in
theorem vbox_any (bx by_ bw bh W H P : Int) (v : Value) (hW : 0 ≤ W ∧ W ≤ 1000) (hH : 0 ≤ H ∧ H ≤ 1000) (w : World) :
    Calls Try.prog 66 #[.agg #[.int .i64 W, .int .i64 H, .int .i64 P, v], .agg #[.int .i64 bx, .int .i64 by_, .int .i64 bw, .int .i64 bh]] w fun e w' => e = .returned (.bool (fitB bx by_ bw bh W H)) ∧ Below w.heap.size w w' := by
  have HB := Lib.hid (((Below.refl w.heap.size w).alloc (Nat.le_refl _) (.cells #[.int .i64 W, .int .i64 H, .int .i64 P, v] 30)).alloc (by simp) (.cells #[.int .i64 bx, .int .i64 by_, .int .i64 bw, .int .i64 bh] 27))
  obtain ⟨hW0, hW1⟩ := hW
  obtain ⟨hH0, hH1⟩ := hH
  have HV : Hid (fitB bx by_ bw bh W H = (decide (0 ≤ bx ∧ bx ≤ W - 1) && (decide (1 ≤ bw ∧ bw ≤ W - bx) && (decide (0 ≤ by_ ∧ by_ ≤ H - 1) && decide (1 ≤ bh ∧ bh ≤ H - by_))))) := Lib.hid rfl
  cases hx : decide (0 ≤ bx ∧ bx ≤ W - 1)
  · have Ex := Lib.hid hx
    clear hx
    have HF : Hid (fitB bx by_ bw bh W H = false) := Lib.hid (by rw [HV.out]; simp only [Ex.out]; simp)
    clear HV
    go_enter Try.func66, Try.ntmps66
    go_wp2_with fail
    refine (sIn_any bx 0 (W - 1) _).mono ?_
    rintro e w' ⟨rfl, rfl⟩
    rw [Ex.out]
    go_wp2
    go_ret
    exact ⟨ret_bool HF.out.symm, HB.out⟩
  · have Ex := Lib.hid hx
    obtain ⟨xx0, xx1⟩ := of_decide_eq_true hx
    clear hx
    cases hy : decide (0 ≤ by_ ∧ by_ ≤ H - 1)
    · have Ey := Lib.hid hy
      clear hy
      have HF : Hid (fitB bx by_ bw bh W H = false) := Lib.hid (by rw [HV.out]; simp only [Ex.out, Ey.out]; simp)
      clear HV
      go_enter Try.func66, Try.ntmps66
      go_wp2_with fail
      refine (sIn_any bx 0 (W - 1) _).mono ?_
      rintro e w' ⟨rfl, rfl⟩
      rw [Ex.out]
      go_wp2_with fail
      refine (sIn_any by_ 0 (H - 1) _).mono ?_
      rintro e w' ⟨rfl, rfl⟩
      rw [Ey.out]
      go_wp2
      go_ret
      exact ⟨ret_bool HF.out.symm, HB.out⟩
    · have Ey := Lib.hid hy
      obtain ⟨yy0, yy1⟩ := of_decide_eq_true hy
      clear hy
      cases hw : decide (1 ≤ bw ∧ bw ≤ W - bx)
      · have Ew := Lib.hid hw
        clear hw
        have HF : Hid (fitB bx by_ bw bh W H = false) := Lib.hid (by rw [HV.out]; simp only [Ex.out, Ey.out, Ew.out]; simp)
        clear HV
        go_enter Try.func66, Try.ntmps66
        go_wp2_with fail
        refine (sIn_any bx 0 (W - 1) _).mono ?_
        rintro e w' ⟨rfl, rfl⟩
        rw [Ex.out]
        go_wp2_with fail
        refine (sIn_any by_ 0 (H - 1) _).mono ?_
        rintro e w' ⟨rfl, rfl⟩
        rw [Ey.out]
        go_wp2_with fail
        refine (sIn_any bw 1 (W - bx) _).mono ?_
        rintro e w' ⟨rfl, rfl⟩
        rw [Ew.out]
        go_wp2
        go_ret
        exact ⟨ret_bool HF.out.symm, HB.out⟩
      · have Ew := Lib.hid hw
        obtain ⟨ww0, ww1⟩ := of_decide_eq_true hw
        clear hw
        cases hh : decide (1 ≤ bh ∧ bh ≤ H - by_)
        · have Eh := Lib.hid hh
          clear hh
          have HF : Hid (fitB bx by_ bw bh W H = false) := Lib.hid (by rw [HV.out]; simp only [Ex.out, Ey.out, Ew.out, Eh.out]; simp)
          clear HV
          go_enter Try.func66, Try.ntmps66
          go_wp2_with fail
          refine (sIn_any bx 0 (W - 1) _).mono ?_
          rintro e w' ⟨rfl, rfl⟩
          rw [Ex.out]
          go_wp2_with fail
          refine (sIn_any by_ 0 (H - 1) _).mono ?_
          rintro e w' ⟨rfl, rfl⟩
          rw [Ey.out]
          go_wp2_with fail
          refine (sIn_any bw 1 (W - bx) _).mono ?_
          rintro e w' ⟨rfl, rfl⟩
          rw [Ew.out]
          go_wp2_with fail
          refine (sIn_any bh 1 (H - by_) _).mono ?_
          rintro e w' ⟨rfl, rfl⟩
          rw [Eh.out]
          go_wp2
          go_ret
          exact ⟨ret_bool HF.out.symm, HB.out⟩
        · have Eh := Lib.hid hh
          obtain ⟨hh0, hh1⟩ := of_decide_eq_true hh
          clear hh
          have HF : Hid (fitB bx by_ bw bh W H = true) := Lib.hid (by rw [HV.out]; simp only [Ex.out, Ey.out, Ew.out, Eh.out]; simp)
          clear HV
          go_enter Try.func66, Try.ntmps66
          go_wp2_with fail
          refine (sIn_any bx 0 (W - 1) _).mono ?_
          rintro e w' ⟨rfl, rfl⟩
          rw [Ex.out]
          go_wp2_with fail
          refine (sIn_any by_ 0 (H - 1) _).mono ?_
          rintro e w' ⟨rfl, rfl⟩
          rw [Ey.out]
          go_wp2_with fail
          refine (sIn_any bw 1 (W - bx) _).mono ?_
          rintro e w' ⟨rfl, rfl⟩
          rw [Ew.out]
          go_wp2_with fail
          refine (sIn_any bh 1 (H - by_) _).mono ?_
          rintro e w' ⟨rfl, rfl⟩
          rw [Eh.out]
          go_wp2
          go_ret
          exact ⟨ret_bool HF.out.symm, HB.out⟩
/-- A box that fits, in natural numbers. -/
theorem fit_nat {bx by_ bw bh : Int} {W H : Nat} (h : fitB bx by_ bw bh W H = true) : ∃ a b c d : Nat, bx = a ∧ by_ = b ∧ bw = c ∧ bh = d ∧ 1 ≤ c ∧ 1 ≤ d ∧ a + c ≤ W ∧ b + d ≤ H := by
  simp only [fitB, Bool.and_eq_true, decide_eq_true_eq] at h
  obtain ⟨⟨h1, h2⟩, ⟨h3, h4⟩, ⟨h5, h6⟩, h7, h8⟩ := h
  obtain ⟨a, rfl⟩ := Int.eq_ofNat_of_zero_le h1
  obtain ⟨b, rfl⟩ := Int.eq_ofNat_of_zero_le h5
  obtain ⟨c, rfl⟩ := Int.eq_ofNat_of_zero_le (show 0 ≤ bw by omega)
  obtain ⟨d, rfl⟩ := Int.eq_ofNat_of_zero_le (show 0 ≤ bh by omega)
  exact ⟨a, b, c, d, rfl, rfl, rfl, rfl, by omega, by omega, by omega, by omega⟩
def cropOk (W H P : Int) (xs : List Int) (bx by_ bw bh : Int) : Bool := vim W H P xs && fitB bx by_ bw bh W H
/-- The numbers of a part of an image. -/
def cropL (W P : Nat) (xs : List Int) (X0 Y0 bw bh : Nat) : List Int := img bw bh P (fun X Y => pxc W P xs (X0 + X) (Y0 + Y))
theorem SetR.noR {ok : Bool} {W H P : Int} {ys : List Int} {w u : World} {r : Nat} (h : ok = false) (hr : w.heap.size ≤ r) (hB : Below w.heap.size w u) (v0 v1 v2 v3 : Value) :
    SetR ok W H P ys w (.returned (.tuple #[.agg #[.int .i64 0, .int .i64 0, .int .i64 0, .slice none 0 0], .bool false])) ((((u.setCell ⟨r, 0, none⟩ v0).setCell ⟨r, 1, none⟩ v1).setCell ⟨r, 2, none⟩ v2).setCell ⟨r, 3, none⟩ v3) := by
  subst h
  have := im_end (w := w) (r := r) (base := r + 1) (show Own u (r + 1) (.slice none 0 0) [] from World.ownsRow_nil _ _ _ _) (by omega) hr hB v0 v1 v2 v3
  exact ⟨_, rfl, this.1, this.2⟩
theorem SetR.yesR {ok : Bool} {W H P : Int} {ys : List Int} {w u : World} {r base : Nat} {v : Value} (h : ok = true) (hr : w.heap.size ≤ r) (hO : Own u base v ys) (hb : r < base) (hB : Below w.heap.size w u) (v0 v1 v2 v3 : Value) :
    SetR ok W H P ys w (.returned (.tuple #[.agg #[.int .i64 W, .int .i64 H, .int .i64 P, v], .bool true])) ((((u.setCell ⟨r, 0, none⟩ v0).setCell ⟨r, 1, none⟩ v1).setCell ⟨r, 2, none⟩ v2).setCell ⟨r, 3, none⟩ v3) := by
  subst h
  have := im_end (w := w) (r := r) (base := base) hO hb hr hB v0 v1 v2 v3
  exact ⟨_, rfl, this.1, this.2⟩
theorem Bx.at2 {w : World} {c0 c1 c2 : Array Value} {T0 T1 T2 : TypeId} : Bx (((w.alloc (.cells c0 T0)).alloc (.cells c1 T1)).alloc (.cells c2 T2)) w.heap.size T0 c0 ∧ Bx (((w.alloc (.cells c0 T0)).alloc (.cells c1 T1)).alloc (.cells c2 T2)) (w.heap.size + 1) T1 c1 ∧ Bx (((w.alloc (.cells c0 T0)).alloc (.cells c1 T1)).alloc (.cells c2 T2)) (w.heap.size + 2) T2 c2 := by
  refine ⟨((Bx.new w T0 c0).alloc _).alloc _, ?_, ?_⟩
  · have := (Bx.new (w.alloc (.cells c0 T0)) T1 c1).alloc (.cells c2 T2); simpa using this
  · have := Bx.new ((w.alloc (.cells c0 T0)).alloc (.cells c1 T1)) T2 c2; simpa using this
end Go.Proofs.Ytfjcbdpepbcjcaa
