/- Contracts of CanonicalCodes, in the model and in the program. -/
import Derived.Test.YtakloadpmpffdaaCode
namespace Go.Proofs.Ytakloadpmpffdaa
open Go.RowKit
set_option linter.unusedSimpArgs false
set_option linter.unusedVariables false
set_option maxRecDepth 20000

theorem outr_succ (xs : List Int) (n : Nat) : outr xs (n + 1) = inr xs ((n : Int) + 1) (2 * (outr xs n).1) (outr xs n).2 xs.length := rfl
theorem codes_yes {xs : List Int} (h : cvB xs = true) : codes xs = (outr xs 16).2 := if_pos h
theorem codes_no {xs : List Int} (h : cvB xs = false) : codes xs = [] := if_neg (by rw [h]; simp)
theorem cvB_vs {xs : List Int} (h : cvB xs = true) : vsB xs 16 = true := by
  simp only [cvB, Bool.and_eq_true] at h; exact h.1
theorem made_nil {xs : List Int} {w w' : World} (h : xs = []) (hb : Below w.heap.size w w') : Made xs w (.returned (.slice none 0 0)) w' := by
  subst h; exact ⟨_, rfl, World.ownsRow_nil _ _ _ _, hb⟩
set_option maxHeartbeats 8000000 in
theorem s_codes (A : Option Addr) (c : Nat) (xs : List Int) (w : World) (h : Rds .i64 w w.heap.size A xs) (hl2 : xs.length ≤ 16) :
    Calls Try.prog 30 #[.slice A xs.length c] w (Made (outr xs 16).2 w) := by
  have hmk := fun W => make_ints xs.length (by omega) W
  have H0 := Lib.hid (Blk.new w (zeros xs.length))
  have Hh := Lib.hid h
  clear h
  go_enter Try.func30, Try.ntmps30
  go_wp2
  clear hmk
  go_loopw [5, 4] (fun ns cs wr => ∃ (n : Nat) (N C : Int), ns = .int .i64 N ∧ cs = .int .i64 C ∧ 1 ≤ N ∧ N ≤ 17 ∧ 0 ≤ C ∧ C ≤ 1048576 ∧ Hid (N = (n : Int) + 1 ∧ C = (outr xs n).1 ∧ Blk wr w.heap.size (outr xs n).2) ∧ Below w.heap.size w wr) (fun ns _ _ => 17 - (intOf ns).toNat)
  case atStart => exact ⟨0, 1, 0, rfl, rfl, by omega, by omega, by omega, by omega, Lib.hid ⟨rfl, rfl, H0.out⟩, (Below.refl _ _).alloc (Nat.le_refl _) _⟩
  case round =>
    obtain ⟨n, N, C, rfl, rfl, hN0, hN1, hC0, hC1, hI, hbel⟩ := hrel
    by_cases hle : N ≤ 16
    · have HS : Hid (outr xs (n + 1) = inr xs N (2 * C) (outr xs n).2 xs.length) := Lib.hid (by rw [outr_succ, ← hI.out.1, ← hI.out.2.1])
      have hb0 : Hid (Blk wr w.heap.size (inr xs N (2 * C) (outr xs n).2 0).2) := Lib.hid hI.out.2.2
      have HOL := Lib.hid (outr_len xs n)
      have HT : Hid (0 ≤ (outr xs (n + 1)).1 ∧ (outr xs (n + 1)).1 ≤ 1048576) := Lib.hid (outr_top xs hl2 (n + 1) (by have := hI.out.1; omega))
      have HNn : Hid (N + 1 = ((n + 1 : Nat) : Int) + 1) := Lib.hid (by have := hI.out.1; push_cast; omega)
      clear hI
      obtain ⟨o, ho⟩ : ∃ o, o = (outr xs n).2 := ⟨_, rfl⟩
      rw [← ho] at HS hb0 HOL
      clear ho
      go_wp2
      go_loopw [6, 4] (fun is ds wr => ∃ (i : Nat) (D : Int), i ≤ xs.length ∧ is = .int .i64 i ∧ ds = .int .i64 D ∧ 0 ≤ D ∧ D ≤ 2 * C + i ∧ Hid (D = (inr xs N (2 * C) o i).1 ∧ Blk wr w.heap.size (inr xs N (2 * C) o i).2) ∧ Below w.heap.size w wr) (fun is _ _ => xs.length - (intOf is).toNat)
      case atStart => exact ⟨0, 2 * C, Nat.zero_le _, rfl, rfl, by omega, by omega, Lib.hid ⟨rfl, hb0.out⟩, hbel⟩
      case round =>
        obtain ⟨i, D, hi, rfl, rfl, hD0, hD1, hJ, hbel⟩ := hrel
        by_cases hlt : i < xs.length
        · obtain ⟨b, off, rfl, hb, hc⟩ := Hh.out.cells_ hlt
          have hci := (hbel.cell (p := ⟨b, off + i, none⟩) hb).trans (hc i hlt)
          have HL : Hid ((inr xs N (2 * C) o i).2.length = xs.length) := Lib.hid (by rw [inr_len, HOL.out])
          have hcw := hJ.out.2.cell (i := i) (by have := HL.out; omega)
          have hfw := hJ.out.2.frozen i
          have Hhit := Lib.hid (fun h => inr_hit (xs := xs) (n := N) (c := 2 * C) (o := o) (i := i) h)
          have Hmiss := Lib.hid (fun h => inr_miss (xs := xs) (n := N) (c := 2 * C) (o := o) (i := i) h)
          have HP := Lib.hid (hJ.out.2.put i D)
          have HBel := Lib.hid (hbel.setCell (p := ⟨w.heap.size, i, none⟩) (Nat.le_refl _) (.int .i64 D))
          clear hc
          generalize xs.getD i 0 = x at *
          generalize (List.getD (inr xs N (2 * C) o i).2 i 0) = z at *
          by_cases hx : x = N
          · have hx' : (x == N) = true := by rw [hx]; simp
            have HE := Lib.hid (Hhit.out hx)
            clear hx hbel
            go_wp2
            go_roundw
            case rel => exact ⟨i + 1, D + 1, by omega, by go_num, rfl, by omega, by push_cast; omega, Lib.hid ⟨by rw [HE.out, hJ.out.1], by rw [HE.out, ← hJ.out.1]; exact HP.out⟩, HBel.out⟩
            case measure => simp [intOf]; omega
          · have hx' : (x == N) = false := beq_eq_false_iff_ne.2 hx
            have HE := Lib.hid (Hmiss.out hx)
            clear hx HBel
            go_wp2
            go_roundw
            case rel => exact ⟨i + 1, D, by omega, by go_num, rfl, by omega, by push_cast; omega, Lib.hid ⟨by rw [HE.out]; exact hJ.out.1, by rw [HE.out]; exact hJ.out.2⟩, hbel⟩
            case measure => simp [intOf]; omega
        · have hi' : i = xs.length := by omega
          have HJ : Hid (D = (outr xs (n + 1)).1 ∧ Blk wr w.heap.size (outr xs (n + 1)).2) := Lib.hid (by rw [HS.out, ← hi']; exact hJ.out)
          have hD2 : D ≤ 1048576 := by rw [HJ.out.1]; exact HT.out.2
          clear hi' hJ
          go_wp2
          go_roundw
          case rel => exact ⟨n + 1, N + 1, D, rfl, rfl, by omega, by omega, hD0, hD2, Lib.hid ⟨HNn.out, HJ.out⟩, hbel⟩
          case measure => simp [intOf]; omega
    · have HE : Hid (n = 16) := Lib.hid (by have := hI.out.1; omega)
      have HB := Lib.hid hI.out.2.2
      clear hI
      go_wp2
      go_ret
      have h := HB.out.own (Nat.le_refl _) (by rw [outr_len]; unfold maxLen; omega)
      rw [HE.out, outr_len] at h
      exact ⟨_, rfl, h, hbel⟩
set_option maxHeartbeats 2000000 in
theorem s_CanonicalCodes (A : Option Addr) (c : Nat) (xs : List Int) (w : World) (h : Rds .i64 w w.heap.size A xs) (hl : xs.length ≤ 10000000) :
    Calls Try.prog 13 #[.slice A xs.length c] w (Made (codes xs) w) := by
  have Hh := Lib.hid h
  clear h
  cases hv : cvB xs
  · have HN := Lib.hid (codes_no hv)
    go_enter Try.func13, Try.ntmps13
    go_wp2_with fail
    refine (sVl_any A c _ xs _ Hh.out hl).mono ?_
    rintro e w' ⟨rfl, rfl⟩
    rw [hv]
    go_wp2
    go_ret
    exact made_nil HN.out (Below.refl _ _)
  · have HN := Lib.hid (codes_yes hv)
    have hl2 := (vsB_parts (cvB_vs hv)).2.1
    go_enter Try.func13, Try.ntmps13
    go_wp2_with fail
    refine (sVl_any A c _ xs _ Hh.out hl).mono ?_
    rintro e w' ⟨rfl, rfl⟩
    rw [hv]
    go_wp2_with fail
    refine (s_codes A c xs _ Hh.out hl2).mono ?_
    rintro e w1 ⟨v, rfl, hO, hB⟩
    go_wp2
    go_ret
    exact ⟨v, rfl, by rw [HN.out]; exact hO, hB⟩
set_option maxHeartbeats 8000000 in
theorem i_CanonicalCodes (A : Option Addr) (c : Nat) (xs : List Int) (w : World) (h : Rds .i64 w w.heap.size A xs) (hl : xs.length ≤ 10000000) :
    Calls Try.prog 15 #[.slice A xs.length c] w (Made (codes xs) w) := by
  have Hh := Lib.hid h
  clear h
  cases hs : vsB xs 16
  · have HN := Lib.hid (codes_no (xs := xs) (by simp only [cvB, hs, Bool.false_and]))
    go_enter Try.func15, Try.ntmps15
    go_wp2_with fail
    refine (iVs_any A c _ xs 16 _ Hh.out hl).mono ?_
    rintro e w' ⟨rfl, rfl⟩
    rw [hs]
    go_wp2
    go_ret
    exact made_nil HN.out (Below.refl _ _)
  · cases hk : decide (kr xs xs.length ≤ 65536)
    · have HN := Lib.hid (codes_no (xs := xs) (by simp only [cvB, hk, Bool.and_false]))
      go_enter Try.func15, Try.ntmps15
      go_wp2_with fail
      refine (iVs_any A c _ xs 16 _ Hh.out hl).mono ?_
      rintro e w' ⟨rfl, rfl⟩
      rw [hs]
      go_wp2_with fail
      refine (iFits_any A c _ xs _ Hh.out hs).mono ?_
      rintro e w' ⟨rfl, rfl⟩
      rw [hk]
      go_wp2
      go_ret
      exact made_nil HN.out (Below.refl _ _)
    · have HN := Lib.hid (codes_yes (xs := xs) (by simp only [cvB, hs, hk, Bool.and_true]))
      have hl2 := (vsB_parts hs).2.1
      have hmk := fun W => make_ints xs.length (by omega) W
      have H0 := Lib.hid (Blk.new w (zeros xs.length))
      go_enter Try.func15, Try.ntmps15
      go_wp2_with fail
      refine (iVs_any A c _ xs 16 _ Hh.out hl).mono ?_
      rintro e w' ⟨rfl, rfl⟩
      rw [hs]
      go_wp2_with fail
      refine (iFits_any A c _ xs _ Hh.out hs).mono ?_
      rintro e w' ⟨rfl, rfl⟩
      rw [hk]
      clear hs hk
      go_wp2
      clear hmk
      go_loopw [5, 4] (fun ns cs wr => ∃ (n : Nat) (N C : Int), ns = .int .i64 N ∧ cs = .int .i64 C ∧ 1 ≤ N ∧ N ≤ 17 ∧ 0 ≤ C ∧ C ≤ 1048576 ∧ Hid (N = (n : Int) + 1 ∧ C = (outr xs n).1 ∧ Blk wr w.heap.size (outr xs n).2) ∧ Below w.heap.size w wr) (fun ns _ _ => 17 - (intOf ns).toNat)
      case atStart => exact ⟨0, 1, 0, rfl, rfl, by omega, by omega, by omega, by omega, Lib.hid ⟨rfl, rfl, H0.out⟩, (Below.refl _ _).alloc (Nat.le_refl _) _⟩
      case round =>
        obtain ⟨n, N, C, rfl, rfl, hN0, hN1, hC0, hC1, hI, hbel⟩ := hrel
        by_cases hle : N ≤ 16
        · have HS : Hid (outr xs (n + 1) = inr xs N (2 * C) (outr xs n).2 xs.length) := Lib.hid (by rw [outr_succ, ← hI.out.1, ← hI.out.2.1])
          have hb0 : Hid (Blk wr w.heap.size (inr xs N (2 * C) (outr xs n).2 0).2) := Lib.hid hI.out.2.2
          have HOL := Lib.hid (outr_len xs n)
          have HT : Hid (0 ≤ (outr xs (n + 1)).1 ∧ (outr xs (n + 1)).1 ≤ 1048576) := Lib.hid (outr_top xs hl2 (n + 1) (by have := hI.out.1; omega))
          have HNn : Hid (N + 1 = ((n + 1 : Nat) : Int) + 1) := Lib.hid (by have := hI.out.1; push_cast; omega)
          clear hI
          obtain ⟨o, ho⟩ : ∃ o, o = (outr xs n).2 := ⟨_, rfl⟩
          rw [← ho] at HS hb0 HOL
          clear ho
          go_wp2
          go_loopw [27, 4] (fun is ds wr => ∃ (i : Nat) (D : Int), i ≤ xs.length ∧ is = .int .i64 i ∧ ds = .int .i64 D ∧ 0 ≤ D ∧ D ≤ 2 * C + i ∧ Hid (D = (inr xs N (2 * C) o i).1 ∧ Blk wr w.heap.size (inr xs N (2 * C) o i).2) ∧ Below w.heap.size w wr) (fun is _ _ => xs.length - (intOf is).toNat)
          case atStart => exact ⟨0, 2 * C, Nat.zero_le _, rfl, by rw [Int.mul_comm], by omega, by omega, Lib.hid ⟨rfl, hb0.out⟩, hbel⟩
          case round =>
            obtain ⟨i, D, hi, rfl, rfl, hD0, hD1, hJ, hbel⟩ := hrel
            by_cases hlt : i < xs.length
            · obtain ⟨b, off, rfl, hb, hc⟩ := Hh.out.cells_ hlt
              have hci := (hbel.cell (p := ⟨b, off + i, none⟩) hb).trans (hc i hlt)
              have HL : Hid ((inr xs N (2 * C) o i).2.length = xs.length) := Lib.hid (by rw [inr_len, HOL.out])
              have hcw := hJ.out.2.cell (i := i) (by have := HL.out; omega)
              have hfw := hJ.out.2.frozen i
              have Hhit := Lib.hid (fun h => inr_hit (xs := xs) (n := N) (c := 2 * C) (o := o) (i := i) h)
              have Hmiss := Lib.hid (fun h => inr_miss (xs := xs) (n := N) (c := 2 * C) (o := o) (i := i) h)
              have HP := Lib.hid (hJ.out.2.put i D)
              have HBel := Lib.hid (hbel.setCell (p := ⟨w.heap.size, i, none⟩) (Nat.le_refl _) (.int .i64 D))
              clear hc
              generalize xs.getD i 0 = x at *
              generalize (List.getD (inr xs N (2 * C) o i).2 i 0) = z at *
              by_cases hx : x = N
              · have hx' : (x == N) = true := by rw [hx]; simp
                have HE := Lib.hid (Hhit.out hx)
                clear hx hbel
                go_wp2
                go_roundw
                case rel => exact ⟨i + 1, D + 1, by omega, by go_num, rfl, by omega, by push_cast; omega, Lib.hid ⟨by rw [HE.out, hJ.out.1], by rw [HE.out, ← hJ.out.1]; exact HP.out⟩, HBel.out⟩
                case measure => simp [intOf]; omega
              · have hx' : (x == N) = false := beq_eq_false_iff_ne.2 hx
                have HE := Lib.hid (Hmiss.out hx)
                clear hx HBel
                go_wp2
                go_roundw
                case rel => exact ⟨i + 1, D, by omega, by go_num, rfl, by omega, by push_cast; omega, Lib.hid ⟨by rw [HE.out]; exact hJ.out.1, by rw [HE.out]; exact hJ.out.2⟩, hbel⟩
                case measure => simp [intOf]; omega
            · have hi' : i = xs.length := by omega
              have HJ : Hid (D = (outr xs (n + 1)).1 ∧ Blk wr w.heap.size (outr xs (n + 1)).2) := Lib.hid (by rw [HS.out, ← hi']; exact hJ.out)
              have hD2 : D ≤ 1048576 := by rw [HJ.out.1]; exact HT.out.2
              clear hi' hJ
              go_wp2
              go_roundw
              case rel => exact ⟨n + 1, N + 1, D, rfl, rfl, by omega, by omega, hD0, hD2, Lib.hid ⟨HNn.out, HJ.out⟩, hbel⟩
              case measure => simp [intOf]; omega
        · have HE : Hid (n = 16) := Lib.hid (by have := hI.out.1; omega)
          have HB := Lib.hid hI.out.2.2
          clear hI
          go_wp2
          go_ret
          have h := HB.out.own (Nat.le_refl _) (by rw [outr_len]; unfold maxLen; omega)
          rw [HE.out, outr_len] at h
          exact ⟨_, rfl, by rw [HN.out]; exact h, hbel⟩
end Go.Proofs.Ytakloadpmpffdaa
