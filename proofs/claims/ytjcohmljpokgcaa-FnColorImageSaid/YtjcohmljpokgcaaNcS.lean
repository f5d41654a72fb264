/- The model's nearest color. -/
import Derived.Test.YtjcohmljpokgcaaNcM
import Derived.Test.YtjcohmljpokgcaaImgA
import Derived.Deep.QuietTactic
import Derived.BigQuiet
namespace Go.Proofs.Ytjcohmljpokgcaa
open Go.RowKit
set_option linter.unusedSimpArgs false
set_option linter.unusedVariables false
set_option maxRecDepth 20000

set_option maxHeartbeats 4000000 in
theorem sVcs_any (A : Option Addr) (c n B : Nat) (xss : List (List Int)) (P : Int) (w : World) (hn : n = xss.length) (h : Rdss w B A xss) (hl : tot xss ≤ 2000000) :
    Calls Try.prog 36 #[.slice A n c, .int .i64 P] w fun e w' => e = .returned (.bool (palB xss P)) ∧ w = w' := by
  have Hh := Lib.hid h
  have Hn := Lib.hid hn
  have HL : Hid (∀ i, i < xss.length → (xss.getD i []).length ≤ 2000000) := Lib.hid fun i hi => Nat.le_trans (len_le_tot hi) hl
  have hnl : n ≤ 2000000 := by rw [hn]; unfold tot at hl; omega
  clear h hn hl
  go_enter Try.func36, Try.ntmps36
  go_wp2
  go_loop [5] (fun i => ∃ k : Nat, k ≤ n ∧ i = .int .i64 k ∧ Hid (clN xss P k)) (fun i => n - (intOf i).toNat)
  case atStart => exact ⟨0, Nat.zero_le _, rfl, Lib.hid (fun i hi => by omega)⟩
  case round =>
    obtain ⟨k, hk, rfl, HC⟩ := hrel
    by_cases hlt : k < n
    · have hkl : k < xss.length := by have := Hn.out; omega
      obtain ⟨b, off, Ai, ci, rfl, hb, hci, hc, hr⟩ := Hh.out.at hkl
      have hml := HL.out k hkl
      have HR := Lib.hid hr
      have HNO : Hid ((decide (((xss.getD k []).length : Int) = P) && allB 0 255 (xss.getD k [])) = false → palB xss P = false) := Lib.hid (palB_no hkl)
      have HYES : Hid (((xss.getD k []).length : Int) = P → allB 0 255 (xss.getD k []) = true → clN xss P (k + 1)) := Lib.hid (fun h1 h2 i hi => by
        by_cases e : i = k
        · subst e; exact ⟨h1, h2⟩
        · exact HC.out i (by omega))
      clear hr
      generalize xss.getD k [] = xs at *
      by_cases hp : (xs.length : Int) = P
      · have hb1 : ((xs.length : Int) != P) = false := bne_eq_false_iff_eq.2 hp
        have HP := Lib.hid hp
        clear hp
        go_wp2_with fail
        refine (sAllIn_any Ai ci _ xs 0 255 _ HR.out (by omega)).mono ?_
        rintro e w2 ⟨rfl, rfl⟩
        cases hv : allB 0 255 xs
        · have HF := Lib.hid (HNO.out (by rw [hv, Bool.and_false]))
          clear hv
          go_wp2
          go_ret
          exact ⟨ret_bool HF.out.symm, rfl⟩
        · have HF := Lib.hid (HYES.out HP.out hv)
          clear hv
          go_wp2
          go_round
          case rel => exact ⟨k + 1, by omega, by go_num, HF⟩
          case measure => simp [intOf]; omega
      · have hb1 : ((xs.length : Int) != P) = true := bne_iff_ne.2 hp
        have HF := Lib.hid (HNO.out (by rw [decide_eq_false hp, Bool.false_and]))
        clear hp
        go_wp2
        go_ret
        exact ⟨ret_bool HF.out.symm, rfl⟩
    · have hk' : k = n := by omega
      have HF : Hid (palB xss P = decide ((n : Int) ≤ 16)) := Lib.hid (by
        have hnx := Hn.out
        rw [palB_yes (by rw [← hnx, ← hk']; exact HC.out), ← hnx]
        exact decide_eq_decide.2 (by omega))
      go_wp2
      go_ret
      exact ⟨ret_bool (by rw [HF.out]), rfl⟩
end Go.Proofs.Ytjcohmljpokgcaa
