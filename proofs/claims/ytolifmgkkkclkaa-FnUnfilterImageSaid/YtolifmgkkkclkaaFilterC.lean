/- Contracts of valid rows and of filtered rows, in the model and in the program. -/
import Derived.Test.YtolifmgkkkclkaaFilterB
import Derived.Deep.RegionLaw
import Derived.StillTailTactics
namespace Go.Proofs.Ytolifmgkkkclkaa
open Go.RowKit
set_option linter.unusedSimpArgs false
set_option linter.unusedVariables false

/-- Whether rows can be filtered. -/
def rok (xs bs : List Int) (st : Int) : Bool := decide (xs.length ≤ 64 ∧ bs.length = xs.length ∧ (1 ≤ st ∧ st ≤ 4) ∧ allB 0 255 xs = true ∧ allB 0 255 bs = true)
theorem rok_no {xs bs : List Int} {st : Int} (h : ¬ (xs.length ≤ 64 ∧ bs.length = xs.length ∧ (1 ≤ st ∧ st ≤ 4) ∧ allB 0 255 xs = true ∧ allB 0 255 bs = true)) : rok xs bs st = false := decide_eq_false h
set_option maxHeartbeats 2000000 in
theorem iRows_any (A A' : Option Addr) (c c' B B' : Nat) (xs bs : List Int) (st : Int) (w : World) (hx : Rds .i64 w B A xs) (hb : Rds .i64 w B' A' bs) (hl : xs.length ≤ 10000000) (hl' : bs.length ≤ 10000000) :
    Calls Try.prog 46 #[.slice A xs.length c, .slice A' bs.length c', .int .i64 st] w fun e w' => e = .returned (.bool (rok xs bs st)) ∧ w = w' := by
  have Hx := Lib.hid hx
  have Hb := Lib.hid hb
  clear hx hb
  by_cases h64 : xs.length ≤ 64
  · by_cases hlen : bs.length = xs.length
    · have hq : ((bs.length : Int) == (xs.length : Int)) = true := by rw [hlen]; simp
      by_cases hst : 1 ≤ st ∧ st ≤ 4
      · have hsd : decide (1 ≤ st ∧ st ≤ 4) = true := decide_eq_true hst
        cases ha : allB 0 255 xs
        · have HR := Lib.hid (rok_no (xs := xs) (bs := bs) (st := st) (fun h => by rw [h.2.2.2.1] at ha; cases ha))
          clear hlen hst
          go_enter Try.func46, Try.ntmps46
          go_wp2_with fail
          refine (iIn_any _ _ _ _).mono ?_
          rintro e w' ⟨rfl, rfl⟩
          rw [hsd]
          go_wp2_with fail
          refine (areBytes_any A c _ xs _ Hx.out hl).mono ?_
          rintro e w' ⟨rfl, rfl⟩
          go_wp2
          go_ret
          exact ⟨ret_bool HR.out.symm, rfl⟩
        · cases hab : allB 0 255 bs
          · have HR := Lib.hid (rok_no (xs := xs) (bs := bs) (st := st) (fun h => by rw [h.2.2.2.2] at hab; cases hab))
            clear hlen hst
            go_enter Try.func46, Try.ntmps46
            go_wp2_with fail
            refine (iIn_any _ _ _ _).mono ?_
            rintro e w' ⟨rfl, rfl⟩
            rw [hsd]
            go_wp2_with fail
            refine (areBytes_any A c _ xs _ Hx.out hl).mono ?_
            rintro e w' ⟨rfl, rfl⟩
            go_wp2_with fail
            refine (areBytes_any A' c' _ bs _ Hb.out hl').mono ?_
            rintro e w' ⟨rfl, rfl⟩
            go_wp2
            go_ret
            exact ⟨ret_bool HR.out.symm, rfl⟩
          · have HR : Hid (rok xs bs st = true) := Lib.hid (decide_eq_true ⟨h64, hlen, hst, ha, hab⟩)
            clear hlen hst
            go_enter Try.func46, Try.ntmps46
            go_wp2_with fail
            refine (iIn_any _ _ _ _).mono ?_
            rintro e w' ⟨rfl, rfl⟩
            rw [hsd]
            go_wp2_with fail
            refine (areBytes_any A c _ xs _ Hx.out hl).mono ?_
            rintro e w' ⟨rfl, rfl⟩
            go_wp2_with fail
            refine (areBytes_any A' c' _ bs _ Hb.out hl').mono ?_
            rintro e w' ⟨rfl, rfl⟩
            go_wp2
            go_ret
            exact ⟨ret_bool HR.out.symm, rfl⟩
      · have hsd : decide (1 ≤ st ∧ st ≤ 4) = false := decide_eq_false hst
        have HR := Lib.hid (rok_no (xs := xs) (bs := bs) (st := st) (fun h => hst h.2.2.1))
        clear hlen hst
        go_enter Try.func46, Try.ntmps46
        go_wp2_with fail
        refine (iIn_any _ _ _ _).mono ?_
        rintro e w' ⟨rfl, rfl⟩
        rw [hsd]
        go_wp2
        go_ret
        exact ⟨ret_bool HR.out.symm, rfl⟩
    · have hq : ((bs.length : Int) == (xs.length : Int)) = false := beq_eq_false_iff_ne.2 (by omega)
      have HR := Lib.hid (rok_no (xs := xs) (bs := bs) (st := st) (fun h => hlen h.2.1))
      clear hlen
      go_enter Try.func46, Try.ntmps46
      go_wp2
      go_ret
      exact ⟨ret_bool HR.out.symm, rfl⟩
  · have HR := Lib.hid (rok_no (xs := xs) (bs := bs) (st := st) (fun h => h64 h.1))
    go_enter Try.func46, Try.ntmps46
    go_wp2
    go_ret
    exact ⟨ret_bool HR.out.symm, rfl⟩
end Go.Proofs.Ytolifmgkkkclkaa
