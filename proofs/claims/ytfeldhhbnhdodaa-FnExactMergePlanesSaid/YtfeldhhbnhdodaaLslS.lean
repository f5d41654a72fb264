/- The laws' functions on lists of lists: sizes, copies, comparing, marking, holding. -/
import Derived.Test.YtfeldhhbnhdodaaLsl
import Derived.Test.YtfeldhhbnhdodaaSz
import Derived.StillTailTactics
import Derived.Deep.QuietTactic
import Derived.BigQuiet
namespace Go.Proofs.Ytfeldhhbnhdodaa
open Go.RowKit
set_option linter.unusedSimpArgs false
set_option linter.unusedVariables false
set_option maxRecDepth 20000

set_option maxHeartbeats 1000000 in
theorem markRow_any (E : TypeId) (A : Option Addr) (c c' n base : Nat) (xs : List Int) (k : Int) (w : World) (hn : n = xs.length) (h : OwnT E 1 w base (.slice A n c') n xs) (hl : n ≤ 10000000) (hk0 : 0 ≤ k) (hk1 : k ≤ 100000000) :
    Calls Try.prog 46 #[.slice A n c, .int .i64 k] w fun e w' => e = .returned (.int .i64 (k + n)) ∧ OwnT E 1 w' base (.slice A n c') n (marks k n) ∧ w.grownBy w' (Value.slice A n c').ownBlock ∧ w'.heap.size = w.heap.size := by
  subst hn
  by_cases h0 : xs.length = 0
  · obtain rfl : xs = [] := List.eq_nil_of_length_eq_zero h0
    have Hh := Lib.hid h
    clear h h0
    go_enter Try.func46, Try.ntmps46
    go_wp2
    go_loop [1, 5] (fun kk i => kk = .int .i64 k ∧ i = .int .i64 0) (fun _ _ => 0)
    case atStart => exact ⟨rfl, rfl⟩
    case round =>
      obtain ⟨rfl, rfl⟩ := hrel
      go_wp2
      go_ret
      exact ⟨by simp, by simpa [marks] using Hh.out, World.grownBy.refl _ _, rfl⟩
  · obtain ⟨g, cap, hv, hbg, hgl⟩ := h.form (by omega)
    simp only [Value.slice.injEq] at hv
    obtain ⟨rfl, _, rfl⟩ := hv
    have Hh := Lib.hid h
    clear h
    show Calls Try.prog 46 #[.slice (some ⟨g, 0, none⟩) xs.length c, .int .i64 k] w fun e w' => e = .returned (.int .i64 (k + xs.length)) ∧ OwnT E 1 w' base (.slice (some ⟨g, 0, none⟩) xs.length c') xs.length (marks k xs.length) ∧ w.grownBy w' (some g) ∧ w'.heap.size = w.heap.size
    go_enter Try.func46, Try.ntmps46
    go_wp2
    go_loopw [1, 5] (fun kk i wr => ∃ j : Nat, j ≤ xs.length ∧ i = .int .i64 j ∧ kk = .int .i64 (k + j) ∧ OwnT E 1 wr base (.slice (some ⟨g, 0, none⟩) xs.length c') xs.length (marks k j ++ xs.drop j) ∧ w.grownBy wr (some g) ∧ Hid (wr.heap.size = w.heap.size)) (fun _ i _ => xs.length - (intOf i).toNat)
    case atStart => exact ⟨0, Nat.zero_le _, rfl, by simp, by simpa [marks] using Hh.out, World.grownBy.refl _ _, Lib.hid rfl⟩
    case round =>
      obtain ⟨j, hj, rfl, rfl, hO, hG, hS⟩ := hrel
      have hlen : (marks k j ++ xs.drop j).length = xs.length := by simp [marks]; omega
      by_cases hlt : j < xs.length
      · have hcw := hO.cell (j := j) (by omega)
        have hfw := hO.frozen j
        have hp := hO.put j (k + j)
        rw [marks_set k j xs hlt] at hp
        have HP := Lib.hid hp
        clear hp hO hlen
        generalize (List.getD (marks k j ++ xs.drop j) j 0) = y at *
        go_wp2
        go_roundw
        case rel => exact ⟨j + 1, by omega, by go_num, by go_num, HP.out.1, gtrans hG HP.out.2, Lib.hid (by simpa [World.setCell] using hS.out)⟩
        case measure => simp [intOf]; omega
      · have hj' : j = xs.length := by omega
        have HO := Lib.hid hO
        clear hO hlen
        go_wp2
        go_ret
        subst hj'
        exact ⟨rfl, by simpa using HO.out, hG, hS.out⟩
end Go.Proofs.Ytfeldhhbnhdodaa
