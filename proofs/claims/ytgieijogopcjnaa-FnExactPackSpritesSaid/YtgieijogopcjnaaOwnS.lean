/- Sizes that a call made: marked and held. -/
import Derived.Test.YtgieijogopcjnaaOwnT
namespace Go.Proofs.Ytgieijogopcjnaa
open Go.RowKit
set_option linter.unusedSimpArgs false
set_option linter.unusedVariables false
set_option maxRecDepth 20000

def MarkedTSize (base : Nat) (v : Value) (n : Nat) (k : Int) (w : World) (e : Ending) (w' : World) : Prop :=
  e = .returned (.int .i64 (k + (n * 2 : Nat))) ∧ OwnT 44 2 w' base v n (marks k (n * 2)) ∧ w.grownBy w' v.ownBlock ∧ w'.heap.size = w.heap.size
set_option maxHeartbeats 4000000 in
theorem markSizeS_any (v : Value) (base n : Nat) (xs : List Int) (k : Int) (w : World) (h : OwnT 44 2 w base v n xs) (hl : n ≤ 2000000) (hk0 : 0 ≤ k) (hk1 : k ≤ 100000000) :
    Calls Try.prog 18 #[v, .int .i64 k] w (MarkedTSize base v n k w) := by
  by_cases h0 : n = 0
  · subst h0
    have hx : xs = [] := List.eq_nil_of_length_eq_zero (by have := h.len; omega)
    subst hx
    obtain ⟨A, c, rfl, _⟩ := h.slice
    have Hh := Lib.hid h
    clear h
    go_enter Try.func18, Try.ntmps18
    go_wp2
    go_loop [1, 5] (fun kk i => kk = .int .i64 k ∧ i = .int .i64 0) (fun _ _ => 0)
    case atStart => exact ⟨rfl, rfl⟩
    case round =>
      obtain ⟨rfl, rfl⟩ := hrel
      go_wp2
      go_ret
      exact ⟨by simp, by simpa [marks] using Hh.out, World.grownBy.refl _ _, rfl⟩
  · obtain ⟨g, cap, rfl, hbg, hgl⟩ := h.form (by omega)
    have HL := Lib.hid h.len
    have Hh := Lib.hid h
    clear h
    go_enter Try.func18, Try.ntmps18
    go_wp2
    go_loopw [1, 5] (fun kk i wr => ∃ j : Nat, j ≤ n ∧ i = .int .i64 j ∧ kk = .int .i64 (k + 2 * j) ∧ Hid (OwnT 44 2 wr base (.slice (some ⟨g, 0, none⟩) n cap) n (marks k (j * 2) ++ xs.drop (j * 2)) ∧ w.grownBy wr (some g) ∧ wr.heap.size = w.heap.size)) (fun _ i _ => n - (intOf i).toNat)
    case atStart => exact ⟨0, Nat.zero_le _, rfl, by simp, Lib.hid ⟨by simpa [marks] using Hh.out, World.grownBy.refl _ _, rfl⟩⟩
    case round =>
      obtain ⟨j, hj, rfl, rfl, hI⟩ := hrel
      by_cases hlt : j < n
      · have l0 : j * 2 < xs.length := by have := HL.out; omega
        have l1 : j * 2 + 1 < xs.length := by have := HL.out; omega
        have hl : (marks k (j * 2) ++ xs.drop (j * 2)).length = xs.length := by simp [marks]; omega
        have hp0 := OwnT.put hI.out.1 (j * 2) (k + ((j * 2 : Nat) : Int))
        rw [marks_set k (j * 2) xs l0] at hp0
        have hp1 := OwnT.put hp0.1 (j * 2 + 1) (k + ((j * 2 + 1 : Nat) : Int))
        rw [marks_set k (j * 2 + 1) xs l1] at hp1
        have c0 := hI.out.1.cell (j := j * 2) (by omega)
        have f0 := hI.out.1.frozen (j * 2)
        have c1 := hI.out.1.cell (j := j * 2 + 1) (by omega)
        have f1 := hI.out.1.frozen (j * 2 + 1)
        have HG := Lib.hid (gtrans (gtrans hI.out.2.1 hp0.2) hp1.2)
        have e0 : k + ((j * 2 : Nat) : Int) = k + 2 * (j : Int) := by push_cast; omega
        have e1 : k + ((j * 2 + 1 : Nat) : Int) = k + 2 * (j : Int) + 1 := by push_cast; omega
        rw [e0, e1] at hp1 HG
        have HP := Lib.hid hp1.1
        have HS := Lib.hid hI.out.2.2
        clear hI hl e0 hp0 l0 e1 hp1 l1
        generalize (List.getD (marks k (j * 2) ++ xs.drop (j * 2)) (j * 2) 0) = y0 at *
        generalize (List.getD (marks k (j * 2) ++ xs.drop (j * 2)) (j * 2 + 1) 0) = y1 at *
        go_wp2
        go_roundw
        case rel => exact ⟨j + 1, by omega, by go_num, by go_num, Lib.hid ⟨by rw [show (j + 1) * 2 = j * 2 + 1 + 1 by omega]; exact HP.out, HG.out, by simpa [World.setCell] using HS.out⟩⟩
        case measure => simp [intOf]; omega
      · have hj' : j = n := by omega
        have HO := Lib.hid hI.out
        have HE : Hid (k + 2 * (j : Int) = k + ((n * 2 : Nat) : Int)) := Lib.hid (by rw [hj']; push_cast; omega)
        have HJ := Lib.hid hj'
        clear hI hj'
        go_wp2
        go_ret
        refine ⟨ret_int HE.out, ?_, HO.out.2.1, HO.out.2.2⟩
        have h1 := HO.out.1
        rw [HJ.out, List.drop_of_length_le (by have := HL.out; omega), List.append_nil] at h1
        exact h1
end Go.Proofs.Ytgieijogopcjnaa
