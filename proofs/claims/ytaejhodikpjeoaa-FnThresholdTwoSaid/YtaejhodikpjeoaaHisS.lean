/- Contracts of histogram and HistogramOf in the model. -/
import Derived.Test.YtaejhodikpjeoaaHisI
import Derived.Test.YtaejhodikpjeoaaImgB
namespace Go.Proofs.Ytaejhodikpjeoaa
open Go.RowKit Go.Shelf
set_option linter.unusedSimpArgs false
set_option linter.unusedVariables false
set_option maxRecDepth 20000

set_option maxHeartbeats 8000000 in
theorem histogram_any (A : Option Addr) (c : Nat) (xs : List Int) (w : World) (hx : Rds .i64 w w.heap.size A xs) (hl : xs.length ≤ 2000000) (hb : ∀ j, j < xs.length → 0 ≤ xs.getD j 0 ∧ xs.getD j 0 ≤ 255) :
    Calls Try.prog 15 #[.slice A xs.length c] w fun e w' => ∃ v, e = .returned v ∧ Own w' w.heap.size v (hist xs) ∧ Below w.heap.size w w' := by
  have HX := Lib.hid hx
  have HB := Lib.hid hb
  clear hx hb
  obtain ⟨Z, hZ⟩ : ∃ Z, Z = row (zeros 256) := ⟨_, rfl⟩
  have hmk : ∀ W : World, (Instr.makeSlice 22 (.int .i64 256) (.int .i64 256)).run Try.prog W = .ok (.slice (some ⟨W.heap.size, 0, none⟩) 256 256) (W.alloc (.cells Z 3)) := fun W => by rw [hZ]; exact make_ints 256 (by omega) W
  have H0 : Hid (GS w (w.alloc (.cells Z 3)) [] (⟨w.heap.size, 3, row (hist (xs.take 0))⟩ :: [])) := Lib.hid (by rw [List.take_zero, hist_nil]; have := (GS.start w).box' 3 Z w.heap.size rfl; rw [hZ] at this ⊢; exact this)
  clear hZ
  go_enter Try.func15, Try.ntmps15
  go_wp2
  clear hmk
  go_loopw [4] (fun i wr => ∃ j : Nat, j ≤ xs.length ∧ i = .int .i64 j ∧ Hid (GS w wr [] (⟨w.heap.size, 3, row (hist (xs.take j))⟩ :: []))) (fun i _ => xs.length - (intOf i).toNat)
  case atStart => exact ⟨0, Nat.zero_le _, rfl, H0⟩
  case round =>
    clear H0
    obtain ⟨j, hj, rfl, hI⟩ := hrel
    by_cases hlt : j < xs.length
    · have hbj := HB.out j hlt
      obtain ⟨n, hne⟩ : ∃ n : Nat, xs.getD j 0 = n := ⟨(xs.getD j 0).toNat, by omega⟩
      obtain ⟨b, off, rfl, hb1, hc⟩ := (hI.out.arg HX.out).cells_ hlt
      obtain ⟨b', off', he', hb2, _⟩ := HX.out.cells_ hlt
      have hcj := hc j hlt
      rw [hne] at hcj hbj
      have hn6 : n < 256 := by omega
      have hn7 : (n : Int) < 256 := by omega
      have hne1 : ¬ b = w.heap.size := by
        have : b = b' := by simpa using congrArg (fun (o : Option Addr) => o.map (·.block)) he'
        omega
      have hcw := (hI.out.blk (List.Mem.head _)).cell (i := n) (by rw [hist_len]; exact hn6)
      have hfw := (hI.out.blk (List.Mem.head _)).frozen n
      have HN := Lib.hid (hI.out.drew.setB n ((hist (xs.take j)).getD n 0 + 1))
      have hbd := hist_bd (xs.take j) n
      have htl : (xs.take j).length = j := by simp; omega
      rw [htl] at hbd
      have HE : Hid ((hist (xs.take j)).set n ((hist (xs.take j)).getD n 0 + 1) = hist (xs.take (j + 1))) := Lib.hid (by rw [take_snoc xs j hlt, hne]; exact hist_step _ n hn6)
      rw [HE.out] at HN
      clear hc hI htl HE hne he' hb2
      generalize (hist (xs.take j)).getD n 0 = y at *
      go_wp2
      go_region
      all_goals
        (try go_wp2)
        go_roundw
        case rel => exact ⟨j + 1, by omega, by go_num, HN⟩
        case measure => simp [intOf]; omega
    · have hj' : j = xs.length := by omega
      have e : xs.take j = xs := by subst hj'; exact List.take_length
      rw [e] at hI
      clear e hj'
      have hO := (hI.out.blk (List.Mem.head _)).ownA (Nat.le_refl _) (by rw [hist_len]; omega)
      rw [hist_len] at hO
      have HO := Lib.hid hO
      clear hO
      go_wp2
      go_ret
      exact ⟨_, rfl, by have := HO.out; unfold Own; rw [hist_len]; exact this, hI.out.below⟩
end Go.Proofs.Ytaejhodikpjeoaa
