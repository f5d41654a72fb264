/- Contracts of validPlane, countsOf and HistogramOf in the program. -/
import Derived.Test.YtaejhodikpjeoaaHisA
import Derived.Test.YtaejhodikpjeoaaMapI
namespace Go.Proofs.Ytaejhodikpjeoaa
open Go.RowKit Go.Shelf
set_option linter.unusedSimpArgs false
set_option linter.unusedVariables false
set_option maxRecDepth 20000

/-- Whether an image is valid and has one plane. -/
def vpl (W H P : Int) (xs : List Int) : Bool := vim W H P xs && decide (P = 1)
set_option maxHeartbeats 8000000 in
theorem iVplane_any (W H P : Int) (A : Option Addr) (c : Nat) (xs : List Int) (w : World) (hx : Rds .i64 w w.heap.size A xs) (hl : xs.length ≤ 2000000) :
    Calls Try.prog 19 #[.agg #[.int .i64 W, .int .i64 H, .int .i64 P, .slice A xs.length c]] w fun e w' => e = .returned (.bool (vpl W H P xs)) ∧ Below w.heap.size w w' := by
  have HX := Lib.hid hx
  have HV : Hid (vpl W H P xs = (vim W H P xs && decide (P = 1))) := Lib.hid rfl
  clear hx
  have S0 := (GS.start w).box' 27 #[.int .i64 W, .int .i64 H, .int .i64 P, .slice A xs.length c] w.heap.size (by simp)
  go_enter Try.func19, Try.ntmps19
  go_wp2_with fail
  generalize (w.alloc (.cells #[.int .i64 W, .int .i64 H, .int .i64 P, .slice A xs.length c] 27)) = u0 at *
  refine (iVimg_any W H P A c xs u0 (S0.arg HX.out) hl).mono ?_
  rintro e u1 ⟨rfl, hB⟩
  have S1 := S0.call hB
  clear hB S0
  cases hv : vim W H P xs
  · have HF : Hid (vpl W H P xs = false) := Lib.hid (by rw [HV.out, hv]; rfl)
    clear HV hv
    go_wp2
    go_ret
    exact ⟨ret_bool HF.out.symm, S1.below⟩
  · have HF : Hid (vpl W H P xs = decide (P = 1)) := Lib.hid (by rw [HV.out, hv]; rfl)
    clear HV hv
    obtain ⟨b0, b1, b2, b3⟩ := S1.b0_4
    by_cases h1 : P = 1
    all_goals
      go_wp2
      go_ret
      exact ⟨ret_bool (by rw [HF.out]; (first | rfl | (simp [h1]; done))), S1.below⟩
/-- The array of counts that a call answers. -/
def HisA (xs : List Int) (w : World) (e : Ending) (w' : World) : Prop := e = .returned (.agg (row (hist xs))) ∧ Below w.heap.size w w'
set_option maxHeartbeats 8000000 in
theorem counts_any (W H P : Int) (A : Option Addr) (c : Nat) (xs : List Int) (w : World) (hx : Rds .i64 w w.heap.size A xs) (hl : xs.length ≤ 2000000) (hb : ∀ j, j < xs.length → 0 ≤ xs.getD j 0 ∧ xs.getD j 0 ≤ 255) :
    Calls Try.prog 20 #[.agg #[.int .i64 W, .int .i64 H, .int .i64 P, .slice A xs.length c]] w (HisA xs w) := by
  have HX := Lib.hid hx
  have HB := Lib.hid hb
  clear hx hb
  obtain ⟨hz, hi⟩ := zero_of_info (P := Try.prog) (t := 43) (v := .agg (row (zeros 256))) (n := 256) (by kernel_rfl)
  obtain ⟨Z, hZ⟩ : ∃ Z, Z = row (zeros 256) := ⟨_, rfl⟩
  rw [← hZ] at hz
  have HZ := Lib.hid hZ
  have HI := Lib.hid hi
  clear hZ hi
  have S0 := (((GS.start w).box' 27 #[.int .i64 W, .int .i64 H, .int .i64 P, .slice A xs.length c] w.heap.size (by simp)).box' 43 Z (w.heap.size + 1) (by simp)).box' 43 Z (w.heap.size + 1 + 1) (by simp)
  have HS := Lib.hid S0
  obtain ⟨b0, b1, b2, b3⟩ := S0.b2_4
  clear S0
  go_enter Try.func20, Try.ntmps20
  go_wp2
  generalize ((w.alloc (.cells #[.int .i64 W, .int .i64 H, .int .i64 P, .slice A xs.length c] 27)).alloc (.cells Z 43)).alloc (.cells Z 43) = u0 at *
  obtain ⟨q, hq⟩ : ∃ q, q = w.heap.size + 1 + 1 := ⟨_, rfl⟩
  rw [← hq] at HS ⊢
  have Hq := Lib.hid hq
  have H0 : Hid (GS w u0 [] (⟨q, 43, row (hist (xs.take 0))⟩ :: ⟨w.heap.size + 1, 43, Z⟩ :: ⟨w.heap.size, 27, #[.int .i64 W, .int .i64 H, .int .i64 P, .slice A xs.length c]⟩ :: [])) := Lib.hid (by rw [List.take_zero, hist_nil]; have := HS.out; rw [HZ.out] at this ⊢; exact this)
  clear HS b0 b1 b2 b3 hz hq
  go_loopw [9] (fun i wr => ∃ j : Nat, j ≤ xs.length ∧ i = .int .i64 j ∧ Hid (GS w wr [] (⟨q, 43, row (hist (xs.take j))⟩ :: ⟨w.heap.size + 1, 43, Z⟩ :: ⟨w.heap.size, 27, #[.int .i64 W, .int .i64 H, .int .i64 P, .slice A xs.length c]⟩ :: []))) (fun i _ => xs.length - (intOf i).toNat)
  case atStart => exact ⟨0, Nat.zero_le _, rfl, H0⟩
  case round =>
    clear H0
    obtain ⟨j, hj, rfl, hI⟩ := hrel
    by_cases hlt : j < xs.length
    · have hbj := HB.out j hlt
      obtain ⟨n, hne⟩ : ∃ n : Nat, xs.getD j 0 = n := ⟨(xs.getD j 0).toNat, by omega⟩
      obtain ⟨b, off, rfl, hb1, hc⟩ := (hI.out.arg HX.out).cells_ hlt
      have hcj := hc j hlt
      rw [hne] at hcj hbj
      have hn6 : n < 256 := by omega
      have hcw := (hI.out.blk (List.Mem.head _)).cell (i := n) (by rw [hist_len]; exact hn6)
      have hfw := (hI.out.blk (List.Mem.head _)).frozen n
      have HN := Lib.hid (hI.out.setB n ((hist (xs.take j)).getD n 0 + 1))
      have hbd := hist_bd (xs.take j) n
      have htl : (xs.take j).length = j := by simp; omega
      rw [htl] at hbd
      have HE : Hid ((hist (xs.take j)).set n ((hist (xs.take j)).getD n 0 + 1) = hist (xs.take (j + 1))) := Lib.hid (by rw [take_snoc xs j hlt, hne]; exact hist_step _ n hn6)
      rw [HE.out] at HN
      clear hc hI htl HE hne
      generalize (hist (xs.take j)).getD n 0 = y at *
      go_wp2
      go_roundw
      case rel => exact ⟨j + 1, by omega, by go_num, HN⟩
      case measure => simp [intOf]; omega
    · have hj' : j = xs.length := by omega
      have e : xs.take j = xs := by subst hj'; exact List.take_length
      rw [e] at hI
      clear e hj'
      have h0 := hI.out.bx (List.Mem.head _)
      have hsz : (row (hist xs)).size = 256 := by rw [row_size, hist_len]
      have hZs : Z.size = 256 := by rw [HZ.out, row_size, zeros_len]
      have H0 := Lib.hid h0
      have Hz := Lib.hid (show (Try.prog.info? 43).map (·.size) = some (row (hist xs)).size by rw [hsz]; exact HI.out)
      have hst := run_storeCells_row (xs := hist xs) (hI.out.bx (List.mem_cons_of_mem _ (List.Mem.head _))) (by rw [hist_len, hZs])
      have HE := Lib.hid (hI.out.swap.setRow (row (hist xs)))
      clear h0 hsz hZs hI
      go_wp2
      refine wp_load_row 43 (.tmp 3) rfl q rfl 43 (row (hist xs)) (0, 0) _ H0.out Try.underlying43 rfl Hz.out ?_
      go_at_K
      go_wp2
      refine bodyPost_ret (v := .agg (row (hist xs))) (results_cell_row Try.results20 _ _ (w.heap.size + 1) 43 _ (0, 0) _ rfl (HE.out.bx (List.Mem.head _)) Try.underlying43 rfl Hz.out) rfl ⟨rfl, HE.out.below⟩
end Go.Proofs.Ytaejhodikpjeoaa
