/- Contracts of UnpackRow in the program. -/
import Derived.Test.YtaieialjpiojeaaUnpack
namespace Go.Proofs.Ytaieialjpiojeaa
open Go.RowKit
set_option linter.unusedSimpArgs false
set_option linter.unusedVariables false

/-- Block g holds a reader of the bytes bs, done bits of them. -/
def BR (w : World) (g : Nat) (A : Option Addr) (n cp done : Nat) : Prop := w.heap[g]? = some (.cells #[.slice A n cp, .int .i64 done] 65 (0, 0))
def Took (x : Int) (g : Nat) (A : Option Addr) (n cp done : Nat) (w : World) (e : Ending) (w' : World) : Prop :=
  e = .returned (.int .i64 x) ∧ BR w' g A n cp done ∧ w.grownBy w' (some g) ∧ w'.heap.size = w.heap.size

set_option maxHeartbeats 4000000 in
theorem take_any (A : Option Addr) (cp : Nat) (bs : List Int) (D k g : Nat) (w : World) (h : Rds .i64 w g A bs) (hD : Dep D) (hk : k ≤ 64) (hidx : k * D / 8 < bs.length) (hB : BR w g A bs.length cp (k * D)) :
    Calls Try.prog 67 #[.pointer (some ⟨g, 0, none⟩), .int .i64 D] w (Took (un D bs k) g A bs.length cp ((k + 1) * D) w) := by
  obtain ⟨b, off, rfl, hb, hcell⟩ := h.cells_ hidx
  have hck := hcell _ hidx
  have HU : Hid (bs.getD (k * D / 8) 0 / 2 ^ (8 - D - k * D % 8) % 2 ^ D = un D bs k) := Lib.hid rfl
  have hd8 := dep_le hD
  have hp := dep_pow hD
  have hroom : (D : Int) + ((k : Int) * (D : Int)) % 8 ≤ 8 := by have := dep_room hD k; exact_mod_cast this
  have hk0 : 0 ≤ (k : Int) * (D : Int) := Int.mul_nonneg (by omega) (by omega)
  have hk1 : (k : Int) * (D : Int) ≤ 512 := mul_bdI _ _ hk hd8.2
  have hidx' : (k : Int) * (D : Int) / 8 < (bs.length : Int) := by exact_mod_cast hidx
  have c0 : w.cell? ⟨g, 0, none⟩ = some (.slice (some ⟨b, off, none⟩) bs.length cp) := by simp [cellB hB]
  have c1 : w.cell? ⟨g, 1, none⟩ = some (.int .i64 ((k : Int) * (D : Int))) := by simp [cellB hB]
  have f1 := frozenB hB 1
  have HD := Lib.hid hD
  have HB := Lib.hid hB
  have HA : Hid (∀ x : Int, bits .and .i64 x (2 ^ D - 1) = x % 2 ^ D) := Lib.hid (and_mod hD)
  have He : Hid ((((k + 1) * D : Nat) : Int) = (k : Int) * (D : Int) + (D : Int)) := Lib.hid (by rw [succ_mul']; push_cast; rfl)
  clear hcell h hD hB
  generalize bs.getD (k * D / 8) 0 = y at *
  go_enter Try.func67, Try.ntmps67
  go_wp2
  go_quiet ((go_at_call 61; exact Calls.quiet_of_same ((iTop_any D _ HD.out).mono fun _ _ h => ⟨h.1, h.2.symm⟩)))
  go_wp2
  go_ret
  refine ⟨ret_int (by rw [HA.out, HU.out]), ?_, ?_, by simp [World.setCell, World.drewN]⟩
  · exact (setB HB.out 1 _).trans (by simp [He.out])
  · exact ⟨rfl, rfl, rfl, by simp [World.setCell, World.drewN], fun i _ hne => heap_setCell_other w ⟨g, 1, none⟩ i _ (fun e => hne (by simp [e]))⟩

set_option maxHeartbeats 1000000 in
theorem packedSize_any (C D : Nat) (w : World) (hC : C ≤ 64) (hD : D ≤ 8) : Calls Try.prog 66 #[.int .i64 C, .int .i64 D] w fun e w' => e = .returned (.int .i64 (((C : Int) * (D : Int) + 7) / 8)) ∧ w = w' := by
  have hm0 : 0 ≤ (C : Int) * (D : Int) := Int.mul_nonneg (by omega) (by omega)
  have hm1 : (C : Int) * (D : Int) ≤ 512 := mul_bdI _ _ hC hD
  go_enter Try.func66, Try.ntmps66
  go_wp2
  go_ret
  exact ⟨ret_int (by omega), rfl⟩
theorem uns_set (D : Nat) (bs : List Int) (C k : Nat) (hk : k < C) : (uns D bs k ++ zeros (C - k)).set k (un D bs k) = uns D bs (k + 1) ++ zeros (C - (k + 1)) := by
  rw [List.set_append_right _ _ (by rw [uns_len]; omega), uns_succ, uns_len, Nat.sub_self, List.append_assoc]
  congr 1
  unfold zeros
  rw [show C - k = (C - (k + 1)) + 1 by omega, List.replicate_succ]
  rfl
theorem pack_fits {D : Nat} (hD : Dep D) {xs : List Int} (h : Fits D xs) (hl : xs.length ≤ 64) (hv : vd D = true) : pack xs D = pk D xs := by
  unfold pack
  rw [if_pos ⟨hv, hl, by rw [Int.toNat_natCast]; exact allB_of_fits h⟩, Int.toNat_natCast]
set_option maxHeartbeats 8000000 in
theorem i_UnpackRow (A : Option Addr) (cp : Nat) (bs : List Int) (d c : Int) (w : World) (h : Rds .i64 w w.heap.size A bs) (hl : bs.length ≤ 10000000) :
    Calls Try.prog 35 #[.slice A bs.length cp, .int .i64 d, .int .i64 c] w (Unp bs d c w) := by
  have Hh := Lib.hid h
  clear h
  by_cases hv : vd d = true
  · obtain ⟨D, rfl, hD⟩ := vd_nat hv
    have hp := dep_pow hD
    have HD := Lib.hid hD
    have hd8 := dep_le hD
    have Hv := Lib.hid hv
    clear hD
    by_cases hc : 0 ≤ c ∧ c ≤ 64
    · obtain ⟨C, rfl⟩ := Int.eq_ofNat_of_zero_le hc.1
      have hC : C ≤ 64 := by omega
      have hdc : decide (0 ≤ (C : Int) ∧ (C : Int) ≤ 64) = true := decide_eq_true hc
      have hm0 : 0 ≤ (C : Int) * (D : Int) := Int.mul_nonneg (by omega) (by omega)
      have hm1 : (C : Int) * (D : Int) ≤ 512 := mul_bdI _ _ hC hd8.2
      clear hc
      by_cases hlen : bs.length = sz D C
      · have hne : ((bs.length : Int) != ((C : Int) * (D : Int) + 7) / 8) = false := by rw [← sz_cast, hlen]; simp
        have hlenI : (bs.length : Int) = ((C : Int) * (D : Int) + 7) / 8 := by rw [← sz_cast, hlen]
        have Hlen := Lib.hid hlen
        have HlenI := Lib.hid hlenI
        have hmk := fun W => make_ints C (by omega) W
        clear hlen hlenI
        go_enter Try.func35, Try.ntmps35
        go_wp2_with fail
        refine (iValidDepth_any D w).mono ?_
        rintro e w' ⟨rfl, rfl⟩
        go_wp2_with fail
        refine (iInRange_any _ _ _ w).mono ?_
        rintro e w' ⟨rfl, rfl⟩
        rw [hdc]
        go_wp2_with fail
        refine (packedSize_any C D w hC hd8.2).mono ?_
        rintro e w' ⟨rfl, rfl⟩
        have HB0 : Hid (BR ((w.alloc (.cells #[.slice A bs.length cp, .int .i64 0] 65)).alloc (.cells (row (zeros C)) 3)) w.heap.size A bs.length cp 0) := Lib.hid ((Below.heap_alloc _ _ _ (by simp)).trans (heap_alloc_new w _))
        have HK0 := Lib.hid (Blk.new (w.alloc (.cells #[.slice A bs.length cp, .int .i64 0] 65)) (zeros C))
        go_wp2
        clear hne hdc hv hmk
        go_loopw [33] (fun i wr => ∃ k : Nat, k ≤ C ∧ i = .int .i64 k ∧ BR wr w.heap.size A bs.length cp (k * D) ∧ Blk wr (w.heap.size + 1) (uns D bs k ++ zeros (C - k)) ∧ Below w.heap.size w wr ∧ Hid (wr.heap.size = w.heap.size + 2)) (fun i _ => C - (intOf i).toNat)
        case atStart => exact ⟨0, Nat.zero_le _, rfl, by simpa using HB0.out, by simpa [uns] using HK0.out, ((Below.refl _ _).alloc (Nat.le_refl _) _).alloc (by simp) _, Lib.hid (by simp)⟩
        case round =>
          obtain ⟨k, hk, rfl, hB, hK, hbel, hS⟩ := hrel
          have hR := Hh.out.below hbel
          by_cases hlt : k < C
          · have hidx : k * D / 8 < bs.length := by
              have := Nat.mul_le_mul_right D hlt
              rw [Nat.succ_mul] at this
              rw [Hlen.out]; unfold sz; omega
            have Ht := Lib.hid (take_any A cp bs D k w.heap.size wr hR HD.out (by omega) hidx hB)
            have hlenK : (uns D bs k ++ zeros (C - k)).length = C := by simp [uns, zeros]; omega
            have HlenK := Lib.hid hlenK
            have HK := Lib.hid hK
            clear hB hK hlenK hR hidx
            go_wp2_with fail
            refine Ht.out.mono ?_
            rintro e w2 ⟨rfl, hB2, hG2, hS2⟩
            have hK2 : Blk w2 (w.heap.size + 1) (uns D bs k ++ zeros (C - k)) := HK.out.grown hG2 (by simp)
            have hcw := hK2.cell (i := k) (by rw [HlenK.out]; exact hlt)
            have hfw := hK2.frozen k
            have hput := hK2.put k (un D bs k)
            rw [uns_set D bs C k hlt] at hput
            have HP := Lib.hid hput
            have HB2 : Hid (BR (w2.setCell ⟨w.heap.size + 1, k, none⟩ (.int .i64 (un D bs k))) w.heap.size A bs.length cp ((k + 1) * D)) := Lib.hid ((heap_setCell_other w2 ⟨w.heap.size + 1, k, none⟩ w.heap.size _ (by simp)).trans hB2)
            have hbel2 : Below w.heap.size w w2 := hbel.grown hG2 (by have := hS.out; omega) (by simp)
            have HBel2 := Lib.hid (hbel2.setCell (p := ⟨w.heap.size + 1, k, none⟩) (by simp) (.int .i64 (un D bs k)))
            have HS2 : Hid ((w2.setCell ⟨w.heap.size + 1, k, none⟩ (.int .i64 (un D bs k))).heap.size = w.heap.size + 2) := Lib.hid (by simp [World.setCell]; rw [hS2]; exact hS.out)
            clear hput hK2 hB2 hG2 hS2 hbel2 Ht
            generalize (List.getD (uns D bs k ++ zeros (C - k)) k 0) = y at *
            generalize un D bs k = x at *
            go_wp2
            go_roundw
            case rel => exact ⟨k + 1, by omega, by go_num, HB2.out, HP.out, HBel2.out, HS2⟩
            case measure => simp [intOf]; omega
          · have hk' : k = C := by omega
            have Hk := Lib.hid hk'
            have hK' : Blk wr (w.heap.size + 1) (uns D bs k) := by
              have e : uns D bs k ++ zeros (C - k) = uns D bs k := by rw [hk']; simp [zeros]
              rw [e] at hK; exact hK
            have hul : (uns D bs k).length ≤ 64 := by rw [uns_len]; omega
            have hO := hK'.own (base := w.heap.size) (by omega) (by unfold maxLen; omega)
            have hCl : C = (uns D bs k).length := by rw [uns_len, hk']
            have hO2 : Own wr w.heap.size (.slice (some ⟨w.heap.size + 1, 0, none⟩) C C) (uns D bs k) := by rw [hCl]; exact hO
            have hsz := hbel.size
            have HR := Lib.hid (hR.more hsz)
            have Hcall := Lib.hid (i_PackRow (some ⟨w.heap.size + 1, 0, none⟩) C (uns D bs k) D wr hO2.rds.2 (by omega))
            rw [← hCl, pack_fits HD.out (uns_fits D bs k) hul Hv.out] at Hcall
            clear hk' hO hCl hK hK' hB
            go_wp2_with fail
            refine Hcall.out.mono ?_
            rintro e w1 ⟨v1, rfl, hO1, hB1⟩
            obtain ⟨A2, c2, rfl, hc2⟩ := hO1.slice
            have hpl : (pk D (uns D bs k)).length ≤ 64 := by
              unfold pk; rw [pkTo_len]; have := mul_bd _ D hul hd8.2; unfold sz; omega
            have hO' := hO2.below hB1 (Nat.le_refl _)
            have hbel1 := hbel.trans (hB1.mono hsz)
            have HR1 := Lib.hid ((HR.out.below hB1).more hB1.size)
            go_wp2_with fail
            refine (slicesEqual_any A2 A c2 cp _ bs _ _ w1 hO1.rds.2 HR1.out (by omega) (by omega)).mono ?_
            rintro e w2 ⟨rfl, n2, rfl⟩
            by_cases hpk : pk D (uns D bs k) = bs
            · have hdec : decide (pk D (uns D bs k) = bs) = true := decide_eq_true hpk
              have HOK : Hid (unOk bs D C = true) := Lib.hid (decide_eq_true ⟨Hv.out, by omega, by omega, HlenI.out, by rw [Int.toNat_natCast, Int.toNat_natCast, ← Hk.out]; exact hpk⟩)
              have HUL : Hid (unList bs D C = uns D bs k) := Lib.hid (by unfold unList; rw [HOK.out, if_pos rfl, Int.toNat_natCast, Int.toNat_natCast, Hk.out])
              rw [hdec]
              clear hdec hpk hO1 hO2
              go_wp2
              go_ret2
              exact ⟨_, by rw [HOK.out]; rfl, by rw [HUL.out]; exact hO'.drewN n2, ⟨hbel1.os, hbel1.tape, hbel1.output, hbel1.size, hbel1.block⟩⟩
            · have hdec : decide (pk D (uns D bs k) = bs) = false := decide_eq_false hpk
              have HOK : Hid (unOk bs D C = false) := Lib.hid (decide_eq_false (fun h => hpk (by have := h.2.2.2.2; rw [Int.toNat_natCast, Int.toNat_natCast, ← Hk.out] at this; exact this)))
              rw [hdec]
              clear hdec hpk hO1 hO2
              go_wp2
              go_ret2
              exact unp_no HOK.out ⟨hbel1.os, hbel1.tape, hbel1.output, hbel1.size, hbel1.block⟩
      · have hne : ((bs.length : Int) != ((C : Int) * (D : Int) + 7) / 8) = true := bne_iff_ne.2 (by rw [← sz_cast]; omega)
        have HOK : Hid (unOk bs D C = false) := Lib.hid (decide_eq_false (fun h => hlen (by have := h.2.2.2.1; rw [← sz_cast] at this; omega)))
        clear hlen
        go_enter Try.func35, Try.ntmps35
        go_wp2_with fail
        refine (iValidDepth_any D w).mono ?_
        rintro e w' ⟨rfl, rfl⟩
        go_wp2_with fail
        refine (iInRange_any _ _ _ w).mono ?_
        rintro e w' ⟨rfl, rfl⟩
        rw [hdc]
        go_wp2_with fail
        refine (packedSize_any C D w hC hd8.2).mono ?_
        rintro e w' ⟨rfl, rfl⟩
        go_wp2
        go_ret2
        exact unp_no HOK.out (Below.refl _ _)
    · have hdc : decide (0 ≤ c ∧ c ≤ 64) = false := decide_eq_false hc
      have HOK : Hid (unOk bs D c = false) := Lib.hid (decide_eq_false (fun h => hc ⟨h.2.1, h.2.2.1⟩))
      clear hc
      go_enter Try.func35, Try.ntmps35
      go_wp2_with fail
      refine (iValidDepth_any D w).mono ?_
      rintro e w' ⟨rfl, rfl⟩
      go_wp2_with fail
      refine (iInRange_any _ _ _ w).mono ?_
      rintro e w' ⟨rfl, rfl⟩
      rw [hdc]
      go_wp2
      go_ret2
      exact unp_no HOK.out (Below.refl _ _)
  · have hv' : vd d = false := by simpa using hv
    have HOK : Hid (unOk bs d c = false) := Lib.hid (decide_eq_false (fun h => hv h.1))
    clear hv
    go_enter Try.func35, Try.ntmps35
    go_wp2_with fail
    refine (iValidDepth_any d w).mono ?_
    rintro e w' ⟨rfl, rfl⟩
    go_wp2
    go_ret2
    exact unp_no HOK.out (Below.refl _ _)
end Go.Proofs.Ytaieialjpiojeaa
