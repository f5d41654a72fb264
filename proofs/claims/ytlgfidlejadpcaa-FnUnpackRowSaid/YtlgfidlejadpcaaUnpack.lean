/- Contracts of UnpackRow, in the model and in the program. -/
import Derived.Test.YtlgfidlejadpcaaPackI
import Derived.Deep.RegionLaw
namespace Go.Proofs.Ytlgfidlejadpcaa
open Go.RowKit
set_option linter.unusedSimpArgs false
set_option linter.unusedVariables false

/-- Number i of packed bytes. -/
def un (D : Nat) (bs : List Int) (i : Nat) : Int := bs.getD (i * D / 8) 0 / 2 ^ (8 - D - i * D % 8) % 2 ^ D
def uns (D : Nat) (bs : List Int) (n : Nat) : List Int := (List.range n).map (un D bs)
def unOk (bs : List Int) (d c : Int) : Bool := decide (vd d = true ∧ 0 ≤ c ∧ c ≤ 64 ∧ (bs.length : Int) = (c * d + 7) / 8 ∧ pk d.toNat (uns d.toNat bs c.toNat) = bs)
def unList (bs : List Int) (d c : Int) : List Int := if unOk bs d c = true then uns d.toNat bs c.toNat else []
def Unp (bs : List Int) (d c : Int) (w : World) (e : Ending) (w' : World) : Prop :=
  ∃ v, e = .returned (.tuple #[v, .bool (unOk bs d c)]) ∧ Own w' w.heap.size v (unList bs d c) ∧ Below w.heap.size w w'

theorem uns_len (D : Nat) (bs : List Int) (n : Nat) : (uns D bs n).length = n := by simp [uns]
theorem uns_succ (D : Nat) (bs : List Int) (n : Nat) : uns D bs (n + 1) = uns D bs n ++ [un D bs n] := by simp [uns, List.range_succ]
theorem pow_pos' (D : Nat) : (0 : Int) < 2 ^ D := Int.pow_pos (by decide)
theorem un_range (D : Nat) (bs : List Int) (i : Nat) : 0 ≤ un D bs i ∧ un D bs i < 2 ^ D := ⟨Int.emod_nonneg _ (by have := pow_pos' D; omega), Int.emod_lt_of_pos _ (pow_pos' D)⟩
theorem uns_fits (D : Nat) (bs : List Int) (n : Nat) : Fits D (uns D bs n) := by
  intro x hx
  simp only [uns, List.mem_map] at hx
  obtain ⟨i, _, rfl⟩ := hx
  exact un_range D bs i
theorem bt_nonneg {D : Nat} {xs : List Int} (hx : Fits D xs) (k j : Nat) : 0 ≤ bt D xs k j := by
  induction k with
  | zero => simp [bt]
  | succ k ih =>
    simp only [bt]
    have h1 := (hx.get k).1
    have h2 : (0 : Int) ≤ xs.getD k 0 * 2 ^ sh D k := Int.mul_nonneg h1 (Int.le_of_lt (pow_pos' _))
    split <;> omega
/-- No byte is greater than 255. -/
theorem bt_le {D : Nat} (hD : Dep D) {xs : List Int} (hx : Fits D xs) (k j : Nat) : bt D xs k j ≤ 255 := by
  induction k with
  | zero => simp [bt]
  | succ k ih =>
    simp only [bt]
    by_cases e : k * D / 8 = j
    · subst e
      have := bt_range hD hx k
      rw [if_pos rfl]; omega
    · rw [if_neg e]; omega
theorem pk_bytes {D : Nat} (hD : Dep D) {xs : List Int} (hx : Fits D xs) : allB 0 255 (pk D xs) = true := by
  apply decide_eq_true
  intro b hb
  simp only [pk, pkTo, List.mem_map] at hb
  obtain ⟨j, _, rfl⟩ := hb
  exact ⟨bt_nonneg hx _ _, bt_le hD hx _ _⟩
theorem and_mod {D : Nat} (h : Dep D) (x : Int) : bits .and .i64 x (2 ^ D - 1) = x % 2 ^ D := by
  have hx : (BitVec.ofInt 64 x).toNat = (x % 18446744073709551616).toNat := by
    rw [BitVec.toNat_ofInt]; rfl
  rcases h with rfl | rfl | rfl | rfl
  · show IntKind.i64.wrap ((BitVec.ofInt 64 x &&& BitVec.ofInt 64 (2 ^ 1 - 1)).toNat : Int) = _
    rw [BitVec.toNat_and, hx, show (BitVec.ofInt 64 ((2 : Int) ^ 1 - 1)).toNat = 2 ^ 1 - 1 from by decide, Nat.and_two_pow_sub_one_eq_mod, IntKind.wrap_i64]
    omega
  · show IntKind.i64.wrap ((BitVec.ofInt 64 x &&& BitVec.ofInt 64 (2 ^ 2 - 1)).toNat : Int) = _
    rw [BitVec.toNat_and, hx, show (BitVec.ofInt 64 ((2 : Int) ^ 2 - 1)).toNat = 2 ^ 2 - 1 from by decide, Nat.and_two_pow_sub_one_eq_mod, IntKind.wrap_i64]
    omega
  · show IntKind.i64.wrap ((BitVec.ofInt 64 x &&& BitVec.ofInt 64 (2 ^ 4 - 1)).toNat : Int) = _
    rw [BitVec.toNat_and, hx, show (BitVec.ofInt 64 ((2 : Int) ^ 4 - 1)).toNat = 2 ^ 4 - 1 from by decide, Nat.and_two_pow_sub_one_eq_mod, IntKind.wrap_i64]
    omega
  · show IntKind.i64.wrap ((BitVec.ofInt 64 x &&& BitVec.ofInt 64 (2 ^ 8 - 1)).toNat : Int) = _
    rw [BitVec.toNat_and, hx, show (BitVec.ofInt 64 ((2 : Int) ^ 8 - 1)).toNat = 2 ^ 8 - 1 from by decide, Nat.and_two_pow_sub_one_eq_mod, IntKind.wrap_i64]
    omega
theorem unp_no {bs : List Int} {d c : Int} {w w' : World} (h : unOk bs d c = false) (hb : Below w.heap.size w w') : Unp bs d c w (.returned (.tuple #[.slice none 0 0, .bool false])) w' :=
  ⟨_, by rw [h], by unfold unList; rw [h]; exact own_nil _ _, hb⟩
theorem sz_cast (n D : Nat) : ((sz D n : Nat) : Int) = ((n : Int) * (D : Int) + 7) / 8 := by unfold sz; push_cast; rfl

set_option maxHeartbeats 8000000 in
theorem s_UnpackRow (A : Option Addr) (cp : Nat) (bs : List Int) (d c : Int) (w : World) (h : Rds .i64 w w.heap.size A bs) (hl : bs.length ≤ 10000000) :
    Calls Try.prog 25 #[.slice A bs.length cp, .int .i64 d, .int .i64 c] w (Unp bs d c w) := by
  have Hh := Lib.hid h
  clear h
  by_cases hv : vd d = true
  · obtain ⟨D, rfl, hD⟩ := vd_nat hv
    have hp := dep_pow hD
    have HD := Lib.hid hD
    have hd8 := dep_le hD
    have Hv := Lib.hid hv
    clear hD
    by_cases hc : 0 ≤ c ∧ c ≤ 64
    · obtain ⟨C, rfl⟩ := Int.eq_ofNat_of_zero_le hc.1
      have hC : C ≤ 64 := by omega
      have hdc : decide (0 ≤ (C : Int) ∧ (C : Int) ≤ 64) = true := decide_eq_true hc
      have hm0 : 0 ≤ (C : Int) * (D : Int) := Int.mul_nonneg (by omega) (by omega)
      have hm1 : (C : Int) * (D : Int) ≤ 512 := mul_bdI _ _ hC hd8.2
      clear hc
      by_cases hlen : bs.length = sz D C
      · have hne : ((bs.length : Int) != ((C : Int) * (D : Int) + 7) / 8) = false := by rw [← sz_cast, hlen]; simp
        have hlenI : (bs.length : Int) = ((C : Int) * (D : Int) + 7) / 8 := by rw [← sz_cast, hlen]
        have Hlen := Lib.hid hlen
        have HlenI := Lib.hid hlenI
        clear hlen hlenI
        by_cases ha : allB 0 255 bs = true
        · have H0 := Lib.hid (own_none w)
          go_enter Try.func25, Try.ntmps25
          go_wp2_with fail
          refine (sValidDepth_any D w).mono ?_
          rintro e w' ⟨rfl, rfl⟩
          go_wp2_with fail
          refine (sInRange_any _ _ _ w).mono ?_
          rintro e w' ⟨rfl, rfl⟩
          rw [hdc]
          go_wp2_with fail
          refine (sAllIn_any A cp _ bs _ _ w Hh.out hl).mono ?_
          rintro e w' ⟨rfl, rfl⟩
          go_wp2
          have Ha := Lib.hid ha
          clear hne hdc ha hv
          go_loopw [8, 9] (fun v i wr => ∃ k : Nat, k ≤ C ∧ i = .int .i64 k ∧ Own wr w.heap.size v (uns D bs k) ∧ Below w.heap.size w wr) (fun _ i _ => C - (intOf i).toNat)
          case atStart => exact ⟨0, Nat.zero_le _, rfl, by simpa [uns] using H0.out, (Below.refl _ _).alloc (Nat.le_refl _) _⟩
          case round =>
            obtain ⟨k, hk, rfl, hO, hbel⟩ := hrel
            obtain ⟨A1, c1, rfl, hc1⟩ := hO.slice
            by_cases hlt : k < C
            · have hidx : k * D / 8 < bs.length := by
                have := Nat.mul_le_mul_right D hlt
                rw [Nat.succ_mul] at this
                rw [Hlen.out]; unfold sz; omega
              obtain ⟨b, off, rfl, hb, hcell⟩ := Hh.out.cells_ hidx
              have hck := (hbel.cell (p := ⟨b, off + k * D / 8, none⟩) hb).trans (hcell _ hidx)
              have hroom : (D : Int) + ((k : Int) * (D : Int)) % 8 ≤ 8 := by have := dep_room HD.out k; exact_mod_cast this
              have hk0 : 0 ≤ (k : Int) * (D : Int) := Int.mul_nonneg (by omega) (by omega)
              have hk1 : (k : Int) * (D : Int) ≤ 512 := mul_bdI _ _ (by omega) hd8.2
              have hidx' : (k : Int) * (D : Int) / 8 < (bs.length : Int) := by exact_mod_cast hidx
              have HU : Hid (bs.getD (k * D / 8) 0 / 2 ^ (8 - D - k * D % 8) % 2 ^ D = un D bs k) := Lib.hid rfl
              have hy0 : 0 ≤ bs.getD (k * D / 8) 0 := by have := of_decide_eq_true Ha.out _ (List.getElem_mem hidx); simp [hidx]; exact this.1
              clear hcell
              generalize bs.getD (k * D / 8) 0 = y at *
              have HO := Lib.hid (hO.alloc (.cells #[.int .i64 (y / 2 ^ (8 - D - k * D % 8) % 2 ^ D)] 3))
              have HS := Lib.hid (rds_one wr (y / 2 ^ (8 - D - k * D % 8) % 2 ^ D))
              have hul : (uns D bs k).length ≤ 64 := by rw [uns_len]; omega
              have hsz := hbel.size
              have HL : Hid ((uns D bs k).length + [y / 2 ^ (8 - D - k * D % 8) % 2 ^ D].length ≤ 10000000) := Lib.hid (by simp; omega)
              have HZ : Hid (w.heap.size ≤ (wr.alloc (.cells #[.int .i64 (y / 2 ^ (8 - D - k * D % 8) % 2 ^ D)] 3)).heap.size) := Lib.hid (by simp; omega)
              have HL1 := Lib.hid (fun j hj => (hO.lt j hj).1)
              have HK : Hid (k + 1 ≤ C) := Lib.hid (by omega)
              clear hO
              go_wp2
              have hb2 : b < wr.heap.size := by omega
              have q0 : 0 ≤ (k : Int) * (D : Int) / 8 := by omega
              have q1 : 0 ≤ 8 - (D : Int) - (k : Int) * (D : Int) % 8 := by omega
              have q2 : 8 - (D : Int) - (k : Int) * (D : Int) % 8 ≤ 64 := by omega
              have q3 : (0 : Int) ≤ (D : Int) := by omega
              have q4 : (D : Int) ≤ 64 := by omega
              have q5 : ¬ ((2 : Int) ^ D = 0) := by omega
              have r1 : IntKind.i64.wrap (((k : Int) * (D : Int)).tdiv 8) = (k : Int) * (D : Int) / 8 := by rw [Int.tdiv_eq_ediv_of_nonneg (by omega)]; exact IntWalk.i64_in _ (by omega)
              have r3 : ((k : Int) * (D : Int) / 8).toNat = k * D / 8 := by
                rw [show ((k : Int) * (D : Int) / 8) = ((k * D / 8 : Nat) : Int) by push_cast; rfl]; rfl
              have r4 : IntKind.i64.wrap (8 - (D : Int)) = 8 - (D : Int) := IntWalk.i64_in _ (by omega)
              have r5 : ((k : Int) * (D : Int)).tmod 8 = (k : Int) * (D : Int) % 8 := IntWalk.rem_in _ _ (by omega)
              have r6 : IntKind.i64.wrap (8 - (D : Int) - (k : Int) * (D : Int) % 8) = 8 - (D : Int) - (k : Int) * (D : Int) % 8 := IntWalk.i64_in _ (by omega)
              have r8 : (8 - (D : Int) - (k : Int) * (D : Int) % 8).toNat = 8 - D - k * D % 8 := by
                have := dep_room HD.out k
                rw [show (8 - (D : Int) - (k : Int) * (D : Int) % 8) = ((8 - D - k * D % 8 : Nat) : Int) by rw [Int.natCast_sub (by omega), Int.natCast_sub (by omega)]; push_cast; rfl]
                rfl
              have r9 : IntKind.i64.wrap ((2 : Int) ^ D) = 2 ^ D := IntWalk.i64_in _ (by omega)
              have hdv : 0 ≤ y / 2 ^ (8 - D - k * D % 8) := Int.ediv_nonneg hy0 (Int.le_of_lt (pow_pos' _))
              have r10 : (y / 2 ^ (8 - D - k * D % 8)).tmod (2 ^ D) = y / 2 ^ (8 - D - k * D % 8) % 2 ^ D := IntWalk.rem_in _ _ hdv
              go_region_law (refine step_app rfl (.tmp 43) (.tmp 58) rfl w.heap.size (.slice A1 (uns D bs k).length c1) (uns D bs k) (by simp [Act.eval, Act.put]) (by exact HO.out) (some ⟨wr.heap.size, 0, none⟩) 1 1 _ [y / 2 ^ (8 - D - k * D % 8) % 2 ^ D] (by simp [Act.eval, Act.put]) rfl (by exact HS.out) HL.out (by exact HZ.out) ?_; intro v2 w2 hO2 hG2)
              clear r1 r3 r4 r5 r6 r8 r9 r10
              have HO2 : Hid (Own w2 w.heap.size v2 (uns D bs (k + 1))) := Lib.hid (by rw [uns_succ, ← HU.out]; exact hO2)
              have hbel2 : Below w.heap.size w w2 := ((hbel.alloc hsz _).drew).grown hG2 HZ.out (fun j hj => HL1.out j hj)
              clear hO2 hG2
              go_wp2
              go_roundw
              case rel => exact ⟨k + 1, HK.out, by go_num, HO2.out, hbel2⟩
              case measure => have := HK.out; simp [intOf]; omega
            · have hk' : k = C := by omega
              have Hk := Lib.hid hk'
              have hRu := hO.rds.2
              have hul : (uns D bs k).length ≤ 64 := by rw [uns_len]; omega
              have hsz := hbel.size
              have HR := Lib.hid ((Hh.out.below hbel).more hsz)
              clear hk'
              go_wp2_with fail
              refine (s_packRow A1 c1 (uns D bs k) D wr hRu hul HD.out (uns_fits D bs k)).mono ?_
              rintro e w1 ⟨v1, rfl, hO1, hB1⟩
              obtain ⟨A2, c2, rfl, hc2⟩ := hO1.slice
              have hpl : (pk D (uns D bs k)).length ≤ 64 := by
                unfold pk; rw [pkTo_len]; have := mul_bd _ D hul hd8.2; unfold sz; omega
              have hO' := hO.below hB1 (Nat.le_refl _)
              have hbel1 := hbel.trans (hB1.mono hsz)
              have HR1 := Lib.hid ((HR.out.below hB1).more hB1.size)
              go_wp2_with fail
              refine (sEqualInts_any A2 A c2 cp _ bs _ _ w1 hO1.rds.2 HR1.out (by omega) (by omega)).mono ?_
              rintro e w2 ⟨rfl, n2, rfl⟩
              by_cases hpk : pk D (uns D bs k) = bs
              · have hdec : decide (pk D (uns D bs k) = bs) = true := decide_eq_true hpk
                have HOK : Hid (unOk bs D C = true) := Lib.hid (decide_eq_true ⟨Hv.out, by omega, by omega, HlenI.out, by rw [Int.toNat_natCast, Int.toNat_natCast, ← Hk.out]; exact hpk⟩)
                have HUL : Hid (unList bs D C = uns D bs k) := Lib.hid (by unfold unList; rw [HOK.out, if_pos rfl, Int.toNat_natCast, Int.toNat_natCast, Hk.out])
                rw [hdec]
                clear hdec hpk hO1 hO
                go_wp2
                go_ret2
                exact ⟨_, by rw [HOK.out]; rfl, by rw [HUL.out]; exact hO'.drewN n2, ⟨hbel1.os, hbel1.tape, hbel1.output, hbel1.size, hbel1.block⟩⟩
              · have hdec : decide (pk D (uns D bs k) = bs) = false := decide_eq_false hpk
                have HOK : Hid (unOk bs D C = false) := Lib.hid (decide_eq_false (fun h => hpk (by have := h.2.2.2.2; rw [Int.toNat_natCast, Int.toNat_natCast, ← Hk.out] at this; exact this)))
                rw [hdec]
                clear hdec hpk hO1 hO
                go_wp2
                go_ret2
                exact unp_no HOK.out ⟨hbel1.os, hbel1.tape, hbel1.output, hbel1.size, hbel1.block⟩
        · have ha' : allB 0 255 bs = false := by simpa using ha
          have HOK : Hid (unOk bs D C = false) := Lib.hid (decide_eq_false (fun h => ha (by have := h.2.2.2.2; rw [← this, Int.toNat_natCast]; exact pk_bytes HD.out (uns_fits _ _ _))))
          clear ha
          go_enter Try.func25, Try.ntmps25
          go_wp2_with fail
          refine (sValidDepth_any D w).mono ?_
          rintro e w' ⟨rfl, rfl⟩
          go_wp2_with fail
          refine (sInRange_any _ _ _ w).mono ?_
          rintro e w' ⟨rfl, rfl⟩
          rw [hdc]
          go_wp2_with fail
          refine (sAllIn_any A cp _ bs _ _ w Hh.out hl).mono ?_
          rintro e w' ⟨rfl, rfl⟩
          go_wp2
          go_ret2
          exact unp_no HOK.out (Below.refl _ _)
      · have hne : ((bs.length : Int) != ((C : Int) * (D : Int) + 7) / 8) = true := bne_iff_ne.2 (by rw [← sz_cast]; omega)
        have HOK : Hid (unOk bs D C = false) := Lib.hid (decide_eq_false (fun h => hlen (by have := h.2.2.2.1; rw [← sz_cast] at this; omega)))
        clear hlen
        go_enter Try.func25, Try.ntmps25
        go_wp2_with fail
        refine (sValidDepth_any D w).mono ?_
        rintro e w' ⟨rfl, rfl⟩
        go_wp2_with fail
        refine (sInRange_any _ _ _ w).mono ?_
        rintro e w' ⟨rfl, rfl⟩
        rw [hdc]
        go_wp2
        go_ret2
        exact unp_no HOK.out (Below.refl _ _)
    · have hdc : decide (0 ≤ c ∧ c ≤ 64) = false := decide_eq_false hc
      have HOK : Hid (unOk bs D c = false) := Lib.hid (decide_eq_false (fun h => hc ⟨h.2.1, h.2.2.1⟩))
      clear hc
      go_enter Try.func25, Try.ntmps25
      go_wp2_with fail
      refine (sValidDepth_any D w).mono ?_
      rintro e w' ⟨rfl, rfl⟩
      go_wp2_with fail
      refine (sInRange_any _ _ _ w).mono ?_
      rintro e w' ⟨rfl, rfl⟩
      rw [hdc]
      go_wp2
      go_ret2
      exact unp_no HOK.out (Below.refl _ _)
  · have hv' : vd d = false := by simpa using hv
    have HOK : Hid (unOk bs d c = false) := Lib.hid (decide_eq_false (fun h => hv h.1))
    clear hv
    go_enter Try.func25, Try.ntmps25
    go_wp2_with fail
    refine (sValidDepth_any d w).mono ?_
    rintro e w' ⟨rfl, rfl⟩
    go_wp2
    go_ret2
    exact unp_no HOK.out (Below.refl _ _)
end Go.Proofs.Ytlgfidlejadpcaa
