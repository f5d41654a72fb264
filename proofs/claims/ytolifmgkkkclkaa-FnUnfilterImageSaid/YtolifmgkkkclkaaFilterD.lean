/- Contracts of FilterRow, in the model and in the program. -/
import Derived.Test.YtolifmgkkkclkaaFilterC
namespace Go.Proofs.Ytolifmgkkkclkaa
open Go.RowKit
set_option linter.unusedSimpArgs false
set_option linter.unusedVariables false

theorem below_dn {B : Nat} {a w : World} (h : Below B a w) (n : Nat) : Below B a (w.drewN n) := ⟨h.os, h.tape, h.output, h.size, h.block⟩
theorem set_next (ys : List Int) (m n : Nat) (y : Int) (hm : 0 < m) (hn : n = ys.length) : (ys ++ zeros m).set n y = (ys ++ [y]) ++ zeros (m - 1) := by
  subst hn
  obtain ⟨m, rfl⟩ : ∃ j, m = j + 1 := ⟨m - 1, by omega⟩
  rw [List.set_append_right _ _ (Nat.le_refl _)]
  simp [zeros, List.replicate_succ]
theorem and255 (x : Int) : bits .and .i64 x 255 = x % 256 := by
  have hx : (BitVec.ofInt 64 x).toNat = (x % 18446744073709551616).toNat := by
    rw [BitVec.toNat_ofInt]; rfl
  show IntKind.i64.wrap ((BitVec.ofInt 64 x &&& BitVec.ofInt 64 255).toNat : Int) = _
  rw [BitVec.toNat_and, hx, show (BitVec.ofInt 64 255).toNat = 2 ^ 8 - 1 from by decide, Nat.and_two_pow_sub_one_eq_mod, IntKind.wrap_i64]
  omega
set_option maxHeartbeats 1000000 in
theorem iWrap_any (x : Int) (w : World) : Calls Try.prog 49 #[.int .i64 x] w fun e w' => e = .returned (.int .i64 (x % 256)) ∧ w = w' := by
  have H := Lib.hid (and255 x)
  go_enter Try.func49, Try.ntmps49
  go_wp2
  go_ret
  exact ⟨ret_int H.out, rfl⟩
/-- What FilterRow answers. -/
def fil (k : Int) (xs bs : List Int) (st : Int) : List Int := if 0 ≤ k ∧ k ≤ 4 ∧ rok xs bs st = true then flt k xs bs st.toNat xs.length else []
theorem fil_len (k : Int) (xs bs : List Int) (st : Int) : (fil k xs bs st).length ≤ 64 := by
  unfold fil
  split
  · next h => rw [flt_len]; exact (of_decide_eq_true h.2.2).1
  · simp
theorem fil_yes {k : Int} {xs bs : List Int} {S : Nat} (h0 : 0 ≤ k) (h4 : k ≤ 4) (hok : rok xs bs (S : Int) = true) : fil k xs bs S = flt k xs bs S xs.length := by
  unfold fil
  rw [if_pos ⟨h0, h4, hok⟩]; rfl
theorem fil_nok {k : Int} {xs bs : List Int} {st : Int} (hok : rok xs bs st = false) : fil k xs bs st = [] := if_neg (fun h => by rw [h.2.2] at hok; cases hok)
theorem fil_nk {k : Int} {xs bs : List Int} {st : Int} (h : ¬ (0 ≤ k ∧ k ≤ 4)) : fil k xs bs st = [] := if_neg (fun h' => h ⟨h'.1, h'.2.1⟩)
theorem Made.nil {w w' : World} (h : Below w.heap.size w w') {xs : List Int} (hx : xs = []) : Made xs w (.returned (.slice none 0 0)) w' := ⟨_, rfl, by rw [hx]; exact World.ownsRow_nil _ _ _ _, h⟩
theorem rok_parts {xs bs : List Int} {st : Int} (h : rok xs bs st = true) : ∃ S : Nat, st = S ∧ 1 ≤ S ∧ S ≤ 4 ∧ xs.length ≤ 64 ∧ bs.length = xs.length ∧ Byt xs ∧ Byt bs := by
  obtain ⟨h1, h2, h3, h4, h5⟩ := of_decide_eq_true h
  obtain ⟨S, rfl⟩ := Int.eq_ofNat_of_zero_le (show 0 ≤ st by omega)
  exact ⟨S, rfl, by omega, by omega, h1, h2, byt_of (of_decide_eq_true h4), byt_of (of_decide_eq_true h5)⟩
set_option maxHeartbeats 8000000 in
theorem i_FilterRow (k : Int) (A A' : Option Addr) (c c' : Nat) (xs bs : List Int) (st : Int) (w : World) (hx : Rds .i64 w w.heap.size A xs) (hb : Rds .i64 w w.heap.size A' bs) (hl : xs.length ≤ 10000000) (hl' : bs.length ≤ 10000000) :
    Calls Try.prog 29 #[.int .i64 k, .slice A xs.length c, .slice A' bs.length c', .int .i64 st] w (Made (fil k xs bs st) w) := by
  have Hx := Lib.hid hx
  have Hb := Lib.hid hb
  clear hx hb
  by_cases hk : 0 ≤ k ∧ k ≤ 4
  · obtain ⟨h0, h4⟩ := hk
    cases hok : rok xs bs st
    · have HF := Lib.hid (fil_nok (k := k) hok)
      go_enter Try.func29, Try.ntmps29
      go_wp2_with fail
      refine (pof_yes k w h0 h4).mono ?_
      rintro e w1 ⟨rfl, hB1⟩
      go_wp2_with fail
      refine (iRows_any A A' c c' _ _ xs bs st w1 (Hx.out.below hB1) (Hb.out.below hB1) hl hl').mono ?_
      rintro e w' ⟨rfl, rfl⟩
      go_wp2
      go_ret
      exact Made.nil hB1 HF.out
    · obtain ⟨S, rfl, hS1, hS4, h64, hlen, hbx, hbb⟩ := rok_parts hok
      have HF := Lib.hid (fil_yes h0 h4 hok)
      have HP := Lib.hid (pfn_predicts h0 h4)
      have eg := pfn_enters h0 h4
      have Hbx := Lib.hid hbx
      have Hbb := Lib.hid hbb
      have hlb : bs.length ≤ xs.length := by omega
      have hlb' : xs.length ≤ bs.length := by omega
      have hmk := fun W => make_ints xs.length (by omega) W
      clear hbx hbb hlen
      go_enter Try.func29, Try.ntmps29
      go_wp2_with fail
      refine (pof_yes k w h0 h4).mono ?_
      rintro e w1 ⟨rfl, hB1⟩
      generalize pfn k = g at *
      go_wp2_with fail
      refine (iRows_any A A' c c' _ _ xs bs S w1 (Hx.out.below hB1) (Hb.out.below hB1) hl hl').mono ?_
      rintro e w' ⟨rfl, rfl⟩
      have hsz := hB1.size
      have HX1 := Lib.hid (Hx.out.below hB1)
      have HB1 := Lib.hid (Hb.out.below hB1)
      have H0 := Lib.hid (Blk.new w1 (zeros xs.length))
      go_wp2
      clear hok hmk
      go_loopw [33] (fun i wr => ∃ j : Nat, j ≤ xs.length ∧ i = .int .i64 j ∧ Blk wr w1.heap.size (flt k xs bs S j ++ zeros (xs.length - j)) ∧ Below w1.heap.size w1 wr) (fun i _ => xs.length - (intOf i).toNat)
      case atStart => exact ⟨0, Nat.zero_le _, rfl, by simpa [flt] using H0.out, (Below.refl _ _).alloc (Nat.le_refl _) _⟩
      case round =>
        obtain ⟨j, hj, rfl, hB, hbel⟩ := hrel
        by_cases hlt : j < xs.length
        · have HRx := Lib.hid (HX1.out.belowTo hbel hsz)
          have HRb := Lib.hid (HB1.out.belowTo hbel hsz)
          obtain ⟨b, off, rfl, hb1, hc⟩ := HRx.out.cells_ hlt
          have hcj := hc j hlt
          have hcw := hB.cell (i := j) (by simp [zeros, flt_len]; omega)
          have hfw := hB.frozen j
          have hput := hB.put j ((xs.getD j 0 - gs k xs bs S j) % 256)
          rw [set_next _ _ _ _ (by omega) (flt_len k xs bs S j).symm, ← flt_succ, show xs.length - j - 1 = xs.length - (j + 1) by omega] at hput
          have HN := Lib.hid hput
          have HBel := Lib.hid (fun n => (below_dn hbel n).setCell (p := ⟨w1.heap.size, j, none⟩) (Nat.le_refl _) (.int .i64 ((xs.getD j 0 - gs k xs bs S j) % 256)))
          have hr := Hbx.out j
          have hgr := gs_range k Hbx.out Hbb.out S j
          have HG : Hid (pred k (back xs S j) (bs.getD j 0) (back bs S j) = gs k xs bs S j) := Lib.hid rfl
          clear hc hB hput hbel
          generalize xs.getD j 0 = x at hcj hr HN HBel
          go_wp2_with fail
          refine (iNeigh_any _ A' c c' xs bs S j _ _ wr HRx.out HRb.out hlt (by omega) hS1 hS4 h64 (by omega)).mono ?_
          rintro e w' ⟨rfl, n, rfl⟩
          go_wp2_with fail
          refine (HP.out _ _ _ _ (back_range Hbx.out S j) (Hbb.out j) (back_range Hbb.out S j)).mono ?_
          rintro e w' ⟨rfl, rfl⟩
          rw [HG.out]
          generalize gs k xs bs S j = y at *
          go_wp2_with fail
          refine (iWrap_any _ _).mono ?_
          rintro e w' ⟨rfl, rfl⟩
          generalize (List.getD (flt k xs bs S j ++ zeros (xs.length - j)) j 0) = z at *
          go_wp2
          go_roundw
          case rel => exact ⟨j + 1, by omega, by go_num, HN.out, HBel.out n⟩
          case measure => simp [intOf]; omega
        · have hj' : j = xs.length := by omega
          have HO := Lib.hid (hB.own (Nat.le_refl _) (by simp [zeros, flt_len]; unfold maxLen; omega))
          have Hbel := Lib.hid (hB1.trans (hbel.mono hsz))
          clear hB hbel
          go_wp2
          go_ret
          have e : flt k xs bs S j ++ zeros (xs.length - j) = fil k xs bs S := by rw [HF.out]; subst hj'; simp [zeros]
          have h := HO.out
          rw [e] at h
          have hlf : (fil k xs bs S).length = xs.length := by rw [HF.out, flt_len]
          rw [hlf] at h
          exact ⟨_, rfl, h.base_le hsz, Hbel.out⟩
  · have hd : decide (0 ≤ k ∧ k ≤ 4) = false := decide_eq_false hk
    have HF := Lib.hid (fil_nk (xs := xs) (bs := bs) (st := st) hk)
    clear hk
    go_enter Try.func29, Try.ntmps29
    go_wp2_with fail
    refine (pof_no k w hd).mono ?_
    rintro e w1 ⟨rfl, hB1⟩
    go_wp2
    go_ret
    exact Made.nil hB1 HF.out
end Go.Proofs.Ytolifmgkkkclkaa
