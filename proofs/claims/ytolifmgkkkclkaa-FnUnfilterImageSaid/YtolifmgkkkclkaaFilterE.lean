/- Contracts of FilterRow in the model. -/
import Derived.Test.YtolifmgkkkclkaaFilterD
namespace Go.Proofs.Ytolifmgkkkclkaa
open Go.RowKit
set_option linter.unusedSimpArgs false
set_option linter.unusedVariables false

set_option maxHeartbeats 8000000 in
theorem s_filterRow (k : Int) (A A' : Option Addr) (c c' : Nat) (xs bs : List Int) (S : Nat) (w : World) (hx : Rds .i64 w w.heap.size A xs) (hb : Rds .i64 w w.heap.size A' bs) (h64 : xs.length ≤ 64) (hlen : bs.length = xs.length) (hS1 : 1 ≤ S) (hS4 : S ≤ 4) (hbx : Byt xs) (hbb : Byt bs) :
    Calls Try.prog 53 #[.int .i64 k, .slice A xs.length c, .slice A' bs.length c', .int .i64 S] w (Made (flt k xs bs S xs.length) w) := by
  have Hx := Lib.hid hx
  have Hb := Lib.hid hb
  have Hbx := Lib.hid hbx
  have Hbb := Lib.hid hbb
  have hlb : bs.length ≤ xs.length := by omega
  have hlb' : xs.length ≤ bs.length := by omega
  have H0 := Lib.hid (own_none w)
  clear hx hb hbx hbb hlen
  go_enter Try.func53, Try.ntmps53
  go_wp2
  go_loopw [9, 10] (fun v i wr => ∃ j : Nat, j ≤ xs.length ∧ i = .int .i64 j ∧ Own wr w.heap.size v (flt k xs bs S j) ∧ Below w.heap.size w wr) (fun _ i _ => xs.length - (intOf i).toNat)
  case atStart => exact ⟨0, Nat.zero_le _, rfl, by simpa [flt] using H0.out, (Below.refl _ _).alloc (Nat.le_refl _) _⟩
  case round =>
    obtain ⟨j, hj, rfl, hO, hbel⟩ := hrel
    obtain ⟨A1, c1, rfl, hc1⟩ := hO.slice
    by_cases hlt : j < xs.length
    · have HRx := Lib.hid (Hx.out.below hbel)
      have HRb := Lib.hid (Hb.out.below hbel)
      obtain ⟨b, off, rfl, hb1, hc⟩ := HRx.out.cells_ hlt
      have hcj := hc j hlt
      have hr := Hbx.out j
      have hgr := gs_range k Hbx.out Hbb.out S j
      have HU : Hid (flt k xs bs S j ++ [(xs.getD j 0 - gs k xs bs S j) % 256] = flt k xs bs S (j + 1)) := Lib.hid (by rw [flt_succ])
      have hul : (flt k xs bs S j).length ≤ 64 := by rw [flt_len]; omega
      have hsz := hbel.size
      have HL1 := Lib.hid (fun i hi => (hO.lt i hi).1)
      have HK : Hid (j + 1 ≤ xs.length) := Lib.hid (by omega)
      have HO := Lib.hid (fun y : Int => hO.alloc (.cells #[.int .i64 y] 3))
      have HL : Hid (∀ y : Int, (flt k xs bs S j).length + [y].length ≤ 10000000) := Lib.hid (fun y => by simp; omega)
      have HZ : Hid (∀ y : Int, w.heap.size ≤ (wr.alloc (.cells #[.int .i64 y] 3)).heap.size) := Lib.hid (fun y => by simp; omega)
      have hjb : j < bs.length := by omega
      have hl64 : bs.length ≤ 64 := by omega
      clear hc hO
      generalize hxj : xs.getD j 0 = x at hcj hr HU
      clear hxj
      obtain ⟨y, hy⟩ : ∃ y, y = gs k xs bs S j := ⟨_, rfl⟩
      rw [← hy] at HU hgr
      have HY := Lib.hid hy
      clear hy
      go_wp2
      have q1 : b < wr.heap.size := by omega
      have r1 : IntKind.i64.wrap (x - y) = x - y := IntWalk.i64_in _ (by omega)
      have r2 : IntKind.i64.wrap (x - y + 256) = x - y + 256 := IntWalk.i64_in _ (by omega)
      have r3 : (x - y + 256).tmod 256 = (x - y) % 256 := (IntWalk.rem_in _ _ (by omega)).trans (by omega)
      go_region_law (first | (refine step_app rfl (.tmp 18) (.tmp 32) rfl w.heap.size (.slice A1 (flt k xs bs S j).length c1) (flt k xs bs S j) (by simp [Act.eval, Act.put]) (by exact HO.out _) (some ⟨wr.heap.size, 0, none⟩) 1 1 _ [(x - y) % 256] (by simp [Act.eval, Act.put]) rfl (by exact rds_one wr _) (HL.out _) (by exact HZ.out _) ?_; intro v2 w2 hO2 hG2) | (go_simp; go_at_call 65; refine (sGuess_any k _ A' c c' xs bs S j w.heap.size w.heap.size _ (by exact HRx.out) (by exact HRb.out) hlt hjb Hbx.out Hbb.out hS1 hS4 h64 hl64).mono ?_; rintro e w' ⟨rfl, rfl⟩; rw [← HY.out]))
      all_goals
        clear r1 r2 r3
        have HO2 : Hid (Own w2 w.heap.size v2 (flt k xs bs S (j + 1))) := Lib.hid (by rw [← HU.out]; exact hO2)
        have hbel2 : Below w.heap.size w w2 := ((hbel.alloc hsz _).drew).grown hG2 (HZ.out _) (fun i hi => HL1.out i hi)
        clear hO2 hG2
        go_wp2
        go_roundw
        case rel => exact ⟨j + 1, HK.out, by go_num, HO2.out, hbel2⟩
        case measure => have := HK.out; simp [intOf]; omega
    · have hj' : j = xs.length := by omega
      have Hj := Lib.hid hj'
      clear hj'
      have HO := Lib.hid hO
      clear hO
      go_wp2
      go_ret
      have h := HO.out
      rw [Hj.out] at h ⊢
      exact ⟨_, rfl, h, hbel⟩
end Go.Proofs.Ytolifmgkkkclkaa
