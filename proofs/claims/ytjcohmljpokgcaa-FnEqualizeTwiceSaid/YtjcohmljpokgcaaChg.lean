/- Replacing the numbers of an image by what a function makes of them. -/
import Derived.Test.YtjcohmljpokgcaaInvI
namespace Go.Proofs.Ytjcohmljpokgcaa
open Go.RowKit
set_option linter.unusedSimpArgs false
set_option linter.unusedVariables false

theorem map_step (f : Int → Int) (xs : List Int) (j : Nat) (hj : j < xs.length) : (xs.map f).take (j + 1) = (xs.map f).take j ++ [f (xs.getD j 0)] := by
  rw [List.take_succ_eq_append_getElem (by rw [List.length_map]; exact hj)]
  simp [hj]
set_option maxHeartbeats 8000000 in
theorem change_any (W H P : Int) (A : Option Addr) (c : Nat) (xs : List Int) (f : Int → Int) (g : Nat) (cs : Array Value) (w : World) (hx : Rds .i64 w w.heap.size A xs) (hl : xs.length ≤ 2000000)
    (eg : ∀ args w, (callFunc g args).run Try.prog w = .ok (.enter g args) w)
    (hc : ∀ (j : Nat) (w' : World), j < xs.length → Below w.heap.size w w' → Calls Try.prog g (#[.int .i64 (xs.getD j 0)] ++ cs) w' fun e w'' => e = .returned (.int .i64 (f (xs.getD j 0))) ∧ Below w'.heap.size w' w'') :
    Calls Try.prog 57 #[.agg #[.int .i64 W, .int .i64 H, .int .i64 P, .slice A xs.length c], .func (.func g) #[] cs] w (MadeI W H P (xs.map f) w) := by
  have HC := Lib.hid hc
  clear hc
  obtain ⟨u0, hu⟩ : ∃ u0, u0 = (w.alloc (.cells #[.int .i64 W, .int .i64 H, .int .i64 P, .slice A xs.length c] 25)).alloc (.cells #[.int .i64 0, .int .i64 0, .int .i64 0, .slice none 0 0] 25) := ⟨_, rfl⟩
  have hsz : u0.heap.size = w.heap.size + 2 := by rw [hu]; simp
  have Hx := Lib.hid (show Rds .i64 u0 w.heap.size A xs by rw [hu]; exact (hx.alloc (Nat.le_refl _) _).alloc (by simp) _)
  have HB0 := Lib.hid (show Below w.heap.size w u0 by rw [hu]; exact ((Below.refl w.heap.size w).alloc (Nat.le_refl _) _).alloc (by simp) _)
  have HM := Lib.hid (show Bx u0 w.heap.size 25 (imC W H P (.slice A xs.length c)) by rw [hu]; exact (Bx.new w 25 _).alloc _)
  have HR := Lib.hid (show Bx u0 (w.heap.size + 1) 25 (imC 0 0 0 (.slice none 0 0)) by rw [hu]; have := Bx.new (w.alloc (.cells #[.int .i64 W, .int .i64 H, .int .i64 P, .slice A xs.length c] 25)) 25 (imC 0 0 0 (.slice none 0 0)); simpa [imC] using this)
  have Hsz := Lib.hid hsz
  have hmk := fun W => make_ints xs.length (by omega) W
  have H0 := Lib.hid (Blk.new u0 (zeros xs.length))
  obtain ⟨b0, b1, b2, b3⟩ := HM.out.im
  clear hx hsz
  subst hu
  go_enter Try.func57, Try.ntmps57
  go_wp2
  generalize (w.alloc (.cells #[.int .i64 W, .int .i64 H, .int .i64 P, .slice A xs.length c] 25)).alloc (.cells #[.int .i64 0, .int .i64 0, .int .i64 0, .slice none 0 0] 25) = u0 at *
  obtain ⟨q, hq⟩ : ∃ q, q = w.heap.size + 1 + 1 := ⟨_, rfl⟩
  rw [← hq]
  have Hq : Hid (u0.heap.size = q ∧ q = w.heap.size + 2) := Lib.hid ⟨by rw [Hsz.out, hq], hq⟩
  rw [Hq.out.1] at H0
  clear hmk hq Hsz
  go_loopw [15] (fun i wr => ∃ j : Nat, j ≤ xs.length ∧ i = .int .i64 j ∧ Blk wr q ((xs.map f).take j ++ zeros (xs.length - j)) ∧ Below q u0 wr) (fun i _ => xs.length - (intOf i).toNat)
  case atStart => exact ⟨0, Nat.zero_le _, rfl, by simpa using H0.out, by have := (Below.refl u0.heap.size u0).alloc (Nat.le_refl _) (.cells (row (zeros xs.length)) 3); rwa [Hq.out.1] at this⟩
  case round =>
    obtain ⟨j, hj, rfl, hB, hbel⟩ := hrel
    clear b0 b1 b2 b3
    by_cases hlt : j < xs.length
    · obtain ⟨b, off, rfl, hb1, hcc⟩ := (Hx.out.belowTo hbel (by have := Hq.out; omega)).cells_ hlt
      obtain ⟨x, hxe⟩ : ∃ x, x = xs.getD j 0 := ⟨_, rfl⟩
      have hcj := hcc j hlt
      have HCj := HC.out j
      have hms := map_step f xs j hlt
      rw [← hxe] at hcj HCj hms
      have HCJ := Lib.hid HCj
      have Hms := Lib.hid hms
      have hlj : ((xs.map f).take j).length = j := by simp; omega
      have HBl := Lib.hid hB
      have Hbel := Lib.hid hbel
      have Hlj := Lib.hid hlj
      clear hcc hB hbel hlj H0 hxe HCj hms
      go_wp2_with fail
      refine (HCJ.out wr hlt (HB0.out.trans (Hbel.out.mono (by have := Hq.out; omega)))).mono ?_
      rintro e w2 ⟨rfl, hB2⟩
      have hB := HBl.out.below hB2 (by have := Hbel.out.size; have := HBl.out.lt; omega)
      have hcw := hB.cell (i := j) (by simp [zeros]; omega)
      have hfw := hB.frozen j
      have hput := hB.put j (f x)
      rw [set_nxt _ _ _ _ (by omega) Hlj.out.symm, ← Hms.out, show xs.length - j - 1 = xs.length - (j + 1) by omega] at hput
      have HN := Lib.hid hput
      have HBel := Lib.hid ((Hbel.out.trans (hB2.mono (by have := Hbel.out.size; have := Hq.out.1; omega))).setCell (p := ⟨q, j, none⟩) (Nat.le_refl _) (.int .i64 (f x)))
      clear hcj hB hput hB2 HBl Hbel Hlj
      generalize f x = y at *
      generalize (List.getD ((xs.map f).take j ++ zeros (xs.length - j)) j 0) = z at *
      go_wp2
      go_roundw
      case rel => exact ⟨j + 1, by omega, by go_num, HN.out, HBel.out⟩
      case measure => simp [intOf]; omega
    · have hj' : j = xs.length := by omega
      have e : (xs.map f).take j ++ zeros (xs.length - j) = xs.map f := by subst hj'; rw [Nat.sub_self, List.take_of_length_le (by rw [List.length_map]; exact Nat.le_refl _)]; simp [zeros]
      have hO := hB.own (Nat.le_refl _) (by rw [e, List.length_map]; unfold maxLen; omega)
      rw [e, List.length_map] at hO
      have hbel' : Below u0.heap.size u0 wr := by rw [Hq.out.1]; exact hbel
      have hM := HM.out.below hbel'
      have hR := HR.out.below hbel'
      obtain ⟨b0, b1, b2, b3⟩ := hM.im
      obtain ⟨r0, r1, r2, r3⟩ := hR.im
      have f0 := hR.fz 0
      have f1 := hR.fz 1
      have f2 := hR.fz 2
      have f3 := hR.fz 3
      have HE := Lib.hid (im_end (w := w) (r := w.heap.size + 1) hO (by have := Hq.out; omega) (by omega) (HB0.out.trans (hbel.mono (by have := Hq.out; omega))) (.int .i64 W) (.int .i64 H) (.int .i64 P) (.slice (some ⟨q, 0, none⟩) xs.length xs.length))
      clear hB hbel hbel' hO hM hR e hj' H0 HC
      go_wp2
      exact bodyPost_ret (v := .agg #[.int .i64 W, .int .i64 H, .int .i64 P, .slice (some ⟨q, 0, none⟩) xs.length xs.length]) (by simp [results, Try.results57, go_sem, r0, r1, r2, r3]) rfl ⟨_, rfl, HE.out.1, HE.out.2⟩
end Go.Proofs.Ytjcohmljpokgcaa
