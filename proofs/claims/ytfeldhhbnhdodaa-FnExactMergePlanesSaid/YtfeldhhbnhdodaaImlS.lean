/- The laws' functions on lists of images: comparing, holding, sizes (too large lists, copies and marking are to come). -/
import Derived.Test.YtfeldhhbnhdodaaIml
import Derived.Test.YtfeldhhbnhdodaaImgA
import Derived.Test.YtfeldhhbnhdodaaSz
import Derived.StillTailTactics
import Derived.Deep.QuietTactic
import Derived.BigQuiet
namespace Go.Proofs.Ytfeldhhbnhdodaa
open Go.RowKit
set_option linter.unusedSimpArgs false
set_option linter.unusedVariables false
set_option maxRecDepth 20000

set_option maxHeartbeats 2000000 in
theorem eqImageS_same (A A' : Option Addr) (c c' n n' : Nat) (ms : List Imv) (w : World) (hn : n = ms.length) (hn' : n' = ms.length) (hx : Rdim w w.heap.size A ms) (hy : Rdim w w.heap.size A' ms) (hml : ms.length ≤ 2000000) (hl : ∀ i, i < ms.length → (imv ms i).ds.length ≤ 2000000) :
    Calls Try.prog 19 #[.slice A n c, .slice A' n' c'] w fun e w' => e = .returned (.bool true) ∧ Below w.heap.size w w' := by
  have HX := Lib.hid hx
  have HY := Lib.hid hy
  have HL := Lib.hid hl
  subst hn
  subst hn'
  obtain ⟨n, hn⟩ : ∃ n, n = ms.length := ⟨_, rfl⟩
  have Hn := Lib.hid hn
  rw [← hn] at hml ⊢
  clear hx hy hl hn
  go_enter Try.func19, Try.ntmps19
  go_wp2
  go_loopw [5] (fun i wr => ∃ k : Nat, k ≤ n ∧ i = .int .i64 k ∧ Below w.heap.size w wr) (fun i _ => n - (intOf i).toNat)
  case atStart => exact ⟨0, Nat.zero_le _, rfl, Below.refl _ _⟩
  case round =>
    obtain ⟨k, hk, rfl, hbel⟩ := hrel
    by_cases hlt : k < n
    · have hkl : k < ms.length := by have := Hn.out; omega
      obtain ⟨b, off, Ai, ci, rfl, hb, hci, x0, x1, x2, x3, hr0⟩ := HX.out.at hkl
      obtain ⟨b', off', Bi, di, rfl, hb', hdi, y0, y1, y2, y3, hs0⟩ := HY.out.at hkl
      have hx0 := (hbel.cell (p := ⟨b, off + k * 4, none⟩) hb).trans x0
      have hx1 := (hbel.cell (p := ⟨b, off + k * 4 + 1, none⟩) hb).trans x1
      have hx2 := (hbel.cell (p := ⟨b, off + k * 4 + 2, none⟩) hb).trans x2
      have hx3 := (hbel.cell (p := ⟨b, off + k * 4 + 3, none⟩) hb).trans x3
      have hy0 := (hbel.cell (p := ⟨b', off' + k * 4, none⟩) hb').trans y0
      have hy1 := (hbel.cell (p := ⟨b', off' + k * 4 + 1, none⟩) hb').trans y1
      have hy2 := (hbel.cell (p := ⟨b', off' + k * 4 + 2, none⟩) hb').trans y2
      have hy3 := (hbel.cell (p := ⟨b', off' + k * 4 + 3, none⟩) hb').trans y3
      have hml := HL.out k hkl
      have hbd := hbel.drew
      have HR2 : Hid (Rds .i64 wr.drew wr.drew.heap.size Ai (imv ms k).ds) := Lib.hid (((hr0.below hbel).more hbel.size).keep fun _ _ => rfl)
      have HS2 : Hid (Rds .i64 wr.drew wr.drew.heap.size Bi (imv ms k).ds) := Lib.hid (((hs0.below hbel).more hbel.size).keep fun _ _ => rfl)
      clear x0 x1 x2 x3 y0 y1 y2 y3 hr0 hs0 hbel
      generalize imv ms k = v at *
      go_wp2_with fail
      go_still_tail 8, (by kernel_rfl)
      change wpList _ _ _ _ _ wr.drew
      generalize wr.drew = w2 at *
      go_wp2_with fail
      refine (eqImage_same v.X v.Y v.Z Ai Bi ci di _ _ v.ds w2 rfl rfl HR2.out HS2.out (by omega)).mono ?_
      rintro e w3 ⟨rfl, hb2⟩
      have hb3 := hbd.trans (hb2.mono hbd.size)
      clear hbd hb2
      go_wp2
      go_roundw
      case rel => exact ⟨k + 1, by omega, by go_num, hb3⟩
      case measure => simp [intOf]; omega
    · go_wp2
      go_ret
      exact ⟨rfl, hbel⟩
set_option maxHeartbeats 4000000 in
theorem heldImageS_any (A : Option Addr) (c n : Nat) (ms : List Imv) (hn : n = ms.length) (k : Int) (w : World) (h : Rdim w w.heap.size A (numI k ms)) (hl : ofI ms ms.length ≤ 4000000) (hk0 : 0 ≤ k) (hk1 : k ≤ 50000000) :
    Calls Try.prog 23 #[.slice A n c, .int .i64 k] w fun e w' => e = .returned (.int .i64 (k + (ofI ms ms.length : Nat))) ∧ w = w' := by
  have Hh := Lib.hid h
  have Hn := Lib.hid hn
  have HL : Hid (∀ i, i < ms.length → (imv ms i).ds.length ≤ 4000000 ∧ ofI ms i ≤ 4000000) := Lib.hid fun i hi => by
    have h1 := ofI_succ hi
    have h2 := ofI_mono (ms := ms) (j := i + 1) (n := ms.length) (by omega) (Nat.le_refl _)
    omega
  have hnl : n ≤ 4000000 := by rw [hn]; unfold ofI at hl; omega
  clear h hn hl
  go_enter Try.func23, Try.ntmps23
  go_wp2
  go_loop [1, 5] (fun q i => ∃ j : Nat, j ≤ n ∧ i = .int .i64 j ∧ q = .int .i64 (k + (ofI ms j : Nat))) (fun _ i => n - (intOf i).toNat)
  case atStart => exact ⟨0, Nat.zero_le _, rfl, by rw [ofI_zero]; simp⟩
  case round =>
    obtain ⟨j, hj, rfl, rfl⟩ := hrel
    by_cases hlt : j < n
    · have hjl : j < ms.length := by have := Hn.out; omega
      obtain ⟨b, off, Ai, ci, rfl, hb, hci, x0, x1, x2, hc, hr⟩ := Hh.out.at (i := j) (by rw [numI_len]; exact hjl)
      rw [numI_get k ms hjl] at x0 x1 x2 hc hr
      rw [marks_len] at hc
      have hml := HL.out j hjl
      have hs := ofI_succ hjl
      have HR := Lib.hid hr
      clear hr hci
      generalize (imv ms j).ds.length = m at *
      have HE : Hid (k + (ofI ms j : Nat) + 3 + (m : Nat) = k + ((ofI ms (j + 1) : Nat) : Int)) := Lib.hid (by rw [hs]; omega)
      clear hs
      generalize ofI ms j = t at *
      obtain ⟨z, hz⟩ : ∃ z, z = k + (t : Int) := ⟨_, rfl⟩
      have hzb : 0 ≤ z ∧ z ≤ 54000000 := by omega
      rw [← hz] at x0 x1 x2 HR HE ⊢
      clear hz
      have w1 : IntKind.i64.wrap (z + 1) = z + 1 := IntWalk.i64_in _ (by omega)
      have w2 : IntKind.i64.wrap (z + 1 + 1) = z + 2 := by rw [show z + 1 + 1 = z + 2 by omega]; exact IntWalk.i64_in _ (by omega)
      have w3 : IntKind.i64.wrap (z + 2 + 1) = z + 3 := by rw [show z + 2 + 1 = z + 3 by omega]; exact IntWalk.i64_in _ (by omega)
      have x0 : w.cell? ⟨b, off + j * 4, none⟩ = some (.int .i64 z) := x0
      have x1 : w.cell? ⟨b, off + j * 4 + 1, none⟩ = some (.int .i64 (z + 1)) := x1
      have x2 : w.cell? ⟨b, off + j * 4 + 2, none⟩ = some (.int .i64 (z + 2)) := x2
      go_wp2_with fail
      refine (heldIntS_any Ai ci _ m (z + 3) _ HR.out (by omega) (by omega) (by omega)).mono ?_
      rintro e w2 ⟨rfl, rfl⟩
      have hp : ¬ z + 3 + (m : Int) < 0 := by omega
      go_wp2
      go_round
      case rel => exact ⟨j + 1, by omega, by go_num, by rw [← HE.out]⟩
      case measure => simp [intOf]; omega
    · have hj' : j = n := by omega
      go_wp2
      go_ret
      have hn := Hn.out
      subst hj'
      exact ⟨by rw [hn]; rfl, rfl⟩
/-- How much a list of images counts. -/
def totI (ms : List Imv) : Nat := ms.length + tl (ms.map (·.ds)) ms.length
set_option maxHeartbeats 2000000 in
theorem szImageS_le (A : Option Addr) (c : Nat) (ms : List Imv) (left : Int) (w : World) (hr : Rdim w w.heap.size A ms) (h0 : 0 ≤ left) (h1 : left ≤ 1048576) (h : (totI ms : Int) ≤ left) :
    Calls Try.prog 24 #[.slice A ms.length c, .int .i64 left] w fun e w' => e = .returned (.int .i64 (left - (totI ms : Nat))) ∧ Below w.heap.size w w' := by
  have Hr := Lib.hid hr
  have Ht : Hid (totI ms = ms.length + tl (ms.map (·.ds)) ms.length) := Lib.hid rfl
  obtain ⟨n, hn⟩ : ∃ n, n = ms.length := ⟨_, rfl⟩
  have Hn := Lib.hid hn
  have hnl : (n : Int) ≤ left := by have := Ht.out; omega
  rw [← hn]
  clear hr hn
  go_enter Try.func24, Try.ntmps24
  go_wp2
  go_loopw [1, 5] (fun l i wr => ∃ (k : Nat) (q : Int), k ≤ n ∧ i = .int .i64 k ∧ l = .int .i64 q ∧ Hid (q = left - n - (tl (ms.map (·.ds)) k : Nat)) ∧ Below w.heap.size w wr) (fun _ i _ => n - (intOf i).toNat)
  case atStart => exact ⟨0, left - n, Nat.zero_le _, rfl, rfl, Lib.hid (by rw [tl_zero]; simp), Below.refl _ _⟩
  case round =>
    obtain ⟨k, q, hk, rfl, rfl, HQ, hbel⟩ := hrel
    by_cases hlt : k < n
    · have hkl : k < ms.length := by have := Hn.out; omega
      obtain ⟨b, off, Ai, ci, rfl, hb, hci, x0, x1, x2, x3, _⟩ := Hr.out.at hkl
      have hx0 := (hbel.cell (p := ⟨b, off + k * 4, none⟩) hb).trans x0
      have hx1 := (hbel.cell (p := ⟨b, off + k * 4 + 1, none⟩) hb).trans x1
      have hx2 := (hbel.cell (p := ⟨b, off + k * 4 + 2, none⟩) hb).trans x2
      have hx3 := (hbel.cell (p := ⟨b, off + k * 4 + 3, none⟩) hb).trans x3
      have hs := tl_succ (xss := ms.map (·.ds)) (k := k) (by simpa using hkl)
      have hd : (ms.map (·.ds)).getD k [] = (imv ms k).ds := by unfold imv; simp [List.getD_eq_getElem?_getD, hkl]
      rw [hd] at hs
      have hm := tl_mono (xss := ms.map (·.ds)) (k := k + 1) (n := ms.length) (by omega) (by simp)
      have hq := HQ.out
      have ht := Ht.out
      have hn := Hn.out
      clear x0 x1 x2 x3 hd
      generalize imv ms k = v at *
      generalize v.ds.length = m at *
      have hq0 : 0 ≤ q ∧ q ≤ 1048576 ∧ (m : Int) ≤ q := by omega
      have HN : Hid (q - m = left - n - (tl (ms.map (·.ds)) (k + 1) : Nat)) := Lib.hid (by omega)
      have hkn : k ≤ 1048576 := by omega
      clear hs hm hq ht hn h hnl
      go_wp2_with fail
      refine (szImage_le v.X v.Y v.Z Ai ci m q _ hq0.1 hq0.2.1 hq0.2.2).mono ?_
      rintro e w2 ⟨rfl, hB2⟩
      have hbd := hbel.trans (hB2.mono hbel.size)
      have hq2 : ¬ q - m < 0 := by omega
      clear hbel hB2
      go_wp2
      go_roundw
      case rel => exact ⟨k + 1, q - m, by omega, by go_num, rfl, HN, hbd⟩
      case measure => simp [intOf]; omega
    · have hk' : k = n := by omega
      have HE : Hid (q = left - (totI ms : Nat)) := Lib.hid (by have h1 := HQ.out; have h2 := Ht.out; have h3 := Hn.out; have h4 : tl (ms.map (·.ds)) k = tl (ms.map (·.ds)) ms.length := by { rw [hk', h3] }; omega)
      clear h hnl
      go_wp2
      go_ret
      exact ⟨by rw [← HE.out]; rfl, hbel⟩
end Go.Proofs.Ytfeldhhbnhdodaa
