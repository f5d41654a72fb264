/- Contracts of ToLuma and FromLuma in the program and in the model. -/
import Derived.Test.YtpkeliinnkhpoaaLumM
import Derived.Test.YtpkeliinnkhpoaaDiv
import Derived.Deep.QuietTactic
import Derived.BigQuiet
import Derived.Deep.RegionLaw
import Derived.Deep.RegionHeld3
import Derived.RegionTactic
import Derived.BigRegion
namespace Go.Proofs.Ytpkeliinnkhpoaa
open Go.RowKit
set_option linter.unusedSimpArgs false
set_option linter.unusedVariables false

theorem below_dn {B : Nat} {a w : World} (h : Below B a w) (n : Nat) : Below B a (w.drewN n) := ⟨h.os, h.tape, h.output, h.size, h.block⟩
/-- Whether numbers are a pixel of three planes. -/
def vp3 (xs : List Int) : Bool := decide (xs.length = 3) && allB 0 255 xs
set_option maxHeartbeats 1000000 in
theorem sVp_any (A : Option Addr) (c B : Nat) (xs : List Int) (w : World) (h : Rds .i64 w B A xs) (hl : xs.length ≤ 2000000) :
    Calls Try.prog 48 #[.slice A xs.length c] w fun e w' => e = .returned (.bool (vp3 xs)) ∧ w = w' := by
  have Hh := Lib.hid h
  clear h
  by_cases h3 : xs.length = 3
  · have HR : Hid (allB 0 255 xs = vp3 xs) := Lib.hid (by simp [vp3, h3])
    have hq : ((xs.length : Int) == 3) = true := by rw [h3]; rfl
    clear h3
    go_enter Try.func48, Try.ntmps48
    go_wp2_with fail
    refine (sAllIn_any A c B xs 0 255 w Hh.out (by omega)).mono ?_
    rintro e w' ⟨rfl, rfl⟩
    go_wp2
    go_ret
    exact ⟨ret_bool HR.out, rfl⟩
  · have HR : Hid (vp3 xs = false) := Lib.hid (by simp [vp3, h3])
    have hq : ((xs.length : Int) == 3) = false := beq_eq_false_iff_ne.2 (by omega)
    clear h3
    go_enter Try.func48, Try.ntmps48
    go_wp2
    go_ret
    exact ⟨ret_bool HR.out.symm, rfl⟩
/-- Whether numbers are a pixel. -/
def vpx (xs : List Int) (P : Int) : Bool := decide ((xs.length : Int) = P) && allB 0 255 xs
set_option maxHeartbeats 1000000 in
theorem iVp_any (A : Option Addr) (c B : Nat) (xs : List Int) (P : Int) (w : World) (h : Rds .i64 w B A xs) (hl : xs.length ≤ 2000000) :
    Calls Try.prog 50 #[.slice A xs.length c, .int .i64 P] w fun e w' => e = .returned (.bool (vpx xs P)) ∧ w = w' := by
  have Hh := Lib.hid h
  clear h
  by_cases h3 : (xs.length : Int) = P
  · have HR : Hid (allB 0 255 xs = vpx xs P) := Lib.hid (by simp [vpx, h3])
    have hq : ((xs.length : Int) == P) = true := by rw [h3]; simp
    clear h3
    go_enter Try.func50, Try.ntmps50
    go_wp2_with fail
    refine (areBytes_any A c B xs w Hh.out (by omega)).mono ?_
    rintro e w' ⟨rfl, rfl⟩
    go_wp2
    go_ret
    exact ⟨ret_bool HR.out, rfl⟩
  · have HR : Hid (vpx xs P = false) := Lib.hid (by simp [vpx, h3])
    have hq : ((xs.length : Int) == P) = false := beq_eq_false_iff_ne.2 h3
    clear h3
    go_enter Try.func50, Try.ntmps50
    go_wp2
    go_ret
    exact ⟨ret_bool HR.out.symm, rfl⟩
set_option maxHeartbeats 4000000 in
theorem iLum_any (r g b : Int) (w : World) (h0 : 0 ≤ r ∧ r ≤ 255) (h1 : 0 ≤ g ∧ g ≤ 255) (h2 : 0 ≤ b ∧ b ≤ 255) :
    Calls Try.prog 51 #[.agg #[.int .i64 r, .int .i64 g, .int .i64 b]] w fun e w' => e = .returned (.agg #[.int .i64 (lumY r g b), .int .i64 (r - b), .int .i64 (lumG r g b)]) ∧ Below w.heap.size w w' := by
  obtain ⟨h0, h0'⟩ := h0
  obtain ⟨h1, h1'⟩ := h1
  obtain ⟨h2, h2'⟩ := h2
  have HB := Lib.hid (((Below.refl w.heap.size w).alloc (Nat.le_refl _) (.cells #[.int .i64 r, .int .i64 g, .int .i64 b] 54)).alloc (by simp) (.cells #[.int .i64 0, .int .i64 0, .int .i64 0] 52))
  go_enter Try.func51, Try.ntmps51
  go_wp2
  have rw1 : IntKind.i64.wrap (r - b) = r - b := IntWalk.i64_in _ (by omega)
  have rw2 : IntKind.i64.wrap (b + (r - b) / 2) = b + (r - b) / 2 := IntWalk.i64_in _ (by omega)
  go_quiet ((go_at_call 68; exact Calls.quiet_of_same ((iHalf_any (r - b) _ (by omega) (by omega)).mono fun _ _ h => ⟨h.1, h.2.symm⟩)))
  clear rw1 rw2
  go_wp2_with fail
  refine (iHalf_any _ _ (by omega) (by omega)).mono ?_
  rintro e w' ⟨rfl, rfl⟩
  go_wp2
  exact bodyPost_ret (v := .agg #[.int .i64 (lumY r g b), .int .i64 (r - b), .int .i64 (lumG r g b)]) (by simp [results, Try.results51, go_sem, lumY, lumG]) rfl ⟨rfl, by (repeat' (first | (exact HB.out) | (refine Below.setCell ?_ (by first | omega | (simp; done) | (simp; omega)) _) | (refine below_dn ?_ _) | (refine Below.drew ?_) | (refine Below.alloc ?_ (by first | omega | (simp; done) | (simp; omega)) _) | (exact Below.refl _ _)))⟩
theorem rds3 {w : World} {B : Nat} {A : Option Addr} {a b c : Int} (h : Rds .i64 w B A [a, b, c]) : ∃ g off, A = some ⟨g, off, none⟩ ∧ g < B ∧ w.cell? ⟨g, off, none⟩ = some (.int .i64 a) ∧ w.cell? ⟨g, off + 1, none⟩ = some (.int .i64 b) ∧ w.cell? ⟨g, off + 2, none⟩ = some (.int .i64 c) := by
  obtain ⟨g, off, hA, hg, hc⟩ := h.cells_ (j := 0) (by simp)
  exact ⟨g, off, hA, hg, hc 0 (by simp), hc 1 (by simp), hc 2 (by simp)⟩
theorem rds3_mk {w : World} {p : Nat} {a b c : Int} (hp : p < w.heap.size) (h0 : w.cell? ⟨p, 0, none⟩ = some (.int .i64 a)) (h1 : w.cell? ⟨p, 1, none⟩ = some (.int .i64 b)) (h2 : w.cell? ⟨p, 2, none⟩ = some (.int .i64 c)) : Rds .i64 w w.heap.size (some ⟨p, 0, none⟩) [a, b, c] :=
  .inr ⟨p, 0, rfl, hp, fun j hj => by
    match j, hj with
    | 0, _ => exact h0
    | 1, _ => exact h1
    | 2, _ => exact h2⟩
/-- A list of three that was written out. -/
theorem made3 {w W : World} {a b c : Int} (hb : Below w.heap.size w W) : Own (W.alloc (.cells #[.int .i64 a, .int .i64 b, .int .i64 c] 3)) w.heap.size (.slice (some ⟨W.heap.size, 0, none⟩) 3 3) [a, b, c] ∧ Below w.heap.size w (W.alloc (.cells #[.int .i64 a, .int .i64 b, .int .i64 c] 3)) :=
  ⟨(Blk.new W [a, b, c]).own hb.size (by unfold maxLen; simp), hb.alloc hb.size _⟩
theorem made3_ret {w W : World} {a b c : Int} {L : List Int} {n : Nat} {e : Ending} (hL : L = [a, b, c]) (he : e = .returned (.slice (some ⟨n, 0, none⟩) 3 3)) (hn : n = W.heap.size) (hb : Below w.heap.size w W) : Made L w e (W.alloc (.cells #[.int .i64 a, .int .i64 b, .int .i64 c] 3)) := by
  subst hL hn he
  exact ⟨_, rfl, (made3 hb).1, (made3 hb).2⟩
set_option maxHeartbeats 4000000 in
theorem s_ToLuma (A : Option Addr) (c : Nat) (xs : List Int) (w : World) (h : Rds .i64 w w.heap.size A xs) (hl : xs.length ≤ 2000000) :
    Calls Try.prog 16 #[.slice A xs.length c] w (Made (lum xs) w) := by
  cases hv : vp3 xs
  · have HL := Lib.hid (lum_no (xs := xs) (by unfold vp3 at hv; by_cases h3 : xs.length = 3; exact .inr (by simpa [h3] using hv); exact .inl h3))
    have HH := Lib.hid h
    clear h
    go_enter Try.func16, Try.ntmps16
    go_wp2_with fail
    refine (sVp_any A c _ xs w HH.out hl).mono ?_
    rintro e w' ⟨rfl, rfl⟩
    rw [hv]
    go_wp2
    go_ret
    exact ⟨_, rfl, by rw [HL.out]; exact World.ownsRow_nil _ _ _ _, Below.refl _ _⟩
  · have hv' : xs.length = 3 ∧ allB 0 255 xs = true := by simpa [vp3] using hv
    obtain ⟨x, y, z, rfl⟩ := three_of hv'.1
    obtain ⟨⟨h0, h0'⟩, ⟨h1, h1'⟩, ⟨h2, h2'⟩⟩ := allB_three.1 hv'.2
    have HL := Lib.hid (lum_yes hv'.2)
    obtain ⟨g, off, rfl, hg, c0, c1, c2⟩ := rds3 h
    have HH := Lib.hid h
    clear h hv'
    go_enter Try.func16, Try.ntmps16
    go_wp2_with fail
    refine (sVp_any _ c _ [x, y, z] w HH.out hl).mono ?_
    rintro e w' ⟨rfl, rfl⟩
    rw [hv]
    clear hv
    go_wp2
    have rw0 : IntKind.i64.wrap (x - z) = x - z := IntWalk.i64_in _ (by omega)
    go_quiet (fail)
    clear rw0
    generalize hw1 : w.drewN nq = w1
    have d1 : w1.cell? ⟨g, off + 1, none⟩ = some (.int .i64 y) := by rw [← hw1]; exact c1
    have d2 : w1.cell? ⟨g, off + 2, none⟩ = some (.int .i64 z) := by rw [← hw1]; exact c2
    have HB : Hid (Below w.heap.size w w1) := Lib.hid (by rw [← hw1]; exact below_dn (Below.refl _ _) nq)
    clear hw1 c0 c1 c2
    go_wp2
    have rw2 : IntKind.i64.wrap (z + (x - z) / 2) = z + (x - z) / 2 := IntWalk.i64_in _ (by omega)
    go_quiet ((go_at_call 49; exact Calls.quiet_of_same ((sFlr_any (x - z) 2 _ (by omega) (by omega) (by omega)).mono fun _ _ h => ⟨h.1, h.2.symm⟩)))
    clear rw2
    generalize hw2 : w1.drewN nq = w2
    have e1 : w2.cell? ⟨g, off + 1, none⟩ = some (.int .i64 y) := by rw [← hw2]; exact d1
    have HB2 : Hid (Below w.heap.size w w2) := Lib.hid (by rw [← hw2]; exact below_dn HB.out nq)
    clear hw2 HB d1 d2
    go_wp2_with fail
    refine (sFlr_any _ 2 _ (by omega) (by omega) (by omega)).mono ?_
    rintro e w' ⟨rfl, rfl⟩
    go_wp2
    go_ret
    exact made3_ret HL.out rfl rfl HB2.out
theorem keep3 {W W' : World} {g off : Nat} {B : Nat} {u0 u1 u2 : Option Value} (hB : Below B W W') (hg : g < B) (c0 : W.cell? ⟨g, off, none⟩ = u0) (c1 : W.cell? ⟨g, off + 1, none⟩ = u1) (c2 : W.cell? ⟨g, off + 2, none⟩ = u2) :
    W'.cell? ⟨g, off, none⟩ = u0 ∧ W'.cell? ⟨g, off + 1, none⟩ = u1 ∧ W'.cell? ⟨g, off + 2, none⟩ = u2 :=
  ⟨(hB.cell (p := ⟨g, off, none⟩) hg).trans c0, (hB.cell (p := ⟨g, off + 1, none⟩) hg).trans c1, (hB.cell (p := ⟨g, off + 2, none⟩) hg).trans c2⟩
theorem bcell3 {W w1 : World} (hb : Below W.heap.size W w1) : (∀ b o, b < W.heap.size → w1.cell? ⟨b, o, none⟩ = W.cell? ⟨b, o, none⟩) ∧ (∀ b o, b < W.heap.size → w1.frozen? ⟨b, o, none⟩ = W.frozen? ⟨b, o, none⟩) :=
  ⟨fun b o h => hb.cell (p := ⟨b, o, none⟩) h, fun b o h => hb.frozen (p := ⟨b, o, none⟩) h⟩
set_option maxHeartbeats 4000000 in
theorem i_ToLuma (A : Option Addr) (c : Nat) (xs : List Int) (w : World) (h : Rds .i64 w w.heap.size A xs) (hl : xs.length ≤ 2000000) :
    Calls Try.prog 18 #[.slice A xs.length c] w (Made (lum xs) w) := by
  cases hv : vpx xs 3
  · have HL := Lib.hid (lum_no (xs := xs) (by unfold vpx at hv; by_cases h3 : xs.length = 3; exact .inr (by simpa [h3] using hv); exact .inl h3))
    have HH := Lib.hid h
    clear h
    go_enter Try.func18, Try.ntmps18
    go_wp2_with fail
    refine (iVp_any A c _ xs 3 w HH.out hl).mono ?_
    rintro e w' ⟨rfl, rfl⟩
    rw [hv]
    go_wp2
    go_ret
    exact ⟨_, rfl, by rw [HL.out]; exact World.ownsRow_nil _ _ _ _, Below.refl _ _⟩
  · have hv' : xs.length = 3 ∧ allB 0 255 xs = true := by have := hv; simp [vpx] at this; exact ⟨by omega, this.2⟩
    obtain ⟨x, y, z, rfl⟩ := three_of hv'.1
    obtain ⟨⟨h0, h0'⟩, ⟨h1, h1'⟩, ⟨h2, h2'⟩⟩ := allB_three.1 hv'.2
    have HL := Lib.hid (lum_yes hv'.2)
    obtain ⟨g, off, rfl, hg, c0, c1, c2⟩ := rds3 h
    have HH := Lib.hid h
    clear h hv'
    go_enter Try.func18, Try.ntmps18
    go_wp2_with fail
    refine (iVp_any _ c _ [x, y, z] 3 w HH.out hl).mono ?_
    rintro e w' ⟨rfl, rfl⟩
    rw [hv]
    clear hv
    go_wp2
    have hn1 : ¬ g = w.heap.size := by omega
    have hn2 : ¬ w.heap.size = g := by omega
    go_region_held3 (fun w' => w'.cell? ⟨g, off, none⟩ = some (.int .i64 x) ∧ w'.cell? ⟨g, off + 1, none⟩ = some (.int .i64 y) ∧ w'.cell? ⟨g, off + 2, none⟩ = some (.int .i64 z))
      (first | exact ⟨c0, c1, c2⟩ | exact ⟨d0, d1, d2⟩ | go_keep)
      (first | (go_at_call 51; refine (iLum_any x y z _ ⟨h0, h0'⟩ ⟨h1, h1'⟩ ⟨h2, h2'⟩).mono ?_; rintro e w1 ⟨rfl, hB⟩; obtain ⟨hc, hf⟩ := bcell3 hB; have HB := Lib.hid hB; have hz := hB.size; simp at hz; have hn3 : ¬ g = w1.heap.size := (by omega); have hn4 : ¬ w1.heap.size = g := (by omega); have d0 : w1.cell? ⟨g, off, none⟩ = some (.int .i64 x) := (by rw [hc g off (by first | exact hg | (simp; omega))]; go_simp); have d1 : w1.cell? ⟨g, off + 1, none⟩ = some (.int .i64 y) := (by rw [hc g (off + 1) (by first | exact hg | (simp; omega))]; go_simp); have d2 : w1.cell? ⟨g, off + 2, none⟩ = some (.int .i64 z) := (by rw [hc g (off + 2) (by first | exact hg | (simp; omega))]; go_simp); clear hB))
    all_goals
      have HW : Hid (Below w.heap.size w w1) := by
        first
        | exact Lib.hid ((Below.refl w.heap.size w).drew.trans HB.out)
        | exact Lib.hid ((((Below.refl w.heap.size w).alloc (Nat.le_refl _) _).drew).trans (HB.out.mono (by simp)))
      clear HB c0 c1 c2 d0 d1 d2 hn1 hn2
      go_wp2
      go_ret
      refine made3_ret HL.out rfl (by simp) ?_
      (repeat' (first | (exact HW.out) | (refine Below.setCell ?_ (by first | omega | (simp; done) | (simp; omega)) _) | (refine below_dn ?_ _) | (refine Below.drew ?_) | (refine Below.alloc ?_ (by first | omega | (simp; done) | (simp; omega)) _) | (exact Below.refl _ _)))
/-- The call made a new row and answered whether there is one. -/
def Made2 (xs : List Int) (b : Bool) (w : World) (e : Ending) (w' : World) : Prop := ∃ v, e = .returned (.tuple #[v, .bool b]) ∧ Own w' w.heap.size v xs ∧ Below w.heap.size w w'
theorem Made2.no {xs : List Int} {b : Bool} {w w' : World} (hx : xs = []) (hb : b = false) (h : Below w.heap.size w w') : Made2 xs b w (.returned (.tuple #[.slice none 0 0, .bool false])) w' := by
  subst hx hb
  exact ⟨_, rfl, World.ownsRow_nil _ _ _ _, h⟩
theorem Made2.yes {xs ys : List Int} {b : Bool} {w w' : World} {v : Value} (hx : xs = ys) (hb : b = true) (hO : Own w' w.heap.size v ys) (h : Below w.heap.size w w') : Made2 xs b w (.returned (.tuple #[v, .bool true])) w' := by
  subst hx hb
  exact ⟨_, rfl, hO, h⟩
theorem frlOk_no {xs : List Int} (h : ¬ (xs.length = 3 ∧ allB (-255) 255 xs = true)) : frlOk xs = false ∧ frl xs = [] := by
  have e : frlOk xs = false := decide_eq_false (fun hh => h ⟨hh.1, hh.2.1⟩)
  exact ⟨e, frl_no e⟩
theorem frlOk_of {y o g : Int} (h : allB (-255) 255 [y, o, g] = true) : frlOk [y, o, g] = allB 0 255 [o + rgbB y o g, rgbG y g, rgbB y o g] ∧ (allB 0 255 [o + rgbB y o g, rgbG y g, rgbB y o g] = true → frl [y, o, g] = [o + rgbB y o g, rgbG y g, rgbB y o g]) := by
  have e : frlOk [y, o, g] = allB 0 255 [o + rgbB y o g, rgbG y g, rgbB y o g] := by
    unfold frlOk
    cases hb : allB 0 255 [o + rgbB y o g, rgbG y g, rgbB y o g]
    · exact decide_eq_false (fun hh => by have := hh.2.2; rw [show unl [y, o, g] = [o + rgbB y o g, rgbG y g, rgbB y o g] from rfl, hb] at this; cases this)
    · exact decide_eq_true ⟨rfl, h, hb⟩
  exact ⟨e, fun hb => by unfold frl; rw [if_pos (e.trans hb)]; rfl⟩
set_option maxHeartbeats 4000000 in
theorem s_FromLuma (A : Option Addr) (c : Nat) (xs : List Int) (w : World) (h : Rds .i64 w w.heap.size A xs) (hl : xs.length ≤ 2000000) :
    Calls Try.prog 22 #[.slice A xs.length c] w (Made2 (frl xs) (frlOk xs) w) := by
  by_cases h3 : xs.length = 3
  · obtain ⟨y, o, g', rfl⟩ := three_of h3
    cases hb : allB (-255) 255 [y, o, g']
    · obtain ⟨e1, e2⟩ := frlOk_no (xs := [y, o, g']) (fun hh => by rw [hb] at hh; cases hh.2)
      have HL := Lib.hid e1
      have HF := Lib.hid e2
      have HH := Lib.hid h
      clear h e1 e2 h3
      go_enter Try.func22, Try.ntmps22
      go_wp2_with fail
      refine (sAllIn_any A c _ [y, o, g'] (-255) 255 w HH.out (by simp)).mono ?_
      rintro e w' ⟨rfl, rfl⟩
      rw [hb]
      go_wp2
      go_ret2
      exact Made2.no HF.out HL.out (Below.refl _ _)
    · obtain ⟨⟨h0, h0'⟩, ⟨h1, h1'⟩, ⟨h2, h2'⟩⟩ := allB_three.1 hb
      obtain ⟨e1, e2⟩ := frlOk_of hb
      have HL := Lib.hid e1
      have HF := Lib.hid e2
      obtain ⟨g, off, rfl, hg, c0, c1, c2⟩ := rds3 h
      have HH := Lib.hid h
      clear h e1 e2 h3
      go_enter Try.func22, Try.ntmps22
      go_wp2_with fail
      refine (sAllIn_any _ c _ [y, o, g'] (-255) 255 w HH.out (by simp)).mono ?_
      rintro e w' ⟨rfl, rfl⟩
      rw [hb]
      clear hb
      go_wp2
      have rw2 : IntKind.i64.wrap (y - g' / 2) = y - g' / 2 := IntWalk.i64_in _ (by omega)
      go_quiet ((go_at_call 49; exact Calls.quiet_of_same ((sFlr_any g' 2 _ (by omega) (by omega) (by omega)).mono fun _ _ h => ⟨h.1, h.2.symm⟩)))
      clear rw2
      generalize hw2 : w.drewN nq = w2
      have d1 : w2.cell? ⟨g, off + 1, none⟩ = some (.int .i64 o) := by rw [← hw2]; exact c1
      have d2 : w2.cell? ⟨g, off + 2, none⟩ = some (.int .i64 g') := by rw [← hw2]; exact c2
      have HB : Hid (Below w.heap.size w w2) := Lib.hid (by rw [← hw2]; exact below_dn (Below.refl _ _) nq)
      clear hw2 c0 c1 c2
      go_wp2_with fail
      refine (sFlr_any o 2 _ (by omega) (by omega) (by omega)).mono ?_
      rintro e w' ⟨rfl, rfl⟩
      go_wp2_with fail
      have hM := made3 (w := w) (W := w2) (a := o + rgbB y o g') (b := rgbG y g') (c := rgbB y o g') HB.out
      refine (sVp_any _ 3 _ [o + rgbB y o g', rgbG y g', rgbB y o g'] _ hM.1.rds.2 (by simp)).mono ?_
      rintro e w' ⟨rfl, rfl⟩
      have hv : vp3 [o + rgbB y o g', rgbG y g', rgbB y o g'] = allB 0 255 [o + rgbB y o g', rgbG y g', rgbB y o g'] := by simp [vp3]
      rw [hv]
      have HM := Lib.hid hM
      clear hM hv
      cases hb2 : allB 0 255 [o + rgbB y o g', rgbG y g', rgbB y o g']
      · have HL2 := Lib.hid (HL.out.trans hb2)
        go_wp2
        go_ret2
        exact Made2.no (frl_no HL2.out) HL2.out HM.out.2
      · have HL2 := Lib.hid (HL.out.trans hb2)
        have HF2 := Lib.hid (HF.out hb2)
        go_wp2
        go_ret2
        exact Made2.yes HF2.out HL2.out HM.out.1 HM.out.2
  · obtain ⟨e1, e2⟩ := frlOk_no (xs := xs) (fun hh => h3 hh.1)
    have HL := Lib.hid e1
    have HF := Lib.hid e2
    have hq : ((xs.length : Int) == 3) = false := beq_eq_false_iff_ne.2 (by omega)
    have hq2 : ((xs.length : Int) != 3) = true := by simp; omega
    clear h e1 e2 h3
    go_enter Try.func22, Try.ntmps22
    go_wp2
    go_ret2
    exact Made2.no HF.out HL.out (Below.refl _ _)
set_option maxHeartbeats 4000000 in
theorem iRgb_any (y o g : Int) (w : World) (h0 : -255 ≤ y ∧ y ≤ 255) (h1 : -255 ≤ o ∧ o ≤ 255) (h2 : -255 ≤ g ∧ g ≤ 255) :
    Calls Try.prog 53 #[.agg #[.int .i64 y, .int .i64 o, .int .i64 g]] w fun e w' => e = .returned (.agg #[.int .i64 (o + rgbB y o g), .int .i64 (rgbG y g), .int .i64 (rgbB y o g)]) ∧ Below w.heap.size w w' := by
  obtain ⟨h0, h0'⟩ := h0
  obtain ⟨h1, h1'⟩ := h1
  obtain ⟨h2, h2'⟩ := h2
  have HB := Lib.hid (((Below.refl w.heap.size w).alloc (Nat.le_refl _) (.cells #[.int .i64 y, .int .i64 o, .int .i64 g] 52)).alloc (by simp) (.cells #[.int .i64 0, .int .i64 0, .int .i64 0] 54))
  have hE : o + rgbB y o g = y - g / 2 - o / 2 + o := by unfold rgbB; omega
  have hG : rgbG y g = y - g / 2 + g := by unfold rgbG; omega
  have HE := Lib.hid hE
  have HG := Lib.hid hG
  clear hE hG
  go_enter Try.func53, Try.ntmps53
  go_wp2
  have rw1 : IntKind.i64.wrap (y - g / 2) = y - g / 2 := IntWalk.i64_in _ (by omega)
  go_quiet ((go_at_call 68; exact Calls.quiet_of_same ((iHalf_any g _ (by omega) (by omega)).mono fun _ _ h => ⟨h.1, h.2.symm⟩)))
  clear rw1
  go_wp2_with fail
  refine (iHalf_any _ _ (by omega) (by omega)).mono ?_
  rintro e w' ⟨rfl, rfl⟩
  go_wp2
  exact bodyPost_ret (v := .agg #[.int .i64 (o + rgbB y o g), .int .i64 (rgbG y g), .int .i64 (rgbB y o g)]) (by rw [HE.out, HG.out]; simp [results, Try.results53, go_sem, rgbB]) rfl ⟨rfl, by (repeat' (first | (exact HB.out) | (refine Below.setCell ?_ (by first | omega | (simp; done) | (simp; omega)) _) | (refine below_dn ?_ _) | (refine Below.drew ?_) | (refine Below.alloc ?_ (by first | omega | (simp; done) | (simp; omega)) _) | (exact Below.refl _ _)))⟩
/-- Whatever a luma is, its color has three numbers. -/
def Three (w : World) (e : Ending) (w' : World) : Prop := ∃ r g b : Int, e = .returned (.agg #[.int .i64 r, .int .i64 g, .int .i64 b]) ∧ Below w.heap.size w w'
set_option maxHeartbeats 4000000 in
theorem iRgb_free (y o g : Int) (w : World) : Calls Try.prog 53 #[.agg #[.int .i64 y, .int .i64 o, .int .i64 g]] w (Three w) := by
  have HB := Lib.hid (((Below.refl w.heap.size w).alloc (Nat.le_refl _) (.cells #[.int .i64 y, .int .i64 o, .int .i64 g] 52)).alloc (by simp) (.cells #[.int .i64 0, .int .i64 0, .int .i64 0] 54))
  go_enter Try.func53, Try.ntmps53
  go_wp2
  go_quiet ((go_at_call 68; exact Calls.quiet_of_same ((iHalf_free g _).mono fun _ _ h => ⟨h.1, h.2.symm⟩)))
  go_wp2_with fail
  refine (iHalf_free _ _).mono ?_
  rintro e w' ⟨rfl, rfl⟩
  go_wp2
  refine bodyPost_ret (v := .agg #[.int .i64 _, .int .i64 _, .int .i64 _]) (by simp [results, Try.results53, go_sem]; exact ⟨rfl, rfl, rfl⟩) rfl ⟨_, _, _, rfl, by (repeat' (first | (exact HB.out) | (refine Below.setCell ?_ (by first | omega | (simp; done) | (simp; omega)) _) | (refine below_dn ?_ _) | (refine Below.drew ?_) | (refine Below.alloc ?_ (by first | omega | (simp; done) | (simp; omega)) _) | (exact Below.refl _ _)))⟩
end Go.Proofs.Ytpkeliinnkhpoaa
