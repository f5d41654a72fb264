/- Contract of LineRegion in the program. -/
import Derived.Test.YtbjgjjhfnaiocaaDoorLnI
import Derived.Test.YtbjgjjhfnaiocaaDoorRnI
import Derived.Laws.CopyOwn
namespace Go.Proofs.YtbjgjjhfnaiocaaDoor
open Go.RowKit
set_option linter.unusedSimpArgs false
set_option linter.unusedVariables false
set_option maxRecDepth 100000

/-- What a line's loop keeps: two walkers and the rows of bits. -/
def LnSt (w : World) (bc br bl : Nat) (x0 y0 x1 y1 : Int) (n k : Nat) (u : World) : Prop :=
  Bx u bc 51 (wkC x0 x1 n k) ∧ Bx u br 51 (wkC y0 y1 n k) ∧ Below w.heap.size w u
def LnB (bl : Nat) (x0 y0 x1 y1 : Int) (k : Nat) (u : World) : Prop := ∃ B, asR B (ptB (lnP x0 y0 x1 y1) k) ∧ Bx u bl 56 (btC B)
theorem bxo {w w' : World} {b g : Nat} {T : TypeId} {cs : Array Value} (h : Bx w b T cs) (hg : w.grownBy w' (some g)) (hne : b ≠ g) : Bx w' b T cs := (hg.block b h.lt (by simpa using hne)).trans h
theorem wk_at {w : World} {b : Nat} {T : TypeId} {a c : Int} {n k X : Nat} (h : Bx w b T (wkC a c n k)) (hX : lnX a c n k = (X : Int)) : w.cell? ⟨b, 0, none⟩ = some (.int .i64 (X : Int)) := by
  rw [← hX]; exact (cell_of_row w b 0 _ _ _ h).trans rfl
theorem ln_xy {x0 y0 x1 y1 : Int} (h0 : grB x0 y0) (h1 : grB x1 y1) {n k : Nat} (hn : n = lnS x0 y0 x1 y1) (hk : k ≤ n) : ∃ X Y : Nat, lnX x0 x1 n k = X ∧ lnX y0 y1 n k = Y ∧ X < 16 ∧ Y < 16 ∧ lnP x0 y0 x1 y1 k = Y * 16 + X := by
  subst hn
  obtain ⟨⟨a, b⟩, c, d⟩ := ln_in h0 h1 hk
  obtain ⟨⟨p, q⟩, r, s⟩ := h0
  obtain ⟨⟨p', q'⟩, r', s'⟩ := h1
  unfold lnP
  generalize lnX x0 x1 (lnS x0 y0 x1 y1) k = U at *
  generalize lnX y0 y1 (lnS x0 y0 x1 y1) k = V at *
  exact ⟨U.toNat, V.toNat, by omega, by omega, by omega, by omega, by omega⟩
theorem ln_info : (Tryd.prog.info? 56).map (·.size) = some 16 := by kernel_rfl
set_option maxHeartbeats 16000000 in
theorem i_LineRegion (x0 y0 x1 y1 : Int) (w : World) (hT : Tab w) : Calls Tryd.prog 9 #[.int .i64 x0, .int .i64 y0, .int .i64 x1, .int .i64 y1] w (RunsIf (lnOk x0 y0 x1 y1) (lnG x0 y0 x1 y1) w) := by
  have HT := Lib.hid hT
  clear hT
  cases h1 : ongB x0 y0
  · have H : Hid (lnOk x0 y0 x1 y1 = false) := Lib.hid (by unfold lnOk; rw [h1, Bool.false_and])
    go_enter Tryd.func9, Tryd.ntmps9
    go_wp2_with fail
    refine (iOng_any x0 y0 _).mono ?_
    rintro e w1 ⟨rfl, hb1⟩
    rw [h1]
    go_wp2
    go_ret
    exact RunsIf.no H.out hb1
  · cases h2 : ongB x1 y1
    · have H : Hid (lnOk x0 y0 x1 y1 = false) := Lib.hid (by unfold lnOk; rw [h2, Bool.and_false])
      go_enter Tryd.func9, Tryd.ntmps9
      go_wp2_with fail
      refine (iOng_any x0 y0 _).mono ?_
      rintro e w1 ⟨rfl, hb1⟩
      rw [h1]
      have HB1 := Lib.hid hb1
      clear hb1
      go_wp2_with fail
      refine (iOng_any x1 y1 _).mono ?_
      rintro e w2 ⟨rfl, hb2⟩
      rw [h2]
      have HB2 := Lib.hid (HB1.out.trans (hb2.mono HB1.out.size))
      clear hb2
      go_wp2
      go_ret
      exact RunsIf.no H.out HB2.out
    · have H : Hid (lnOk x0 y0 x1 y1 = true) := Lib.hid (by unfold lnOk; rw [h1, h2]; rfl)
      have H0 := Lib.hid (ong_gr h1)
      have H1 := Lib.hid (ong_gr h2)
      obtain ⟨dx, hdx⟩ : ∃ d, d = (x1 - x0).natAbs := ⟨_, rfl⟩
      obtain ⟨dy, hdy⟩ : ∃ d, d = (y1 - y0).natAbs := ⟨_, rfl⟩
      obtain ⟨n, hn⟩ : ∃ n, n = lnS x0 y0 x1 y1 := ⟨_, rfl⟩
      have hmx : n = max dx dy := by rw [hn, hdx, hdy]; rfl
      have Hn := Lib.hid hn
      have HDX : Hid (∀ w : World, Calls Tryd.prog 28 #[.int .i64 x0, .int .i64 x1] w fun e w' => e = .returned (.int .i64 ((dx : Nat) : Int)) ∧ w = w') := Lib.hid (fun w => by
        rw [hdx]; exact i_dst x0 x1 w (by have := H0.out.1; omega) (by have := H1.out.1; omega))
      have HDY : Hid (∀ w : World, Calls Tryd.prog 28 #[.int .i64 y0, .int .i64 y1] w fun e w' => e = .returned (.int .i64 ((dy : Nat) : Int)) ∧ w = w') := Lib.hid (fun w => by
        rw [hdy]; exact i_dst y0 y1 w (by have := H0.out.2; omega) (by have := H1.out.2; omega))
      have HDD : Hid (((x1 - x0).natAbs ≤ n ∧ (y1 - y0).natAbs ≤ n) ∧ n ≤ 15) := Lib.hid (by have := H0.out; have := H1.out; unfold grB at *; omega)
      clear hn hdx hdy
      by_cases hcmp : (dx : Int) < (dy : Int)
      · have e : dy = n := by omega
        clear hmx
        rw [e] at hcmp HDY
        clear e
        have hn15 := HDD.out.2
        go_enter Tryd.func9, Tryd.ntmps9
        go_wp2_with fail
        refine (iOng_any x0 y0 _).mono ?_
        rintro e w1 ⟨rfl, hb1⟩
        rw [h1]
        have HB1 := Lib.hid hb1
        clear hb1
        go_wp2_with fail
        refine (iOng_any x1 y1 _).mono ?_
        rintro e w2 ⟨rfl, hb2⟩
        rw [h2]
        have HB2 := Lib.hid (HB1.out.trans (hb2.mono HB1.out.size))
        clear hb2 h1 h2 HB1
        go_wp2_with fail
        refine (HDX.out w2).mono ?_
        rintro e w2' ⟨rfl, rfl⟩
        go_wp2_with fail
        refine (HDY.out w2).mono ?_
        rintro e w2' ⟨rfl, rfl⟩
        clear HDX HDY
        go_wp2_with fail
        refine (i_newWalker x0 x1 n H0.out.1 H1.out.1 HDD.out.2 w2).mono ?_
        rintro e w3 ⟨rfl, hb3⟩
        have HB3 := Lib.hid (HB2.out.trans (hb3.mono HB2.out.size))
        clear hb3 HB2 hcmp
        go_wp2_with fail
        refine (i_newWalker y0 y1 n H0.out.2 H1.out.2 HDD.out.2 w3).mono ?_
        rintro e w4 ⟨rfl, hb4⟩
        have HB4 := Lib.hid (HB3.out.trans (hb4.mono HB3.out.size))
        clear hb4 HB3
        obtain ⟨u, hu⟩ : ∃ u, u = ((w4.alloc (.cells (wkC x0 x1 n 0) 51)).alloc (.cells (wkC y0 y1 n 0) 51)).alloc (.cells #[.int .u16 0, .int .u16 0, .int .u16 0, .int .u16 0, .int .u16 0, .int .u16 0, .int .u16 0, .int .u16 0, .int .u16 0, .int .u16 0, .int .u16 0, .int .u16 0, .int .u16 0, .int .u16 0, .int .u16 0, .int .u16 0] 56) := ⟨_, rfl⟩
        obtain ⟨bc, hbc⟩ : ∃ b, b = w4.heap.size := ⟨_, rfl⟩
        obtain ⟨br, hbr⟩ : ∃ b, b = w4.heap.size + 1 := ⟨_, rfl⟩
        obtain ⟨bl, hbl⟩ : ∃ b, b = w4.heap.size + 1 + 1 := ⟨_, rfl⟩
        have HS : Hid (LnSt w bc br bl x0 y0 x1 y1 n 0 u) := Lib.hid (by
          rw [hu, hbc, hbr]
          have e1 : Bx ((w4.alloc (.cells (wkC x0 x1 n 0) 51)).alloc (.cells (wkC y0 y1 n 0) 51)) (w4.heap.size + 1) 51 (wkC y0 y1 n 0) := by simpa using Bx.new (w4.alloc (.cells (wkC x0 x1 n 0) 51)) 51 (wkC y0 y1 n 0)
          exact ⟨((Bx.new w4 _ _).alloc _).alloc _, e1.alloc _, (((HB4.out.alloc HB4.out.size _).alloc (by have := HB4.out.size; simp; omega) _).alloc (by have := HB4.out.size; simp; omega) _)⟩)
        have HL : Hid (LnB bl x0 y0 x1 y1 0 u) := Lib.hid (by
          rw [hu, hbl]
          have e2 : Bx (((w4.alloc (.cells (wkC x0 x1 n 0) 51)).alloc (.cells (wkC y0 y1 n 0) 51)).alloc (.cells #[.int .u16 0, .int .u16 0, .int .u16 0, .int .u16 0, .int .u16 0, .int .u16 0, .int .u16 0, .int .u16 0, .int .u16 0, .int .u16 0, .int .u16 0, .int .u16 0, .int .u16 0, .int .u16 0, .int .u16 0, .int .u16 0] 56)) (w4.heap.size + 1 + 1) 56 #[.int .u16 0, .int .u16 0, .int .u16 0, .int .u16 0, .int .u16 0, .int .u16 0, .int .u16 0, .int .u16 0, .int .u16 0, .int .u16 0, .int .u16 0, .int .u16 0, .int .u16 0, .int .u16 0, .int .u16 0, .int .u16 0] := by simpa using Bx.new ((w4.alloc (.cells (wkC x0 x1 n 0) 51)).alloc (.cells (wkC y0 y1 n 0) 51)) 56 #[.int .u16 0, .int .u16 0, .int .u16 0, .int .u16 0, .int .u16 0, .int .u16 0, .int .u16 0, .int .u16 0, .int .u16 0, .int .u16 0, .int .u16 0, .int .u16 0, .int .u16 0, .int .u16 0, .int .u16 0, .int .u16 0]
          exact ⟨fun _ => 0, asR_zero _, e2⟩)
        have Hne : Hid ((bc ≠ br ∧ bc ≠ bl ∧ br ≠ bl) ∧ w.heap.size ≤ bc ∧ w.heap.size ≤ br ∧ w.heap.size ≤ bl) := Lib.hid (by have := HB4.out.size; omega)
        have HU := Lib.hid hu
        have Hbc := Lib.hid hbc
        have Hbr := Lib.hid hbr
        have Hbl := Lib.hid hbl
        clear hu hbc hbr hbl HB4
        go_upto_region 6 with fail
        rw [← HU.out, ← Hbl.out, ← Hbr.out, ← Hbc.out]
        clear HU Hbl Hbr Hbc
        obtain ⟨X, Y, eX, eY, hX, hY, hP⟩ := ln_xy H0.out H1.out Hn.out (k := 0) (Nat.zero_le _)
        have c0 := wk_at HS.out.1 eX
        have c1 := wk_at HS.out.2.1 eY
        obtain ⟨B, hA, hB⟩ := HL.out
        have HPut := Lib.hid (i_put bl X Y hX hY B hA.1 u hB)
        have HA := Lib.hid (asR_put hA hX hY hP)
        clear eX eY hX hY hP hA hB HL
        go_wp2_with fail
        refine HPut.out.mono ?_
        rintro e w6 ⟨rfl, hB6, hg6⟩
        have HI0 : Hid (LnSt w bc br bl x0 y0 x1 y1 n 0 w6 ∧ LnB bl x0 y0 x1 y1 1 w6) := Lib.hid ⟨⟨bxo HS.out.1 hg6 Hne.out.1.2.1, bxo HS.out.2.1 hg6 Hne.out.1.2.2, HS.out.2.2.grown hg6 HS.out.2.2.size (fun k hk => by cases hk; exact Hne.out.2.2.2)⟩, _, HA.out, hB6⟩
        clear c0 c1 HPut HA HS hB6 hg6
        go_wp2
        go_loopw [44] (fun i wr => ∃ k : Nat, k ≤ n ∧ i = .int .i64 (k : Int) ∧ Hid (LnSt w bc br bl x0 y0 x1 y1 n k wr ∧ LnB bl x0 y0 x1 y1 (k + 1) wr)) (fun i _ => n - (intOf i).toNat)
        case atStart => exact ⟨0, Nat.zero_le _, rfl, HI0⟩
        case round =>
          clear HI0
          obtain ⟨k, hk, rfl, hI⟩ := hrel
          rename World => wr
          by_cases hlt : k < n
          · have hkI : (k : Int) < (n : Int) := by omega
            have HS1 := Lib.hid (i_step bc x0 x1 n k H0.out.1 H1.out.1 (by omega) HDD.out.2 HDD.out.1.1 hlt wr hI.out.1.1)
            go_wp2_with fail
            refine HS1.out.mono ?_
            rintro e w7 ⟨rfl, h7, g7⟩
            have HC7 := Lib.hid h7
            have HR7 := Lib.hid (bxo hI.out.1.2.1 g7 (Ne.symm Hne.out.1.1))
            have HB7 : Hid (Below w.heap.size w w7) := Lib.hid (hI.out.1.2.2.grown g7 hI.out.1.2.2.size (fun k hk => by cases hk; exact Hne.out.2.1))
            have HL7 : Hid (LnB bl x0 y0 x1 y1 (k + 1) w7) := Lib.hid (by
              obtain ⟨B, hA, hB⟩ := hI.out.2
              exact ⟨B, hA, bxo hB g7 (Ne.symm Hne.out.1.2.1)⟩)
            have HS2 := Lib.hid (i_step br y0 y1 n k H0.out.2 H1.out.2 (by omega) HDD.out.2 HDD.out.1.2 hlt w7 HR7.out)
            clear hI HS1 h7 g7
            go_wp2_with fail
            refine HS2.out.mono ?_
            rintro e w8 ⟨rfl, h8, g8⟩
            have HC8 := Lib.hid (bxo HC7.out g8 Hne.out.1.1)
            have HR8 := Lib.hid h8
            have HB8 : Hid (Below w.heap.size w w8) := Lib.hid (HB7.out.grown g8 HB7.out.size (fun k hk => by cases hk; exact Hne.out.2.2.1))
            have HL8 : Hid (LnB bl x0 y0 x1 y1 (k + 1) w8) := Lib.hid (by
              obtain ⟨B, hA, hB⟩ := HL7.out
              exact ⟨B, hA, bxo hB g8 (Ne.symm Hne.out.1.2.2)⟩)
            clear HS2 h8 g8 HC7 HR7 HB7 HL7
            obtain ⟨X, Y, eX, eY, hX, hY, hP⟩ := ln_xy H0.out H1.out Hn.out (k := k + 1) (by omega)
            have c0 := wk_at HC8.out eX
            have c1 := wk_at HR8.out eY
            obtain ⟨B, hA, hB⟩ := HL8.out
            have HPut := Lib.hid (i_put bl X Y hX hY B hA.1 w8 hB)
            have HA := Lib.hid (asR_put hA hX hY hP)
            clear eX eY hX hY hP hA hB HL8
            go_wp2_with fail
            refine HPut.out.mono ?_
            rintro e w9 ⟨rfl, hB9, hg9⟩
            have HN : Hid (LnSt w bc br bl x0 y0 x1 y1 n (k + 1) w9 ∧ LnB bl x0 y0 x1 y1 (k + 1 + 1) w9) := Lib.hid ⟨⟨bxo HC8.out hg9 Hne.out.1.2.1, bxo HR8.out hg9 Hne.out.1.2.2, HB8.out.grown hg9 HB8.out.size (fun k hk => by cases hk; exact Hne.out.2.2.2)⟩, _, HA.out, hB9⟩
            clear c0 c1 HPut HA HC8 HR8 HB8 hB9 hg9
            go_wp2
            go_roundw
            case rel => exact ⟨k + 1, by omega, by go_num, HN⟩
            case measure => simp [intOf]; omega
          · obtain rfl : k = n := by omega
            have hkI : ¬ (k : Int) < (k : Int) := by omega
            obtain ⟨B, hA, hB⟩ := hI.out.2
            have HB := Lib.hid hB
            have HA := Lib.hid hA
            have HBw := Lib.hid hI.out.1.2.2
            have HT9 := Lib.hid (HT.out.below HBw.out)
            clear hI hA hB HT
            go_wp2_with (refine wpList_load_row rfl 56 _ rfl bl rfl 56 (btC B) (0, 0) _ HB.out Tryd.underlying56 rfl ln_info ?_)
            refine (i_runs B HA.out.1 wr HT9.out).mono ?_
            rintro e w10 hR
            have HE := Lib.hid (RunsIf.yes (w := w) (G := lnG x0 y0 x1 y1) H.out (fun a b ha hb => by
              rw [asR_grid HA.out a b ha hb, Hn.out]; rfl) HBw.out hR)
            obtain ⟨v5, rfl, _, _⟩ := hR
            clear HBw HB HA
            go_wp2
            go_ret
            exact HE.out

      · have e : dx = n := by omega
        clear hmx
        rw [e] at hcmp HDX
        clear e
        have hn15 := HDD.out.2
        go_enter Tryd.func9, Tryd.ntmps9
        go_wp2_with fail
        refine (iOng_any x0 y0 _).mono ?_
        rintro e w1 ⟨rfl, hb1⟩
        rw [h1]
        have HB1 := Lib.hid hb1
        clear hb1
        go_wp2_with fail
        refine (iOng_any x1 y1 _).mono ?_
        rintro e w2 ⟨rfl, hb2⟩
        rw [h2]
        have HB2 := Lib.hid (HB1.out.trans (hb2.mono HB1.out.size))
        clear hb2 h1 h2 HB1
        go_wp2_with fail
        refine (HDX.out w2).mono ?_
        rintro e w2' ⟨rfl, rfl⟩
        go_wp2_with fail
        refine (HDY.out w2).mono ?_
        rintro e w2' ⟨rfl, rfl⟩
        clear HDX HDY
        go_wp2_with fail
        refine (i_newWalker x0 x1 n H0.out.1 H1.out.1 HDD.out.2 w2).mono ?_
        rintro e w3 ⟨rfl, hb3⟩
        have HB3 := Lib.hid (HB2.out.trans (hb3.mono HB2.out.size))
        clear hb3 HB2 hcmp
        go_wp2_with fail
        refine (i_newWalker y0 y1 n H0.out.2 H1.out.2 HDD.out.2 w3).mono ?_
        rintro e w4 ⟨rfl, hb4⟩
        have HB4 := Lib.hid (HB3.out.trans (hb4.mono HB3.out.size))
        clear hb4 HB3
        obtain ⟨u, hu⟩ : ∃ u, u = ((w4.alloc (.cells (wkC x0 x1 n 0) 51)).alloc (.cells (wkC y0 y1 n 0) 51)).alloc (.cells #[.int .u16 0, .int .u16 0, .int .u16 0, .int .u16 0, .int .u16 0, .int .u16 0, .int .u16 0, .int .u16 0, .int .u16 0, .int .u16 0, .int .u16 0, .int .u16 0, .int .u16 0, .int .u16 0, .int .u16 0, .int .u16 0] 56) := ⟨_, rfl⟩
        obtain ⟨bc, hbc⟩ : ∃ b, b = w4.heap.size := ⟨_, rfl⟩
        obtain ⟨br, hbr⟩ : ∃ b, b = w4.heap.size + 1 := ⟨_, rfl⟩
        obtain ⟨bl, hbl⟩ : ∃ b, b = w4.heap.size + 1 + 1 := ⟨_, rfl⟩
        have HS : Hid (LnSt w bc br bl x0 y0 x1 y1 n 0 u) := Lib.hid (by
          rw [hu, hbc, hbr]
          have e1 : Bx ((w4.alloc (.cells (wkC x0 x1 n 0) 51)).alloc (.cells (wkC y0 y1 n 0) 51)) (w4.heap.size + 1) 51 (wkC y0 y1 n 0) := by simpa using Bx.new (w4.alloc (.cells (wkC x0 x1 n 0) 51)) 51 (wkC y0 y1 n 0)
          exact ⟨((Bx.new w4 _ _).alloc _).alloc _, e1.alloc _, (((HB4.out.alloc HB4.out.size _).alloc (by have := HB4.out.size; simp; omega) _).alloc (by have := HB4.out.size; simp; omega) _)⟩)
        have HL : Hid (LnB bl x0 y0 x1 y1 0 u) := Lib.hid (by
          rw [hu, hbl]
          have e2 : Bx (((w4.alloc (.cells (wkC x0 x1 n 0) 51)).alloc (.cells (wkC y0 y1 n 0) 51)).alloc (.cells #[.int .u16 0, .int .u16 0, .int .u16 0, .int .u16 0, .int .u16 0, .int .u16 0, .int .u16 0, .int .u16 0, .int .u16 0, .int .u16 0, .int .u16 0, .int .u16 0, .int .u16 0, .int .u16 0, .int .u16 0, .int .u16 0] 56)) (w4.heap.size + 1 + 1) 56 #[.int .u16 0, .int .u16 0, .int .u16 0, .int .u16 0, .int .u16 0, .int .u16 0, .int .u16 0, .int .u16 0, .int .u16 0, .int .u16 0, .int .u16 0, .int .u16 0, .int .u16 0, .int .u16 0, .int .u16 0, .int .u16 0] := by simpa using Bx.new ((w4.alloc (.cells (wkC x0 x1 n 0) 51)).alloc (.cells (wkC y0 y1 n 0) 51)) 56 #[.int .u16 0, .int .u16 0, .int .u16 0, .int .u16 0, .int .u16 0, .int .u16 0, .int .u16 0, .int .u16 0, .int .u16 0, .int .u16 0, .int .u16 0, .int .u16 0, .int .u16 0, .int .u16 0, .int .u16 0, .int .u16 0]
          exact ⟨fun _ => 0, asR_zero _, e2⟩)
        have Hne : Hid ((bc ≠ br ∧ bc ≠ bl ∧ br ≠ bl) ∧ w.heap.size ≤ bc ∧ w.heap.size ≤ br ∧ w.heap.size ≤ bl) := Lib.hid (by have := HB4.out.size; omega)
        have HU := Lib.hid hu
        have Hbc := Lib.hid hbc
        have Hbr := Lib.hid hbr
        have Hbl := Lib.hid hbl
        clear hu hbc hbr hbl HB4
        go_upto_region 6 with fail
        rw [← HU.out, ← Hbl.out, ← Hbr.out, ← Hbc.out]
        clear HU Hbl Hbr Hbc
        obtain ⟨X, Y, eX, eY, hX, hY, hP⟩ := ln_xy H0.out H1.out Hn.out (k := 0) (Nat.zero_le _)
        have c0 := wk_at HS.out.1 eX
        have c1 := wk_at HS.out.2.1 eY
        obtain ⟨B, hA, hB⟩ := HL.out
        have HPut := Lib.hid (i_put bl X Y hX hY B hA.1 u hB)
        have HA := Lib.hid (asR_put hA hX hY hP)
        clear eX eY hX hY hP hA hB HL
        go_wp2_with fail
        refine HPut.out.mono ?_
        rintro e w6 ⟨rfl, hB6, hg6⟩
        have HI0 : Hid (LnSt w bc br bl x0 y0 x1 y1 n 0 w6 ∧ LnB bl x0 y0 x1 y1 1 w6) := Lib.hid ⟨⟨bxo HS.out.1 hg6 Hne.out.1.2.1, bxo HS.out.2.1 hg6 Hne.out.1.2.2, HS.out.2.2.grown hg6 HS.out.2.2.size (fun k hk => by cases hk; exact Hne.out.2.2.2)⟩, _, HA.out, hB6⟩
        clear c0 c1 HPut HA HS hB6 hg6
        go_wp2
        go_loopw [44] (fun i wr => ∃ k : Nat, k ≤ n ∧ i = .int .i64 (k : Int) ∧ Hid (LnSt w bc br bl x0 y0 x1 y1 n k wr ∧ LnB bl x0 y0 x1 y1 (k + 1) wr)) (fun i _ => n - (intOf i).toNat)
        case atStart => exact ⟨0, Nat.zero_le _, rfl, HI0⟩
        case round =>
          clear HI0
          obtain ⟨k, hk, rfl, hI⟩ := hrel
          rename World => wr
          by_cases hlt : k < n
          · have hkI : (k : Int) < (n : Int) := by omega
            have HS1 := Lib.hid (i_step bc x0 x1 n k H0.out.1 H1.out.1 (by omega) HDD.out.2 HDD.out.1.1 hlt wr hI.out.1.1)
            go_wp2_with fail
            refine HS1.out.mono ?_
            rintro e w7 ⟨rfl, h7, g7⟩
            have HC7 := Lib.hid h7
            have HR7 := Lib.hid (bxo hI.out.1.2.1 g7 (Ne.symm Hne.out.1.1))
            have HB7 : Hid (Below w.heap.size w w7) := Lib.hid (hI.out.1.2.2.grown g7 hI.out.1.2.2.size (fun k hk => by cases hk; exact Hne.out.2.1))
            have HL7 : Hid (LnB bl x0 y0 x1 y1 (k + 1) w7) := Lib.hid (by
              obtain ⟨B, hA, hB⟩ := hI.out.2
              exact ⟨B, hA, bxo hB g7 (Ne.symm Hne.out.1.2.1)⟩)
            have HS2 := Lib.hid (i_step br y0 y1 n k H0.out.2 H1.out.2 (by omega) HDD.out.2 HDD.out.1.2 hlt w7 HR7.out)
            clear hI HS1 h7 g7
            go_wp2_with fail
            refine HS2.out.mono ?_
            rintro e w8 ⟨rfl, h8, g8⟩
            have HC8 := Lib.hid (bxo HC7.out g8 Hne.out.1.1)
            have HR8 := Lib.hid h8
            have HB8 : Hid (Below w.heap.size w w8) := Lib.hid (HB7.out.grown g8 HB7.out.size (fun k hk => by cases hk; exact Hne.out.2.2.1))
            have HL8 : Hid (LnB bl x0 y0 x1 y1 (k + 1) w8) := Lib.hid (by
              obtain ⟨B, hA, hB⟩ := HL7.out
              exact ⟨B, hA, bxo hB g8 (Ne.symm Hne.out.1.2.2)⟩)
            clear HS2 h8 g8 HC7 HR7 HB7 HL7
            obtain ⟨X, Y, eX, eY, hX, hY, hP⟩ := ln_xy H0.out H1.out Hn.out (k := k + 1) (by omega)
            have c0 := wk_at HC8.out eX
            have c1 := wk_at HR8.out eY
            obtain ⟨B, hA, hB⟩ := HL8.out
            have HPut := Lib.hid (i_put bl X Y hX hY B hA.1 w8 hB)
            have HA := Lib.hid (asR_put hA hX hY hP)
            clear eX eY hX hY hP hA hB HL8
            go_wp2_with fail
            refine HPut.out.mono ?_
            rintro e w9 ⟨rfl, hB9, hg9⟩
            have HN : Hid (LnSt w bc br bl x0 y0 x1 y1 n (k + 1) w9 ∧ LnB bl x0 y0 x1 y1 (k + 1 + 1) w9) := Lib.hid ⟨⟨bxo HC8.out hg9 Hne.out.1.2.1, bxo HR8.out hg9 Hne.out.1.2.2, HB8.out.grown hg9 HB8.out.size (fun k hk => by cases hk; exact Hne.out.2.2.2)⟩, _, HA.out, hB9⟩
            clear c0 c1 HPut HA HC8 HR8 HB8 hB9 hg9
            go_wp2
            go_roundw
            case rel => exact ⟨k + 1, by omega, by go_num, HN⟩
            case measure => simp [intOf]; omega
          · obtain rfl : k = n := by omega
            have hkI : ¬ (k : Int) < (k : Int) := by omega
            obtain ⟨B, hA, hB⟩ := hI.out.2
            have HB := Lib.hid hB
            have HA := Lib.hid hA
            have HBw := Lib.hid hI.out.1.2.2
            have HT9 := Lib.hid (HT.out.below HBw.out)
            clear hI hA hB HT
            go_wp2_with (refine wpList_load_row rfl 56 _ rfl bl rfl 56 (btC B) (0, 0) _ HB.out Tryd.underlying56 rfl ln_info ?_)
            refine (i_runs B HA.out.1 wr HT9.out).mono ?_
            rintro e w10 hR
            have HE := Lib.hid (RunsIf.yes (w := w) (G := lnG x0 y0 x1 y1) H.out (fun a b ha hb => by
              rw [asR_grid HA.out a b ha hb, Hn.out]; rfl) HBw.out hR)
            obtain ⟨v5, rfl, _, _⟩ := hR
            clear HBw HB HA
            go_wp2
            go_ret
            exact HE.out

end Go.Proofs.YtbjgjjhfnaiocaaDoor
