/- The edge of a grid, and a grid without its edge, in the model. -/
import Derived.Test.YtoeifhflbgfcjaaDoorGrwS
namespace Go.Proofs.YtoeifhflbgfcjaaDoor
open Go.RowKit
set_option linter.unusedSimpArgs false
set_option linter.unusedVariables false
set_option maxRecDepth 100000

set_option maxHeartbeats 64000000 in
theorem s_edge (g c : Nat) (F : Nat → Bool) (w : World) (hg : g < w.heap.size) (hF : ∀ j, j < 256 → w.cell? ⟨g, j, none⟩ = some (.bool (F j))) :
    Calls Tryd.prog 44 #[.slice (some ⟨g, 0, none⟩) 256 c] w fun e w' => ∃ g' c', e = .returned (.slice (some ⟨g', 0, none⟩) 256 c') ∧ w.heap.size ≤ g' ∧ GX w' g' (edF F) ∧ Below w.heap.size w w' := by
  have hmk := make_grid
  obtain ⟨u, hu⟩ : ∃ u, u = w.alloc (.cells gz 4) := ⟨_, rfl⟩
  obtain ⟨o, ho⟩ : ∃ o, o = w.heap.size := ⟨_, rfl⟩
  have HI0 : Hid (GX u o (upF (edF F) (fun _ => false) 0) ∧ (∀ j, j < 256 → u.cell? ⟨g, j, none⟩ = some (.bool (F j))) ∧ Below w.heap.size w u) := Lib.hid (by
    have hb : Below w.heap.size w u := by rw [hu]; exact (Below.refl _ _).alloc (Nat.le_refl _) _
    refine ⟨?_, fun j hj => (hb.cell (p := ⟨g, j, none⟩) hg).trans (hF j hj), hb⟩
    rw [hu, ho]
    exact (GX.of_fn (GridFn.start w)).congr (fun j _ => (upF_zero (edF F) (fun _ => false) j).symm))
  have Ho := Lib.hid ho
  have HU := Lib.hid hu
  have Hne : Hid (g ≠ o) := Lib.hid (by omega)
  clear hF hu ho hg
  go_enter Tryd.func44, Tryd.ntmps44
  go_wp2
  rw [← HU.out, ← Ho.out]
  clear HU hmk
  go_loopw [5] (fun i wr => ∃ p : Nat, p ≤ 256 ∧ i = .int .i64 (p : Int) ∧ Hid (GX wr o (upF (edF F) (fun _ => false) p) ∧ (∀ j, j < 256 → wr.cell? ⟨g, j, none⟩ = some (.bool (F j))) ∧ Below w.heap.size w wr)) (fun i _ => 256 - (intOf i).toNat)
  case atStart => exact ⟨0, by omega, rfl, HI0⟩
  case round =>
    clear HI0
    obtain ⟨p, hp, rfl, hI⟩ := hrel
    rename World => wr
    by_cases hlt : p < 256
    · obtain ⟨m, hm⟩ : ∃ m, m = p % 16 := ⟨_, rfl⟩
      obtain ⟨q, hq⟩ : ∃ q, q = p / 16 := ⟨_, rfl⟩
      have hm15 : m ≤ 15 := by omega
      have hq15 : q ≤ 15 := by omega
      have hpm : p = q * 16 + m := by omega
      have e1 : (p : Int).tmod 16 = (m : Int) := by rw [hm, Int.tmod_eq_emod_of_nonneg (by omega)]; omega
      have e2 : (p : Int).tdiv 16 = (q : Int) := by rw [hq, Int.tdiv_eq_ediv_of_nonneg (by omega)]; omega
      have e3 : (p : Int) % 16 = (m : Int) := by omega
      have e4 : (p : Int) / 16 = (q : Int) := by omega
      have hF := hI.out.2.1
      have f0 := hF p hlt
      have z0 : wr.frozen? ⟨o, p, none⟩ = false := hI.out.1.frozen p
      have s0 := hI.out.1.cell hlt
      have hpI : (p : Int) < 256 := by omega
      have HN : Hid (∀ b : Bool, edF F p = b → GX (wr.setCell ⟨o, p, none⟩ (.bool b)) o (upF (edF F) (fun _ => false) (p + 1)) ∧ (∀ j, j < 256 → (wr.setCell ⟨o, p, none⟩ (.bool b)).cell? ⟨g, j, none⟩ = some (.bool (F j))) ∧ Below w.heap.size w (wr.setCell ⟨o, p, none⟩ (.bool b))) := Lib.hid (fun b hb => ⟨(hI.out.1.put hlt b).congr (fun j _ => upF_step _ _ p b hb j), fun j hj => (World.cell?_of_block (heap_setCell_other wr ⟨o, p, none⟩ g _ Hne.out)).trans (hI.out.2.1 j hj), hI.out.2.2.setCell (Nat.le_of_eq Ho.out.symm) _⟩)
      have HG : edF F p = (F p && !((decide (0 < m) && (decide (m < 15) && (decide (0 < q) && decide (q < 15)))) && (F (p - 1) && (F (p + 1) && (F (p - 16) && F (p + 16)))))) := by unfold edF inF; rw [hm, hq]
      have HGh := Lib.hid HG
      clear hI HG hm hq
      generalize upF (edF F) (fun _ => false) p p = sp at s0
      by_cases hx : 0 < m
      · have hxI : (0 : Int) < (m : Int) := by omega
        by_cases hX : m < 15
        · have hXI : (m : Int) < 15 := by omega
          by_cases hy : 0 < q
          · have hyI : (0 : Int) < (q : Int) := by omega
            by_cases hY : q < 15
            · have hYI : (q : Int) < 15 := by omega
              have vxc := hF (p - 1) (by omega)
              have vxi : ((p - 1 : Nat) : Int) = (p : Int) - 1 := by omega
              have vxj : ((p : Int) - 1).toNat = p - 1 := by omega
              have vxb : 0 ≤ (p : Int) - 1 ∧ (p : Int) - 1 < 256 := by omega
              cases vxv : F (p - 1)
              · rw [vxv] at vxc
                cases h0 : F p
                · rw [h0] at f0
                  have HV : edF F p = false := by rw [HGh.out, h0]; rfl
                  have HN3 := Lib.hid (HN.out _ HV)
                  clear HN HV HGh hF hpm
                  go_wp2
                  go_roundw
                  case rel => exact ⟨p + 1, by omega, by go_num, HN3⟩
                  case measure => simp [intOf]; omega
                · rw [h0] at f0
                  have HV : edF F p = true := by rw [HGh.out, h0, decide_eq_true hx, decide_eq_true hX, decide_eq_true hy, decide_eq_true hY, vxv]; rfl
                  have HN3 := Lib.hid (HN.out _ HV)
                  clear HN HV HGh hF hpm
                  go_wp2
                  go_roundw
                  case rel => exact ⟨p + 1, by omega, by go_num, HN3⟩
                  case measure => simp [intOf]; omega
              · rw [vxv] at vxc
                have vXc := hF (p + 1) (by omega)
                have vXb : (p : Int) + 1 < 256 := by omega
                have vXj : ((p : Int) + 1).toNat = p + 1 := by omega
                cases vXv : F (p + 1)
                · rw [vXv] at vXc
                  cases h0 : F p
                  · rw [h0] at f0
                    have HV : edF F p = false := by rw [HGh.out, h0]; rfl
                    have HN3 := Lib.hid (HN.out _ HV)
                    clear HN HV HGh hF hpm
                    go_wp2
                    go_roundw
                    case rel => exact ⟨p + 1, by omega, by go_num, HN3⟩
                    case measure => simp [intOf]; omega
                  · rw [h0] at f0
                    have HV : edF F p = true := by rw [HGh.out, h0, decide_eq_true hx, decide_eq_true hX, decide_eq_true hy, decide_eq_true hY, vxv, vXv]; rfl
                    have HN3 := Lib.hid (HN.out _ HV)
                    clear HN HV HGh hF hpm
                    go_wp2
                    go_roundw
                    case rel => exact ⟨p + 1, by omega, by go_num, HN3⟩
                    case measure => simp [intOf]; omega
                · rw [vXv] at vXc
                  have vyc := hF (p - 16) (by omega)
                  have vyi : ((p - 16 : Nat) : Int) = (p : Int) - 16 := by omega
                  have vyj : ((p : Int) - 16).toNat = p - 16 := by omega
                  have vyb : 0 ≤ (p : Int) - 16 ∧ (p : Int) - 16 < 256 := by omega
                  cases vyv : F (p - 16)
                  · rw [vyv] at vyc
                    cases h0 : F p
                    · rw [h0] at f0
                      have HV : edF F p = false := by rw [HGh.out, h0]; rfl
                      have HN3 := Lib.hid (HN.out _ HV)
                      clear HN HV HGh hF hpm
                      go_wp2
                      go_roundw
                      case rel => exact ⟨p + 1, by omega, by go_num, HN3⟩
                      case measure => simp [intOf]; omega
                    · rw [h0] at f0
                      have HV : edF F p = true := by rw [HGh.out, h0, decide_eq_true hx, decide_eq_true hX, decide_eq_true hy, decide_eq_true hY, vxv, vXv, vyv]; rfl
                      have HN3 := Lib.hid (HN.out _ HV)
                      clear HN HV HGh hF hpm
                      go_wp2
                      go_roundw
                      case rel => exact ⟨p + 1, by omega, by go_num, HN3⟩
                      case measure => simp [intOf]; omega
                  · rw [vyv] at vyc
                    have vYc := hF (p + 16) (by omega)
                    have vYb : (p : Int) + 16 < 256 := by omega
                    have vYj : ((p : Int) + 16).toNat = p + 16 := by omega
                    cases vYv : F (p + 16)
                    · rw [vYv] at vYc
                      cases h0 : F p
                      · rw [h0] at f0
                        have HV : edF F p = false := by rw [HGh.out, h0]; rfl
                        have HN3 := Lib.hid (HN.out _ HV)
                        clear HN HV HGh hF hpm
                        go_wp2
                        go_roundw
                        case rel => exact ⟨p + 1, by omega, by go_num, HN3⟩
                        case measure => simp [intOf]; omega
                      · rw [h0] at f0
                        have HV : edF F p = true := by rw [HGh.out, h0, decide_eq_true hx, decide_eq_true hX, decide_eq_true hy, decide_eq_true hY, vxv, vXv, vyv, vYv]; rfl
                        have HN3 := Lib.hid (HN.out _ HV)
                        clear HN HV HGh hF hpm
                        go_wp2
                        go_roundw
                        case rel => exact ⟨p + 1, by omega, by go_num, HN3⟩
                        case measure => simp [intOf]; omega
                    · rw [vYv] at vYc
                      cases h0 : F p
                      · rw [h0] at f0
                        have HV : edF F p = false := by rw [HGh.out, h0]; rfl
                        have HN3 := Lib.hid (HN.out _ HV)
                        clear HN HV HGh hF hpm
                        go_wp2
                        go_roundw
                        case rel => exact ⟨p + 1, by omega, by go_num, HN3⟩
                        case measure => simp [intOf]; omega
                      · rw [h0] at f0
                        have HV : edF F p = false := by rw [HGh.out, h0, decide_eq_true hx, decide_eq_true hX, decide_eq_true hy, decide_eq_true hY, vxv, vXv, vyv, vYv]; rfl
                        have HN3 := Lib.hid (HN.out _ HV)
                        clear HN HV HGh hF hpm
                        go_wp2
                        go_roundw
                        case rel => exact ⟨p + 1, by omega, by go_num, HN3⟩
                        case measure => simp [intOf]; omega
            · have hYI : ¬ (q : Int) < 15 := by omega
              cases h0 : F p
              · rw [h0] at f0
                have HV : edF F p = false := by rw [HGh.out, h0]; rfl
                have HN3 := Lib.hid (HN.out _ HV)
                clear HN HV HGh hF hpm
                go_wp2
                go_roundw
                case rel => exact ⟨p + 1, by omega, by go_num, HN3⟩
                case measure => simp [intOf]; omega
              · rw [h0] at f0
                have HV : edF F p = true := by rw [HGh.out, h0, decide_eq_true hx, decide_eq_true hX, decide_eq_true hy, decide_eq_false hY]; rfl
                have HN3 := Lib.hid (HN.out _ HV)
                clear HN HV HGh hF hpm
                go_wp2
                go_roundw
                case rel => exact ⟨p + 1, by omega, by go_num, HN3⟩
                case measure => simp [intOf]; omega
          · have hyI : ¬ (0 : Int) < (q : Int) := by omega
            cases h0 : F p
            · rw [h0] at f0
              have HV : edF F p = false := by rw [HGh.out, h0]; rfl
              have HN3 := Lib.hid (HN.out _ HV)
              clear HN HV HGh hF hpm
              go_wp2
              go_roundw
              case rel => exact ⟨p + 1, by omega, by go_num, HN3⟩
              case measure => simp [intOf]; omega
            · rw [h0] at f0
              have HV : edF F p = true := by rw [HGh.out, h0, decide_eq_true hx, decide_eq_true hX, decide_eq_false hy]; rfl
              have HN3 := Lib.hid (HN.out _ HV)
              clear HN HV HGh hF hpm
              go_wp2
              go_roundw
              case rel => exact ⟨p + 1, by omega, by go_num, HN3⟩
              case measure => simp [intOf]; omega
        · have hXI : ¬ (m : Int) < 15 := by omega
          cases h0 : F p
          · rw [h0] at f0
            have HV : edF F p = false := by rw [HGh.out, h0]; rfl
            have HN3 := Lib.hid (HN.out _ HV)
            clear HN HV HGh hF hpm
            go_wp2
            go_roundw
            case rel => exact ⟨p + 1, by omega, by go_num, HN3⟩
            case measure => simp [intOf]; omega
          · rw [h0] at f0
            have HV : edF F p = true := by rw [HGh.out, h0, decide_eq_true hx, decide_eq_false hX]; rfl
            have HN3 := Lib.hid (HN.out _ HV)
            clear HN HV HGh hF hpm
            go_wp2
            go_roundw
            case rel => exact ⟨p + 1, by omega, by go_num, HN3⟩
            case measure => simp [intOf]; omega
      · have hxI : ¬ (0 : Int) < (m : Int) := by omega
        cases h0 : F p
        · rw [h0] at f0
          have HV : edF F p = false := by rw [HGh.out, h0]; rfl
          have HN3 := Lib.hid (HN.out _ HV)
          clear HN HV HGh hF hpm
          go_wp2
          go_roundw
          case rel => exact ⟨p + 1, by omega, by go_num, HN3⟩
          case measure => simp [intOf]; omega
        · rw [h0] at f0
          have HV : edF F p = true := by rw [HGh.out, h0, decide_eq_false hx]; rfl
          have HN3 := Lib.hid (HN.out _ HV)
          clear HN HV HGh hF hpm
          go_wp2
          go_roundw
          case rel => exact ⟨p + 1, by omega, by go_num, HN3⟩
          case measure => simp [intOf]; omega
    · obtain rfl : p = 256 := by omega
      have HE : Hid (w.heap.size ≤ o ∧ GX wr o (edF F) ∧ Below w.heap.size w wr) := Lib.hid ⟨Nat.le_of_eq Ho.out.symm, hI.out.1.congr (fun j hj => upF_all _ _ j hj), hI.out.2.2⟩
      clear hI
      go_wp2
      go_ret
      exact ⟨o, 256, rfl, HE.out⟩
set_option maxHeartbeats 64000000 in
theorem s_shrink (g c : Nat) (F : Nat → Bool) (w : World) (hg : g < w.heap.size) (hF : ∀ j, j < 256 → w.cell? ⟨g, j, none⟩ = some (.bool (F j))) :
    Calls Tryd.prog 74 #[.slice (some ⟨g, 0, none⟩) 256 c] w fun e w' => ∃ g' c', e = .returned (.slice (some ⟨g', 0, none⟩) 256 c') ∧ GX w' g' (skF F) ∧ Below w.heap.size w w' := by
  have HC := Lib.hid (s_edge g c F w hg hF)
  have HF := Lib.hid hF
  have Hg := Lib.hid hg
  clear hF hg
  go_enter Tryd.func74, Tryd.ntmps74
  go_wp2_with fail
  refine HC.out.mono ?_
  rintro e w2 ⟨o, c2, rfl, ho, hx2, hb2⟩
  have HI0 : Hid (GX w2 o (upF (skF F) (edF F) 0) ∧ (∀ j, j < 256 → w2.cell? ⟨g, j, none⟩ = some (.bool (F j))) ∧ Below w.heap.size w w2) := Lib.hid ⟨hx2.congr (fun j _ => (upF_zero _ _ j).symm), fun j hj => (hb2.cell (p := ⟨g, j, none⟩) Hg.out).trans (HF.out j hj), hb2⟩
  have Ho := Lib.hid ho
  have Hne : Hid (g ≠ o) := Lib.hid (by have := Hg.out; omega)
  clear HF Hg HC ho hx2 hb2
  go_wp2
  go_loopw [4] (fun i wr => ∃ p : Nat, p ≤ 256 ∧ i = .int .i64 (p : Int) ∧ Hid (GX wr o (upF (skF F) (edF F) p) ∧ (∀ j, j < 256 → wr.cell? ⟨g, j, none⟩ = some (.bool (F j))) ∧ Below w.heap.size w wr)) (fun i _ => 256 - (intOf i).toNat)
  case atStart => exact ⟨0, by omega, rfl, HI0⟩
  case round =>
    clear HI0
    obtain ⟨p, hp, rfl, hI⟩ := hrel
    rename World => wr
    by_cases hlt : p < 256
    · have f0 := hI.out.2.1 p hlt
      have z0 : wr.frozen? ⟨o, p, none⟩ = false := hI.out.1.frozen p
      have s0 := hI.out.1.cell hlt
      have es : upF (skF F) (edF F) p p = edF F p := by unfold upF; rw [if_neg (by omega)]
      rw [es] at s0
      have hpI : (p : Int) < 256 := by omega
      have HN : Hid (∀ b : Bool, skF F p = b → GX (wr.setCell ⟨o, p, none⟩ (.bool b)) o (upF (skF F) (edF F) (p + 1)) ∧ (∀ j, j < 256 → (wr.setCell ⟨o, p, none⟩ (.bool b)).cell? ⟨g, j, none⟩ = some (.bool (F j))) ∧ Below w.heap.size w (wr.setCell ⟨o, p, none⟩ (.bool b))) := Lib.hid (fun b hb => ⟨(hI.out.1.put hlt b).congr (fun j _ => upF_step _ _ p b hb j), fun j hj => (World.cell?_of_block (heap_setCell_other wr ⟨o, p, none⟩ g _ Hne.out)).trans (hI.out.2.1 j hj), hI.out.2.2.setCell Ho.out _⟩)
      have HGh : Hid (skF F p = (F p && !edF F p)) := Lib.hid rfl
      clear hI es
      cases h0 : F p
      · rw [h0] at f0
        generalize edF F p = ev at *
        have HN3 := Lib.hid (HN.out false (by rw [HGh.out, h0]; rfl))
        clear HN HGh
        go_wp2
        go_roundw
        case rel => exact ⟨p + 1, by omega, by go_num, HN3⟩
        case measure => simp [intOf]; omega
      · rw [h0] at f0
        cases h1 : edF F p
        · rw [h1] at s0
          have HN3 := Lib.hid (HN.out true (by rw [HGh.out, h0, h1]; rfl))
          clear HN HGh
          go_wp2
          go_roundw
          case rel => exact ⟨p + 1, by omega, by go_num, HN3⟩
          case measure => simp [intOf]; omega
        · rw [h1] at s0
          have HN3 := Lib.hid (HN.out false (by rw [HGh.out, h0, h1]; rfl))
          clear HN HGh
          go_wp2
          go_roundw
          case rel => exact ⟨p + 1, by omega, by go_num, HN3⟩
          case measure => simp [intOf]; omega
    · obtain rfl : p = 256 := by omega
      have HE : Hid (GX wr o (skF F) ∧ Below w.heap.size w wr) := Lib.hid ⟨hI.out.1.congr (fun j hj => upF_all _ _ j hj), hI.out.2.2⟩
      clear hI
      go_wp2
      go_ret
      exact ⟨o, c2, rfl, HE.out⟩
end Go.Proofs.YtoeifhflbgfcjaaDoor
