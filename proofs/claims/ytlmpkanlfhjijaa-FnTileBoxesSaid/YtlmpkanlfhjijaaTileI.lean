/- Contract of the program's TileBoxes. -/
import Derived.Test.YtlmpkanlfhjijaaTileS
namespace Go.Proofs.Ytlmpkanlfhjijaa
open Go.RowKit
set_option linter.unusedSimpArgs false
set_option linter.unusedVariables false
set_option maxRecDepth 20000

theorem tcol_bd (W : Nat) (h : 1 ≤ W) : W ≤ 4 * tcol W ∧ 4 * tcol W < W + 4 := by unfold tcol; omega
theorem tsd_or (W x : Int) : (W - x < 4 ∧ tsd W x = W - x) ∨ (4 ≤ W - x ∧ tsd W x = 4) := by
  unfold tsd
  by_cases h : W - x < 4
  · exact .inl ⟨h, if_pos h⟩
  · exact .inr ⟨by omega, if_neg h⟩
theorem tileL_at (W H r q : Nat) (hq : q < tcol W) : tileL W H (r * tcol W + q + 1) = tileL W H (r * tcol W + q) ++ [4 * (q : Int), 4 * (r : Int), tsd W (4 * (q : Int)), tsd H (4 * (r : Int))] := by
  have hm : (r * tcol W + q) % tcol W = q := by rw [Nat.add_comm, Nat.add_mul_mod_self_right, Nat.mod_eq_of_lt hq]
  have hd : (r * tcol W + q) / tcol W = r := by rw [Nat.add_comm, Nat.add_mul_div_right _ _ (by omega), Nat.div_eq_of_lt hq, Nat.zero_add]
  have h1 : ((q * 4 : Nat) : Int) = 4 * (q : Int) := by push_cast; omega
  have h2 : ((r * 4 : Nat) : Int) = 4 * (r : Int) := by push_cast; omega
  show tileL W H (r * tcol W + q) ++ tileA W H (r * tcol W + q) = _
  unfold tileA
  rw [hm, hd, h1, h2]
set_option maxHeartbeats 8000000 in
theorem i_TileBoxes (W H P : Int) (A : Option Addr) (c : Nat) (xs : List Int) (w : World) (hx : Rds .i64 w w.heap.size A xs) (hl : xs.length ≤ 2000000) :
    Calls Try.prog 15 #[.agg #[.int .i64 W, .int .i64 H, .int .i64 P, .slice A xs.length c]] w (Tiles W H P xs w) := by
  have HM0 : Hid (Bx (w.alloc (.cells #[.int .i64 W, .int .i64 H, .int .i64 P, .slice A xs.length c] 25)) w.heap.size 25 (imC W H P (.slice A xs.length c))) := Lib.hid (Bx.new w 25 _)
  have HB0 : Hid (Below w.heap.size w (w.alloc (.cells #[.int .i64 W, .int .i64 H, .int .i64 P, .slice A xs.length c] 25))) := Lib.hid ((Below.refl _ _).alloc (Nat.le_refl _) _)
  have Hsz : Hid ((w.alloc (.cells #[.int .i64 W, .int .i64 H, .int .i64 P, .slice A xs.length c] 25)).heap.size = w.heap.size + 1) := Lib.hid (by simp)
  have Hx : Hid (Rds .i64 (w.alloc (.cells #[.int .i64 W, .int .i64 H, .int .i64 P, .slice A xs.length c] 25)) (w.alloc (.cells #[.int .i64 W, .int .i64 H, .int .i64 P, .slice A xs.length c] 25)).heap.size A xs) := Lib.hid ((hx.alloc (Nat.le_refl _) _).more (by simp <;> omega))
  clear hx
  go_enter Try.func15, Try.ntmps15
  go_wp2_with fail
  generalize w.alloc (.cells #[.int .i64 W, .int .i64 H, .int .i64 P, .slice A xs.length c] 25) = u0 at *
  refine (iVimg_any W H P A c xs u0 Hx.out hl).mono ?_
  rintro e u1 ⟨rfl, hB⟩
  have HM1 := Lib.hid (HM0.out.below hB)
  have HB1 := Lib.hid (HB0.out.trans (hB.mono (by have := Hsz.out; omega)))
  have HZ1 : Hid (w.heap.size + 1 ≤ u1.heap.size) := Lib.hid (by have := Hsz.out; have := hB.size; omega)
  clear hB Hx HB0 HM0 Hsz
  cases hv : vim W H P xs
  · have HV := Lib.hid hv
    clear hv
    go_wp2
    go_ret
    exact tiles_no HV.out HB1.out
  · obtain ⟨W, H, P, rfl, rfl, rfl, hW1, hW, hH1, hH, hP1, hP, hln, hby⟩ := vim_nat hv
    have HV := Lib.hid hv
    have hcW := tcol_bd W hW1
    have hcH := tcol_bd H hH1
    have HCN : Hid (tcnt W H = tcol H * tcol W) := Lib.hid (Nat.mul_comm _ _)
    have HAt := Lib.hid (tileL_at W H)
    have HBd : Hid (∀ r q, r ≤ tcol H → q ≤ tcol W → r * tcol W + q ≤ 1000) := Lib.hid (fun r q hr hq => by
      have h1 := Nat.mul_le_mul (Nat.le_trans hr (tcol_le hH)) (tcol_le hW)
      have := tcol_le hW
      omega)
    clear hv hln hby
    generalize hC : tcol W = C at *
    generalize hR : tcol H = R at *
    go_wp2
    go_loopw [4, 3] (fun y l wr => ∃ r : Nat, r ≤ R ∧ y = .int .i64 (4 * (r : Int)) ∧ Hid (OwnT 42 4 wr (w.heap.size + 1) l (r * C) (tileL W H (r * C))) ∧ Hid (Below (w.heap.size + 1) u1 wr)) (fun y _ _ => (4 * (R : Int) - intOf y).toNat)
    case atStart => exact ⟨0, Nat.zero_le _, by simp, Lib.hid (by rw [Nat.zero_mul]; exact OwnT.nil _ _ _ _), Lib.hid (Below.refl _ _)⟩
    case round =>
      obtain ⟨r, hr, rfl, hO, hbel⟩ := hrel
      obtain ⟨A1, c1, rfl, hc1⟩ := hO.out.slice
      have hMr : Hid (Bx wr w.heap.size 25 (imC W H P (.slice A xs.length c))) := Lib.hid ((hbel.out.block w.heap.size (by omega)).trans HM1.out)
      obtain ⟨m0, m1, m2, m3⟩ := hMr.out.im
      by_cases hlt : r < R
      · have hlt2 : 4 * (r : Int) < (H : Int) := by omega
        have HO0 : Hid (OwnT 42 4 wr (w.heap.size + 1) (.slice A1 (r * C) c1) (r * C) (tileL W H (r * C))) := hO
        have HBl : Hid (Below (w.heap.size + 1) u1 wr) := hbel
        clear hO hbel hMr
        generalize wr = wo at *
        go_wp2
        clear m0 m1 m2 m3
        go_loopw [5, 3] (fun x l wr => ∃ q : Nat, q ≤ C ∧ x = .int .i64 (4 * (q : Int)) ∧ Hid (OwnT 42 4 wr (w.heap.size + 1) l (r * C + q) (tileL W H (r * C + q))) ∧ Hid (Below (w.heap.size + 1) u1 wr)) (fun x _ _ => (4 * (C : Int) - intOf x).toNat)
        case atStart => exact ⟨0, Nat.zero_le _, by simp, by simpa using HO0, HBl⟩
        case round =>
          clear HO0 HBl
          obtain ⟨q, hq, rfl, hO, hbel⟩ := hrel
          obtain ⟨A2, c2, rfl, hc2⟩ := hO.out.slice
          have hMr : Hid (Bx wr w.heap.size 25 (imC W H P (.slice A xs.length c))) := Lib.hid ((hbel.out.block w.heap.size (by omega)).trans HM1.out)
          obtain ⟨m0, m1, m2, m3⟩ := hMr.out.im
          by_cases hlq : q < C
          · have hlq2 : 4 * (q : Int) < (W : Int) := by omega
            have HX := Lib.hid (HAt.out r q (by omega))
            have hbd := HBd.out r q hr (by omega)
            generalize hn : (r * C + q : Nat) = n at *
            have HN := Lib.hid hn
            clear hn
            rcases tsd_or W (4 * (q : Int)) with ⟨hX, eX⟩ | ⟨hX, eX⟩ <;> rcases tsd_or H (4 * (r : Int)) with ⟨hY, eY⟩ | ⟨hY, eY⟩ <;> rw [eX, eY] at HX <;> clear eX eY
            · have HC : Hid (∀ k : Nat, k < ([4 * (q : Int), 4 * (r : Int), (W : Int) - 4 * (q : Int), (H : Int) - 4 * (r : Int)] : List Int).length → (wr.alloc (.cells #[.int .i64 (4 * (q : Int)), .int .i64 (4 * (r : Int)), .int .i64 ((W : Int) - 4 * (q : Int)), .int .i64 ((H : Int) - 4 * (r : Int))] 42)).cell? ⟨wr.heap.size, k, none⟩ = some (.int .i64 (([4 * (q : Int), 4 * (r : Int), (W : Int) - 4 * (q : Int), (H : Int) - 4 * (r : Int)] : List Int).getD k 0))) := Lib.hid (fun k hk => by
                rw [cell_of_row _ _ _ _ _ _ (heap_alloc_new wr _)]
                match k, hk with
                | 0, _ => rfl
                | 1, _ => rfl
                | 2, _ => rfl
                | 3, _ => rfl)
              have HO := Lib.hid (hO.out.alloc (.cells #[.int .i64 (4 * (q : Int)), .int .i64 (4 * (r : Int)), .int .i64 ((W : Int) - 4 * (q : Int)), .int .i64 ((H : Int) - 4 * (r : Int))] 42))
              have HLt := Lib.hid hO.out.lt
              have HA := Lib.hid (hbel.out.alloc (by have := hbel.out.size; have := HZ1.out; omega) (.cells #[.int .i64 (4 * (q : Int)), .int .i64 (4 * (r : Int)), .int .i64 ((W : Int) - 4 * (q : Int)), .int .i64 ((H : Int) - 4 * (r : Int))] 42))
              have HsB : Hid (w.heap.size + 1 ≤ wr.heap.size) := Lib.hid (by have := hbel.out.size; have := HZ1.out; omega)
              clear hO hbel hMr
              go_wp2_with (at_builtin; refine wpList_appBoxB rfl (.tmp 21) (.tmp 35) rfl (w.heap.size + 1) (.slice A2 n c2) n (tileL W H n) rfl HO.out wr.heap.size 1 1 [4 * (q : Int), 4 * (r : Int), (W : Int) - 4 * (q : Int), (H : Int) - 4 * (r : Int)] rfl (by simp) HC.out (by omega) (by have := HsB.out; simp; omega) ?_; intro v2 w3 hO3 hG3)
              have hb3 : Hid (Below (w.heap.size + 1) u1 w3) := Lib.hid (HA.out.grown hG3 (by have := HA.out.size; have := HZ1.out; omega) (fun k hk => (HLt.out k hk).1))
              have HO3 : Hid (OwnT 42 4 w3 (w.heap.size + 1) v2 (n + 1) (tileL W H (n + 1))) := Lib.hid (by rw [HX.out]; exact hO3)
              clear hO3 hG3 m0 m1 m2 m3
              go_wp2
              go_roundw
              case rel => exact ⟨q + 1, by omega, by go_num, by rw [← Nat.add_assoc, HN.out]; exact HO3, hb3⟩
              case measure => simp [intOf]; omega
            · have HC : Hid (∀ k : Nat, k < ([4 * (q : Int), 4 * (r : Int), (W : Int) - 4 * (q : Int), 4] : List Int).length → (wr.alloc (.cells #[.int .i64 (4 * (q : Int)), .int .i64 (4 * (r : Int)), .int .i64 ((W : Int) - 4 * (q : Int)), .int .i64 (4)] 42)).cell? ⟨wr.heap.size, k, none⟩ = some (.int .i64 (([4 * (q : Int), 4 * (r : Int), (W : Int) - 4 * (q : Int), 4] : List Int).getD k 0))) := Lib.hid (fun k hk => by
                rw [cell_of_row _ _ _ _ _ _ (heap_alloc_new wr _)]
                match k, hk with
                | 0, _ => rfl
                | 1, _ => rfl
                | 2, _ => rfl
                | 3, _ => rfl)
              have HO := Lib.hid (hO.out.alloc (.cells #[.int .i64 (4 * (q : Int)), .int .i64 (4 * (r : Int)), .int .i64 ((W : Int) - 4 * (q : Int)), .int .i64 (4)] 42))
              have HLt := Lib.hid hO.out.lt
              have HA := Lib.hid (hbel.out.alloc (by have := hbel.out.size; have := HZ1.out; omega) (.cells #[.int .i64 (4 * (q : Int)), .int .i64 (4 * (r : Int)), .int .i64 ((W : Int) - 4 * (q : Int)), .int .i64 (4)] 42))
              have HsB : Hid (w.heap.size + 1 ≤ wr.heap.size) := Lib.hid (by have := hbel.out.size; have := HZ1.out; omega)
              clear hO hbel hMr
              go_wp2_with (at_builtin; refine wpList_appBoxB rfl (.tmp 21) (.tmp 35) rfl (w.heap.size + 1) (.slice A2 n c2) n (tileL W H n) rfl HO.out wr.heap.size 1 1 [4 * (q : Int), 4 * (r : Int), (W : Int) - 4 * (q : Int), 4] rfl (by simp) HC.out (by omega) (by have := HsB.out; simp; omega) ?_; intro v2 w3 hO3 hG3)
              have hb3 : Hid (Below (w.heap.size + 1) u1 w3) := Lib.hid (HA.out.grown hG3 (by have := HA.out.size; have := HZ1.out; omega) (fun k hk => (HLt.out k hk).1))
              have HO3 : Hid (OwnT 42 4 w3 (w.heap.size + 1) v2 (n + 1) (tileL W H (n + 1))) := Lib.hid (by rw [HX.out]; exact hO3)
              clear hO3 hG3 m0 m1 m2 m3
              go_wp2
              go_roundw
              case rel => exact ⟨q + 1, by omega, by go_num, by rw [← Nat.add_assoc, HN.out]; exact HO3, hb3⟩
              case measure => simp [intOf]; omega
            · have HC : Hid (∀ k : Nat, k < ([4 * (q : Int), 4 * (r : Int), 4, (H : Int) - 4 * (r : Int)] : List Int).length → (wr.alloc (.cells #[.int .i64 (4 * (q : Int)), .int .i64 (4 * (r : Int)), .int .i64 (4), .int .i64 ((H : Int) - 4 * (r : Int))] 42)).cell? ⟨wr.heap.size, k, none⟩ = some (.int .i64 (([4 * (q : Int), 4 * (r : Int), 4, (H : Int) - 4 * (r : Int)] : List Int).getD k 0))) := Lib.hid (fun k hk => by
                rw [cell_of_row _ _ _ _ _ _ (heap_alloc_new wr _)]
                match k, hk with
                | 0, _ => rfl
                | 1, _ => rfl
                | 2, _ => rfl
                | 3, _ => rfl)
              have HO := Lib.hid (hO.out.alloc (.cells #[.int .i64 (4 * (q : Int)), .int .i64 (4 * (r : Int)), .int .i64 (4), .int .i64 ((H : Int) - 4 * (r : Int))] 42))
              have HLt := Lib.hid hO.out.lt
              have HA := Lib.hid (hbel.out.alloc (by have := hbel.out.size; have := HZ1.out; omega) (.cells #[.int .i64 (4 * (q : Int)), .int .i64 (4 * (r : Int)), .int .i64 (4), .int .i64 ((H : Int) - 4 * (r : Int))] 42))
              have HsB : Hid (w.heap.size + 1 ≤ wr.heap.size) := Lib.hid (by have := hbel.out.size; have := HZ1.out; omega)
              clear hO hbel hMr
              go_wp2_with (at_builtin; refine wpList_appBoxB rfl (.tmp 21) (.tmp 35) rfl (w.heap.size + 1) (.slice A2 n c2) n (tileL W H n) rfl HO.out wr.heap.size 1 1 [4 * (q : Int), 4 * (r : Int), 4, (H : Int) - 4 * (r : Int)] rfl (by simp) HC.out (by omega) (by have := HsB.out; simp; omega) ?_; intro v2 w3 hO3 hG3)
              have hb3 : Hid (Below (w.heap.size + 1) u1 w3) := Lib.hid (HA.out.grown hG3 (by have := HA.out.size; have := HZ1.out; omega) (fun k hk => (HLt.out k hk).1))
              have HO3 : Hid (OwnT 42 4 w3 (w.heap.size + 1) v2 (n + 1) (tileL W H (n + 1))) := Lib.hid (by rw [HX.out]; exact hO3)
              clear hO3 hG3 m0 m1 m2 m3
              go_wp2
              go_roundw
              case rel => exact ⟨q + 1, by omega, by go_num, by rw [← Nat.add_assoc, HN.out]; exact HO3, hb3⟩
              case measure => simp [intOf]; omega
            · have HC : Hid (∀ k : Nat, k < ([4 * (q : Int), 4 * (r : Int), 4, 4] : List Int).length → (wr.alloc (.cells #[.int .i64 (4 * (q : Int)), .int .i64 (4 * (r : Int)), .int .i64 (4), .int .i64 (4)] 42)).cell? ⟨wr.heap.size, k, none⟩ = some (.int .i64 (([4 * (q : Int), 4 * (r : Int), 4, 4] : List Int).getD k 0))) := Lib.hid (fun k hk => by
                rw [cell_of_row _ _ _ _ _ _ (heap_alloc_new wr _)]
                match k, hk with
                | 0, _ => rfl
                | 1, _ => rfl
                | 2, _ => rfl
                | 3, _ => rfl)
              have HO := Lib.hid (hO.out.alloc (.cells #[.int .i64 (4 * (q : Int)), .int .i64 (4 * (r : Int)), .int .i64 (4), .int .i64 (4)] 42))
              have HLt := Lib.hid hO.out.lt
              have HA := Lib.hid (hbel.out.alloc (by have := hbel.out.size; have := HZ1.out; omega) (.cells #[.int .i64 (4 * (q : Int)), .int .i64 (4 * (r : Int)), .int .i64 (4), .int .i64 (4)] 42))
              have HsB : Hid (w.heap.size + 1 ≤ wr.heap.size) := Lib.hid (by have := hbel.out.size; have := HZ1.out; omega)
              clear hO hbel hMr
              go_wp2_with (at_builtin; refine wpList_appBoxB rfl (.tmp 21) (.tmp 35) rfl (w.heap.size + 1) (.slice A2 n c2) n (tileL W H n) rfl HO.out wr.heap.size 1 1 [4 * (q : Int), 4 * (r : Int), 4, 4] rfl (by simp) HC.out (by omega) (by have := HsB.out; simp; omega) ?_; intro v2 w3 hO3 hG3)
              have hb3 : Hid (Below (w.heap.size + 1) u1 w3) := Lib.hid (HA.out.grown hG3 (by have := HA.out.size; have := HZ1.out; omega) (fun k hk => (HLt.out k hk).1))
              have HO3 : Hid (OwnT 42 4 w3 (w.heap.size + 1) v2 (n + 1) (tileL W H (n + 1))) := Lib.hid (by rw [HX.out]; exact hO3)
              clear hO3 hG3 m0 m1 m2 m3
              go_wp2
              go_roundw
              case rel => exact ⟨q + 1, by omega, by go_num, by rw [← Nat.add_assoc, HN.out]; exact HO3, hb3⟩
              case measure => simp [intOf]; omega
          · have hlq2 : ¬ (4 * (q : Int) < (W : Int)) := by omega
            have hq' : q = C := by omega
            subst hq'
            have HO1 := Lib.hid hO.out
            clear hO hMr m1 m2 m3
            go_wp2
            go_roundw
            case rel => exact ⟨r + 1, by omega, by go_num, Lib.hid (by rw [Nat.succ_mul]; exact HO1.out), hbel⟩
            case measure => simp [intOf]; omega
      · have hlt2 : ¬ (4 * (r : Int) < (H : Int)) := by omega
        have hje : r = R := by omega
        have HJ : Hid (tcnt W H = r * C) := Lib.hid (by rw [HCN.out, hje])
        have HB := Lib.hid (HB1.out.trans (hbel.out.mono (by omega)))
        clear hje
        go_wp2
        go_ret
        exact tiles_yes HV.out (by rw [HJ.out]; exact hO.out) HB.out (by omega)
end Go.Proofs.Ytlmpkanlfhjijaa
