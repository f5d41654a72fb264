/- The drawing of packings. -/
import Derived.Test.YtgieijogopcjnaaPckT
import Derived.Test.YtgieijogopcjnaaDrawSpr
import Derived.Deep.RegionHeld3
namespace Go.Proofs.Ytgieijogopcjnaa
open Go.RowKit
set_option linter.unusedSimpArgs false
set_option linter.unusedVariables false
set_option maxRecDepth 20000

/-- Drawn from a code: boxes, a width and a height. -/
def DrawnV (w : World) (e : Ending) (w' : World) : Prop :=
  ∃ (A : Option Addr) (n c : Nat) (xs : List Int) (W H : Int), e = .returned (.tuple #[.slice A n c, .int .i64 W, .int .i64 H]) ∧ (n ≤ 12 ∧ n ≤ c ∧ xs.length = 4 * n) ∧ (0 ≤ W ∧ W ≤ 65) ∧ (-1 ≤ H ∧ H ≤ 200) ∧ Rds .i64 w' w'.heap.size A xs ∧ Below w.heap.size w w'
theorem OwnT.dr {E : TypeId} {C : Nat} {w : World} {base n : Nat} {v : Value} {xs : List Int} (h : OwnT E C w base v n xs) : OwnT E C w.drew base v n xs := h
theorem Rdr.dr {w : World} {g N : Nat} (h : Rdr w g N) : Rdr w.drew g N := h
theorem grw_dr {w w' : World} {r : Option Nat} (h : w.grownBy w' r) : w.grownBy w'.drew r := ⟨h.os, h.tape, h.output, h.size, h.block⟩
theorem pst_h {x : Int} (h : x ∈ [0, 0, 0, 3, -1]) : -1 ≤ x ∧ x ≤ 3 := by simp at h; omega
set_option maxHeartbeats 16000000 in
theorem drawVpk_any (A : Option Addr) (c : Nat) (bs : List Int) (w : World) (hc : bs.length ≤ c) (h : Rdw .u8 w w.heap.size A bs) :
    Calls Try.prog 9 #[.slice A bs.length c] w (DrawnV w) := by
  have Hh := Lib.hid h
  clear h
  go_enter Try.func9, Try.ntmps9
  go_wp2_with fail
  refine (newReader_any A c bs w hc Hh.out).mono ?_
  rintro e u1 ⟨rfl, hr1, hb1, hs1⟩
  obtain ⟨g, hg⟩ : ∃ g, g = w.heap.size := ⟨_, rfl⟩
  rw [← hg] at hr1 ⊢
  have HB1 := Lib.hid hb1
  have Hg := Lib.hid hg
  have hz1 := hr1.lt
  have HD := Lib.hid (drawPck_any A c bs u1 hc ⟨(Hh.out.1.below HB1.out).more HB1.out.size, Hh.out.2⟩)
  have HR1 := Lib.hid hr1
  clear hb1 hs1 hg hr1
  go_wp2_with fail
  refine HD.out.mono ?_
  rintro e u2 ⟨A2, n, c2, xs, W, rfl, ⟨hn13, hnc, hxl⟩, hWb, hr2, hb2⟩
  have HR2 := Lib.hid (HR1.out.below hb2 hz1)
  have HG2 : Hid (u1.grownBy u2 (some g)) := Lib.hid ⟨hb2.os, hb2.tape, hb2.output, hb2.size, fun k hk _ => hb2.block k hk⟩
  have HS := Lib.hid (s_PackSprites A2 n c2 W xs u2 hxl hr2 (by omega))
  have hz2 : g < u2.heap.size := by have := hb2.size; omega
  have hz12 : u1.heap.size ≤ u2.heap.size := hb2.size
  clear hr2 hb2 HD HR1
  go_wp2_with fail
  refine HS.out.mono ?_
  rintro e u3 ⟨v3, rfl, hO3, hB3⟩
  obtain ⟨A3, c3, rfl, hc3⟩ := hO3.slice
  have HR3 := Lib.hid (HR2.out.below hB3 hz2)
  have HG3 : Hid (u1.grownBy u3 (some g)) := Lib.hid (gtrans HG2.out ⟨hB3.os, hB3.tape, hB3.output, hB3.size, fun k hk _ => hB3.block k hk⟩)
  have hz3 : u2.heap.size ≤ u3.heap.size := hB3.size
  have HO3 := Lib.hid hO3
  have HLw : Hid ((0 < pkN W n xs → spOk W n xs = true) ∧ pkN W n xs ≤ 12 ∧ -1 ≤ pkH W n xs ∧ pkH W n xs ≤ 192) := Lib.hid (by
    cases hs : spOk W n xs
    · exact ⟨fun h => by unfold pkN at h; rw [hs] at h; exact absurd h (Nat.lt_irrefl 0), by unfold pkN; rw [hs]; exact Nat.zero_le _, by unfold pkH; rw [hs]; exact ⟨Int.le_refl _, by show (-1 : Int) ≤ 192; decide⟩⟩
    · have h2 := (pk_law hs).2
      have h3 := h2.1
      unfold vpk at h3
      simp only [Bool.and_eq_true] at h3
      have h4 := of_decide_eq_true h3.2.1
      have h5 := (spOk_of hs).2.1
      exact ⟨fun _ => rfl, by unfold pkN; rw [hs]; exact h5, by unfold pkH; rw [hs]; show -1 ≤ (pkAt W xs n n).h ∧ (pkAt W xs n n).h ≤ 192; omega⟩)
  have HQb : Hid (∀ q, q < pkN W n xs → (0 ≤ q0 (pkL W n xs) q ∧ q0 (pkL W n xs) q ≤ 200) ∧ 0 ≤ q1 (pkL W n xs) q ∧ q1 (pkL W n xs) q ≤ 200) := Lib.hid (by
    intro q hq
    have hs := HLw.out.1 (by omega)
    have e1 : pkN W n xs = n := by unfold pkN; rw [hs]; rfl
    have e2 : pkL W n xs = (pkAt W xs n n).out := by unfold pkL; rw [hs]; rfl
    have h3 := (pk_law hs).2.1
    unfold vpk at h3
    simp only [Bool.and_eq_true] at h3
    have h4 := of_decide_eq_true h3.2.1
    have h5 := ftB_bd' (okK_ft (okKs_get h3.2.2.2 q (by omega)))
    rw [e2]
    omega)
  clear hO3 hB3 HS HR2 HG2 hxl
  generalize pkN W n xs = m at *
  generalize pkL W n xs = L at *
  generalize pkH W n xs = H at *
  have hm12 := HLw.out.2.1
  have hHb := HLw.out.2.2
  clear HLw
  have HEnd : Hid (∀ (uz : World) (L' : List Int) (N' : Nat), OwnT 29 4 uz u2.heap.size (.slice A3 m c3) m L' → u1.grownBy uz (some g) → ∀ uy, uz.grownBy uy (some g) → ∀ x : Int, x ∈ [0, 0, 0, 3, -1] → ∀ H' : Int, 0 ≤ H' → H' ≤ 192 → DrawnV w (.returned (.tuple #[.slice A3 m c3, .int .i64 W, .int .i64 (H' + x)])) uy) := Lib.hid (fun uz L' N' hO hG uy hG2 x hx H' h0 h1 => by
    have hx' := pst_h hx
    exact ⟨A3, m, c3, L', W, H' + x, rfl, ⟨hm12, hc3, by have := hO.len; omega⟩, hWb, by omega, (hO.offG hG2 hz2).rds, HB1.out.grown (gtrans hG hG2) HB1.out.size (fun k hk => by injection hk with hk; have := Hg.out; omega)⟩)
  by_cases hm0 : m = 0
  · subst hm0
    have hd : decide ((0 : Int) < ((0 : Nat) : Int)) = false := rfl
    have hd2 : decide ((0 : Int) < (0 : Int)) = false := rfl
    by_cases hHn : H < 0
    · go_wp2_with fail
      refine (one_litZ _ [0, 0, 0, 3, -1] 5 5 _ g (0) u3 rfl HR3.out (by omega) (by simp) (by simp) rfl rfl).mono ?_
      rintro e uy ⟨x, rfl, hx, hR, hG⟩
      have hxb := pst_h hx
      have HE := Lib.hid (HEnd.out u3 (L) 0 HO3.out HG3.out uy hG x hx 0 (by omega) (by omega))
      rw [Int.zero_add] at HE
      clear hx hR hG HO3 HR3 HG3
      go_wp2
      exact bodyPost_ret (v := .tuple #[.slice A3 0 c3, .int .i64 W, .int .i64 (x)]) (by simp [results, Try.results9, go_sem]) rfl HE.out
    · go_wp2_with fail
      refine (one_litZ _ [0, 0, 0, 3, -1] 5 5 _ g (0) u3 rfl HR3.out (by omega) (by simp) (by simp) rfl rfl).mono ?_
      rintro e uy ⟨x, rfl, hx, hR, hG⟩
      have hxb := pst_h hx
      have HE := Lib.hid (HEnd.out u3 (L) 0 HO3.out HG3.out uy hG x hx H (by omega) (by omega))
      clear hx hR hG HO3 HR3 HG3
      go_wp2
      exact bodyPost_ret (v := .tuple #[.slice A3 0 c3, .int .i64 W, .int .i64 (H + x)]) (by simp [results, Try.results9, go_sem]) rfl HE.out
  · have hmI : (0 : Int) < (m : Int) := by omega
    have hd : decide ((0 : Int) < (m : Int)) = true := decide_eq_true hmI
    go_wp2_with fail
    refine (pick_any 3 g 0 u3 HR3.out (by omega) (by omega)).mono ?_
    intro e u4 hp
    obtain ⟨k, rfl, hk, hR4, hG4, hs4⟩ := picked_nat hp (by omega)
    have HO4 := Lib.hid (HO3.out.offG hG4 hz2)
    have HR4 := Lib.hid hR4
    have HG4 := Lib.hid (gtrans HG3.out hG4)
    clear hp hR4 hG4 hs4 HO3 HR3 HG3
    by_cases hk0 : k = 0
    · have hkI : ((k : Int) == 0) = true := by rw [hk0]; rfl
      clear hk0
      go_wp2_with fail
      refine (pick_any (m : Int) g (0 + 1) u4 HR4.out (by omega) (by omega)).mono ?_
      intro e u5 hp
      obtain ⟨q, rfl, hq, hR5, hG5, hs5⟩ := picked_nat hp hmI
      obtain ⟨gb, cap, e9, hgb, hgbl⟩ := (HO4.out.offG hG5 hz2).form (by omega)
      simp only [Value.slice.injEq] at e9
      obtain ⟨rfl, _, rfl⟩ := e9
      have HO0 := Lib.hid (HO4.out.offG hG5 hz2)
      have HR0 := Lib.hid hR5
      have HG0 := Lib.hid (gtrans HG4.out hG5)
      have hq' : q < m := by omega
      have hqb := HQb.out q hq'
      have hgb1 := Lib.hid (show u1.heap.size ≤ gb by omega)
      have hgb := Lib.hid (show g < gb by omega)
      have hlen := HO0.out.len
      have c0 := HO0.out.cell (j := q * 4) (by omega)
      have HV0 : Hid (L.getD (q * 4) 0 = q0 L q) := Lib.hid rfl
      have HV1 : Hid (L.getD (q * 4 + 1) 0 = q1 L q) := Lib.hid rfl
      rw [HV0.out] at c0
      obtain ⟨y0, hy0⟩ : ∃ y, y = q0 L q := ⟨_, rfl⟩
      obtain ⟨y1, hy1⟩ : ∃ y, y = q1 L q := ⟨_, rfl⟩
      rw [← hy0] at c0 HV0 hqb
      rw [← hy1] at HV1 hqb
      clear hp hR5 hG5 hs5 HO4 HR4 HG4 hlen hy0 hy1
      go_upto_region 6 with fail
      refine wp_region_held_drew (S := (fun w' => True)) (by kernel_rfl) (by exact trivial) (fun hHeld => ?_)
      refine' wpAnyH_take (i := 0) (oi := _) (v := _) ?hi301 (by kernel_rfl) (by kernel_rfl) (by kernel_rfl) ?hq301 (Or.inl ⟨?hw301, ?hy301⟩) (by assumption) ?rest301
      case hi301 => (simp only [List.getElem?_toArray, List.getElem?_cons_succ, List.getElem?_cons_zero]; rfl)
      case hq301 => exact fun _ _ _ h => h
      case hw301 => rfl
      case hy301 => (intro wq hSw; (try dsimp only at hSw); go_simp; (try with_reducible rfl))
      (try simp only [Act.put, List.setIfInBounds_toArray, List.set_cons_zero, List.set_cons_succ])
      refine' wpAnyH_take (i := 1) (oi := _) (v := _) ?hi302 (by kernel_rfl) (by kernel_rfl) (by kernel_rfl) ?hq302 (Or.inl ⟨?hw302, ?hy302⟩) (by assumption) ?rest302
      case hi302 => (simp only [List.getElem?_toArray, List.getElem?_cons_succ, List.getElem?_cons_zero]; rfl)
      case hq302 => exact fun _ _ _ h => h
      case hw302 => rfl
      case hy302 => (intro wq hSw; (try dsimp only at hSw); go_simp; (try with_reducible rfl))
      (try simp only [Act.put, List.setIfInBounds_toArray, List.set_cons_zero, List.set_cons_succ])
      refine' wpAnyH_take (i := 2) (oi := _) (v := _) ?hi303 (by kernel_rfl) (by kernel_rfl) (by kernel_rfl) ?hq303 (Or.inl ⟨?hw303, ?hy303⟩) (by assumption) ?rest303
      case hi303 => (simp only [List.getElem?_toArray, List.getElem?_cons_succ, List.getElem?_cons_zero]; rfl)
      case hq303 => exact fun _ _ _ h => h
      case hw303 => rfl
      case hy303 => (intro wq hSw; (try dsimp only at hSw); go_simp; (try with_reducible rfl))
      (try simp only [Act.put, List.setIfInBounds_toArray, List.set_cons_zero, List.set_cons_succ])
      refine' wpAnyH_take (i := 3) (oi := _) (v := _) ?hi304 (by kernel_rfl) (by kernel_rfl) (by kernel_rfl) ?hq304 (Or.inl ⟨?hw304, ?hy304⟩) (by assumption) ?rest304
      case hi304 => (simp only [List.getElem?_toArray, List.getElem?_cons_succ, List.getElem?_cons_zero]; rfl)
      case hq304 => exact fun _ _ _ h => h
      case hw304 => rfl
      case hy304 => (intro wq hSw; (try dsimp only at hSw); go_simp; (try with_reducible rfl))
      (try simp only [Act.put, List.setIfInBounds_toArray, List.set_cons_zero, List.set_cons_succ])
      refine' wpAnyH_take (i := 4) (oi := _) (v := _) ?hi305 (by kernel_rfl) (by kernel_rfl) (by kernel_rfl) ?hq305 (Or.inl ⟨?hw305, ?hy305⟩) (by assumption) ?rest305
      case hi305 => (simp only [List.getElem?_toArray, List.getElem?_cons_succ, List.getElem?_cons_zero]; rfl)
      case hq305 => exact fun _ _ _ h => h
      case hw305 => rfl
      case hy305 => (intro wq hSw; (try dsimp only at hSw); go_simp; (try with_reducible rfl))
      (try simp only [Act.put, List.setIfInBounds_toArray, List.set_cons_zero, List.set_cons_succ])
      refine' wpAnyH_take (i := 5) (oi := _) (v := _) ?hi306 (by kernel_rfl) (by kernel_rfl) (by kernel_rfl) ?hq306 (Or.inl ⟨?hw306, ?hy306⟩) (by assumption) ?rest306
      case hi306 => (simp only [List.getElem?_toArray, List.getElem?_cons_succ, List.getElem?_cons_zero]; rfl)
      case hq306 => exact fun _ _ _ h => h
      case hw306 => rfl
      case hy306 => (intro wq hSw; (try dsimp only at hSw); go_simp; (try with_reducible rfl))
      (try simp only [Act.put, List.setIfInBounds_toArray, List.set_cons_zero, List.set_cons_succ])
      refine' wpAnyH_take (i := 7) (oi := _) (v := _) ?hi307 (by kernel_rfl) (by kernel_rfl) (by kernel_rfl) ?hq307 (Or.inl ⟨?hw307, ?hy307⟩) (by assumption) ?rest307
      case hi307 => (simp only [List.getElem?_toArray, List.getElem?_cons_succ, List.getElem?_cons_zero]; rfl)
      case hq307 => exact fun _ _ _ h => h
      case hw307 => rfl
      case hy307 => (intro wq hSw; (try dsimp only at hSw); go_simp; (try with_reducible rfl))
      (try simp only [Act.put, List.setIfInBounds_toArray, List.set_cons_zero, List.set_cons_succ])
      refine wpAnyH_ready (rs := [6, 8]) (by kernel_rfl) (by simp) ?_
      refine' AllReadyH.cons (o := _) ?hi308 (fun K hK => ?rest308) (AllReadyH.cons (o := _) ?hj308 (fun K hK => ?rist308) AllReadyH.nil)
      case hi308 => (simp only [List.getElem?_toArray, List.getElem?_cons_succ, List.getElem?_cons_zero]; rfl)
      case hj308 => (simp only [List.getElem?_toArray, List.getElem?_cons_succ, List.getElem?_cons_zero]; rfl)
      case rest308 =>
        go_simp
        refine hK.out _ _ trivial (fun hHeld => ?_)
        clear hK K
        (try simp only [Act.put, List.setIfInBounds_toArray, List.set_cons_zero, List.set_cons_succ])
        refine wpAnyH_ready (rs := [8]) (by kernel_rfl) (by simp) ?_
        refine' AllReadyH.cons (o := _) ?hi309 (fun K hK => ?rest309) AllReadyH.nil
        case hi309 => (simp only [List.getElem?_toArray, List.getElem?_cons_succ, List.getElem?_cons_zero]; rfl)
        go_simp
        go_at_call 25
        refine (pick_any 5 g (0 + 1 + 1) (u5.drew) HR0.out.dr (by omega) (by omega)).mono ?_
        intro e u6 hp
        obtain ⟨x, rfl, hx, hR, hG, hs⟩ := picked_nat hp (by omega)
        have HO := Lib.hid ((HO0.out.dr).offG hG hz2)
        have HR1 := Lib.hid hR
        have HG1 := Lib.hid (gtrans (grw_dr HG0.out) hG)
        have k0 := HO.out.cell (j := q * 4) (by rw [HO.out.len]; omega)
        have f0 := HO.out.frozen (q * 4)
        rw [HV0.out] at k0
        clear hp hR hG hs
        go_wp2_with fail
        refine hK.out _ _ trivial (fun hHeld => ?_)
        clear hK K
        (try simp only [Act.put, List.setIfInBounds_toArray, List.set_cons_zero, List.set_cons_succ])
        have hw1 : IntKind.i64.wrap (y0 + (x : Int)) = y0 + (x : Int) := IntWalk.i64_in _ (by omega)
        have hw2 : IntKind.i64.wrap (y0 + (x : Int) - 2) = y0 + (x : Int) - 2 := IntWalk.i64_in _ (by omega)
        refine' wpAnyH_take (i := 9) (oi := _) (v := _) ?hi310 (by kernel_rfl) (by kernel_rfl) (by kernel_rfl) ?hq310 (Or.inl ⟨?hw310, ?hy310⟩) (by assumption) ?rest310
        case hi310 => (simp only [List.getElem?_toArray, List.getElem?_cons_succ, List.getElem?_cons_zero]; rfl)
        case hq310 => exact fun _ _ _ h => h
        case hw310 => rfl
        case hy310 => (intro wq hSw; (try dsimp only at hSw); go_simp; (try with_reducible rfl))
        (try simp only [Act.put, List.setIfInBounds_toArray, List.set_cons_zero, List.set_cons_succ])
        refine' wpAnyH_take (i := 10) (oi := _) (v := _) ?hi311 (by kernel_rfl) (by kernel_rfl) (by kernel_rfl) ?hq311 (Or.inl ⟨?hw311, ?hy311⟩) (by assumption) ?rest311
        case hi311 => (simp only [List.getElem?_toArray, List.getElem?_cons_succ, List.getElem?_cons_zero]; rfl)
        case hq311 => exact fun _ _ _ h => h
        case hw311 => rfl
        case hy311 => (intro wq hSw; (try dsimp only at hSw); go_simp; (try with_reducible rfl))
        (try simp only [Act.put, List.setIfInBounds_toArray, List.set_cons_zero, List.set_cons_succ])
        refine' wpAnyH_take (i := 11) (oi := _) (v := _) ?hi312 (by kernel_rfl) (by kernel_rfl) (by kernel_rfl) ?hq312 (Or.inl ⟨?hw312, ?hy312⟩) (by assumption) ?rest312
        case hi312 => (simp only [List.getElem?_toArray, List.getElem?_cons_succ, List.getElem?_cons_zero]; rfl)
        case hq312 => exact fun _ _ _ h => h
        case hw312 => rfl
        case hy312 => (intro wq hSw; (try dsimp only at hSw); go_simp; (try with_reducible rfl))
        (try simp only [Act.put, List.setIfInBounds_toArray, List.set_cons_zero, List.set_cons_succ])
        refine' wpAnyH_take (i := 12) (oi := _) (v := _) ?hi313 (by kernel_rfl) (by kernel_rfl) (by kernel_rfl) ?hq313 (Or.inl ⟨?hw313, ?hy313⟩) (by assumption) ?rest313
        case hi313 => (simp only [List.getElem?_toArray, List.getElem?_cons_succ, List.getElem?_cons_zero]; rfl)
        case hq313 => exact fun _ _ _ h => h
        case hw313 => rfl
        case hy313 => (intro wq hSw; (try dsimp only at hSw); go_simp; (try with_reducible rfl))
        (try simp only [Act.put, List.setIfInBounds_toArray, List.set_cons_zero, List.set_cons_succ])
        refine wpAnyH_ready (rs := [13]) (by kernel_rfl) (by simp) ?_
        refine' AllReadyH.cons (o := _) ?hi314 (fun K hK => ?rest314) AllReadyH.nil
        case hi314 => (simp only [List.getElem?_toArray, List.getElem?_cons_succ, List.getElem?_cons_zero]; rfl)
        go_simp
        refine hK.out _ _ trivial (fun hHeld => ?_)
        clear hK K
        (try simp only [Act.put, List.setIfInBounds_toArray, List.set_cons_zero, List.set_cons_succ])
        refine wpAnyH_done (by kernel_rfl) ?_ _
        have HO1 := Lib.hid (HO.out.put (q * 4) (y0 + (x : Int) - 2))
        clear HO k0 f0 c0
        have HR1z := Lib.hid (HR1.out.grown HO1.out.2 (fun k hk => by injection hk with hk; have := hgb.out; omega))
        have HG1z := Lib.hid (gmix HG1.out HO1.out.2 (fun k hk => by injection hk with hk; have := hgb1.out; omega))
        have HO1z := Lib.hid HO1.out.1
        clear HR1 HG1 HO1
        generalize u6.setCell ⟨gb, q * 4, none⟩ (.int .i64 (y0 + (x : Int) - 2)) = u7 at *
        clear hw1 hw2
        have HR1 := HR1z
        have HG1 := HG1z
        have HO1 := HO1z
        clear HR1z HG1z HO1z
        have HV1b : Hid ((L.set (q * 4) (y0 + (x : Int) - 2)).getD (q * 4 + 1) 0 = y1) := Lib.hid (by rw [← HV1.out, List.getD_eq_getElem?_getD, List.getElem?_set_ne (by omega), ← List.getD_eq_getElem?_getD])
        generalize L.set (q * 4) (y0 + (x : Int) - 2) = L1 at *
        have c1 := HO1.out.cell (j := q * 4 + 1) (by rw [HO1.out.len]; omega)
        rw [HV1b.out] at c1
        clear HV1 HV0
        have HV1 := HV1b
        clear HV1b hx
        go_upto_region 7 with fail
        refine wp_region_held_drew (S := (fun w' => True)) (by kernel_rfl) (by exact trivial) (fun hHeld => ?_)
        refine' wpAnyH_take (i := 0) (oi := _) (v := _) ?hi315 (by kernel_rfl) (by kernel_rfl) (by kernel_rfl) ?hq315 (Or.inl ⟨?hw315, ?hy315⟩) (by assumption) ?rest315
        case hi315 => (simp only [List.getElem?_toArray, List.getElem?_cons_succ, List.getElem?_cons_zero]; rfl)
        case hq315 => exact fun _ _ _ h => h
        case hw315 => rfl
        case hy315 => (intro wq hSw; (try dsimp only at hSw); go_simp; (try with_reducible rfl))
        (try simp only [Act.put, List.setIfInBounds_toArray, List.set_cons_zero, List.set_cons_succ])
        refine' wpAnyH_take (i := 1) (oi := _) (v := _) ?hi316 (by kernel_rfl) (by kernel_rfl) (by kernel_rfl) ?hq316 (Or.inl ⟨?hw316, ?hy316⟩) (by assumption) ?rest316
        case hi316 => (simp only [List.getElem?_toArray, List.getElem?_cons_succ, List.getElem?_cons_zero]; rfl)
        case hq316 => exact fun _ _ _ h => h
        case hw316 => rfl
        case hy316 => (intro wq hSw; (try dsimp only at hSw); go_simp; (try with_reducible rfl))
        (try simp only [Act.put, List.setIfInBounds_toArray, List.set_cons_zero, List.set_cons_succ])
        refine' wpAnyH_take (i := 2) (oi := _) (v := _) ?hi317 (by kernel_rfl) (by kernel_rfl) (by kernel_rfl) ?hq317 (Or.inl ⟨?hw317, ?hy317⟩) (by assumption) ?rest317
        case hi317 => (simp only [List.getElem?_toArray, List.getElem?_cons_succ, List.getElem?_cons_zero]; rfl)
        case hq317 => exact fun _ _ _ h => h
        case hw317 => rfl
        case hy317 => (intro wq hSw; (try dsimp only at hSw); go_simp; (try with_reducible rfl))
        (try simp only [Act.put, List.setIfInBounds_toArray, List.set_cons_zero, List.set_cons_succ])
        refine' wpAnyH_take (i := 3) (oi := _) (v := _) ?hi318 (by kernel_rfl) (by kernel_rfl) (by kernel_rfl) ?hq318 (Or.inl ⟨?hw318, ?hy318⟩) (by assumption) ?rest318
        case hi318 => (simp only [List.getElem?_toArray, List.getElem?_cons_succ, List.getElem?_cons_zero]; rfl)
        case hq318 => exact fun _ _ _ h => h
        case hw318 => rfl
        case hy318 => (intro wq hSw; (try dsimp only at hSw); go_simp; (try with_reducible rfl))
        (try simp only [Act.put, List.setIfInBounds_toArray, List.set_cons_zero, List.set_cons_succ])
        refine' wpAnyH_take (i := 4) (oi := _) (v := _) ?hi319 (by kernel_rfl) (by kernel_rfl) (by kernel_rfl) ?hq319 (Or.inl ⟨?hw319, ?hy319⟩) (by assumption) ?rest319
        case hi319 => (simp only [List.getElem?_toArray, List.getElem?_cons_succ, List.getElem?_cons_zero]; rfl)
        case hq319 => exact fun _ _ _ h => h
        case hw319 => rfl
        case hy319 => (intro wq hSw; (try dsimp only at hSw); go_simp; (try with_reducible rfl))
        (try simp only [Act.put, List.setIfInBounds_toArray, List.set_cons_zero, List.set_cons_succ])
        refine' wpAnyH_take (i := 5) (oi := _) (v := _) ?hi320 (by kernel_rfl) (by kernel_rfl) (by kernel_rfl) ?hq320 (Or.inl ⟨?hw320, ?hy320⟩) (by assumption) ?rest320
        case hi320 => (simp only [List.getElem?_toArray, List.getElem?_cons_succ, List.getElem?_cons_zero]; rfl)
        case hq320 => exact fun _ _ _ h => h
        case hw320 => rfl
        case hy320 => (intro wq hSw; (try dsimp only at hSw); go_simp; (try with_reducible rfl))
        (try simp only [Act.put, List.setIfInBounds_toArray, List.set_cons_zero, List.set_cons_succ])
        refine' wpAnyH_take (i := 7) (oi := _) (v := _) ?hi321 (by kernel_rfl) (by kernel_rfl) (by kernel_rfl) ?hq321 (Or.inl ⟨?hw321, ?hy321⟩) (by assumption) ?rest321
        case hi321 => (simp only [List.getElem?_toArray, List.getElem?_cons_succ, List.getElem?_cons_zero]; rfl)
        case hq321 => exact fun _ _ _ h => h
        case hw321 => rfl
        case hy321 => (intro wq hSw; (try dsimp only at hSw); go_simp; (try with_reducible rfl))
        (try simp only [Act.put, List.setIfInBounds_toArray, List.set_cons_zero, List.set_cons_succ])
        refine wpAnyH_ready (rs := [6, 8]) (by kernel_rfl) (by simp) ?_
        refine' AllReadyH.cons (o := _) ?hi322 (fun K hK => ?rest322) (AllReadyH.cons (o := _) ?hj322 (fun K hK => ?rist322) AllReadyH.nil)
        case hi322 => (simp only [List.getElem?_toArray, List.getElem?_cons_succ, List.getElem?_cons_zero]; rfl)
        case hj322 => (simp only [List.getElem?_toArray, List.getElem?_cons_succ, List.getElem?_cons_zero]; rfl)
        case rest322 =>
          go_simp
          refine hK.out _ _ trivial (fun hHeld => ?_)
          clear hK K
          (try simp only [Act.put, List.setIfInBounds_toArray, List.set_cons_zero, List.set_cons_succ])
          refine wpAnyH_ready (rs := [8]) (by kernel_rfl) (by simp) ?_
          refine' AllReadyH.cons (o := _) ?hi323 (fun K hK => ?rest323) AllReadyH.nil
          case hi323 => (simp only [List.getElem?_toArray, List.getElem?_cons_succ, List.getElem?_cons_zero]; rfl)
          go_simp
          go_at_call 25
          refine (pick_any 3 g (0 + 1 + 1 + 1) (u7.drew) HR1.out.dr (by omega) (by omega)).mono ?_
          intro e u8 hp
          obtain ⟨x, rfl, hx, hR, hG, hs⟩ := picked_nat hp (by omega)
          have HO := Lib.hid ((HO1.out.dr).offG hG hz2)
          have HR2 := Lib.hid hR
          have HG2 := Lib.hid (gtrans (grw_dr HG1.out) hG)
          have k0 := HO.out.cell (j := q * 4 + 1) (by rw [HO.out.len]; omega)
          have f0 := HO.out.frozen (q * 4 + 1)
          rw [HV1.out] at k0
          clear hp hR hG hs
          go_wp2_with fail
          refine hK.out _ _ trivial (fun hHeld => ?_)
          clear hK K
          (try simp only [Act.put, List.setIfInBounds_toArray, List.set_cons_zero, List.set_cons_succ])
          have hw1 : IntKind.i64.wrap (y1 + (x : Int)) = y1 + (x : Int) := IntWalk.i64_in _ (by omega)
          have hw2 : IntKind.i64.wrap (y1 + (x : Int) - 1) = y1 + (x : Int) - 1 := IntWalk.i64_in _ (by omega)
          refine' wpAnyH_take (i := 9) (oi := _) (v := _) ?hi324 (by kernel_rfl) (by kernel_rfl) (by kernel_rfl) ?hq324 (Or.inl ⟨?hw324, ?hy324⟩) (by assumption) ?rest324
          case hi324 => (simp only [List.getElem?_toArray, List.getElem?_cons_succ, List.getElem?_cons_zero]; rfl)
          case hq324 => exact fun _ _ _ h => h
          case hw324 => rfl
          case hy324 => (intro wq hSw; (try dsimp only at hSw); go_simp; (try with_reducible rfl))
          (try simp only [Act.put, List.setIfInBounds_toArray, List.set_cons_zero, List.set_cons_succ])
          refine' wpAnyH_take (i := 10) (oi := _) (v := _) ?hi325 (by kernel_rfl) (by kernel_rfl) (by kernel_rfl) ?hq325 (Or.inl ⟨?hw325, ?hy325⟩) (by assumption) ?rest325
          case hi325 => (simp only [List.getElem?_toArray, List.getElem?_cons_succ, List.getElem?_cons_zero]; rfl)
          case hq325 => exact fun _ _ _ h => h
          case hw325 => rfl
          case hy325 => (intro wq hSw; (try dsimp only at hSw); go_simp; (try with_reducible rfl))
          (try simp only [Act.put, List.setIfInBounds_toArray, List.set_cons_zero, List.set_cons_succ])
          refine' wpAnyH_take (i := 11) (oi := _) (v := _) ?hi326 (by kernel_rfl) (by kernel_rfl) (by kernel_rfl) ?hq326 (Or.inl ⟨?hw326, ?hy326⟩) (by assumption) ?rest326
          case hi326 => (simp only [List.getElem?_toArray, List.getElem?_cons_succ, List.getElem?_cons_zero]; rfl)
          case hq326 => exact fun _ _ _ h => h
          case hw326 => rfl
          case hy326 => (intro wq hSw; (try dsimp only at hSw); go_simp; (try with_reducible rfl))
          (try simp only [Act.put, List.setIfInBounds_toArray, List.set_cons_zero, List.set_cons_succ])
          refine' wpAnyH_take (i := 12) (oi := _) (v := _) ?hi327 (by kernel_rfl) (by kernel_rfl) (by kernel_rfl) ?hq327 (Or.inl ⟨?hw327, ?hy327⟩) (by assumption) ?rest327
          case hi327 => (simp only [List.getElem?_toArray, List.getElem?_cons_succ, List.getElem?_cons_zero]; rfl)
          case hq327 => exact fun _ _ _ h => h
          case hw327 => rfl
          case hy327 => (intro wq hSw; (try dsimp only at hSw); go_simp; (try with_reducible rfl))
          (try simp only [Act.put, List.setIfInBounds_toArray, List.set_cons_zero, List.set_cons_succ])
          refine wpAnyH_ready (rs := [13]) (by kernel_rfl) (by simp) ?_
          refine' AllReadyH.cons (o := _) ?hi328 (fun K hK => ?rest328) AllReadyH.nil
          case hi328 => (simp only [List.getElem?_toArray, List.getElem?_cons_succ, List.getElem?_cons_zero]; rfl)
          go_simp
          refine hK.out _ _ trivial (fun hHeld => ?_)
          clear hK K
          (try simp only [Act.put, List.setIfInBounds_toArray, List.set_cons_zero, List.set_cons_succ])
          refine wpAnyH_done (by kernel_rfl) ?_ _
          have HO2 := Lib.hid (HO.out.put (q * 4 + 1) (y1 + (x : Int) - 1))
          clear HO k0 f0 c1
          have HRz := Lib.hid (HR2.out.grown HO2.out.2 (fun k hk => by injection hk with hk; have := hgb.out; omega))
          have HGz := Lib.hid (gmix HG2.out HO2.out.2 (fun k hk => by injection hk with hk; have := hgb1.out; omega))
          have HOz := Lib.hid HO2.out.1
          clear HR2 HG2 HO2 hw1 hw2
          generalize u8.setCell ⟨gb, q * 4 + 1, none⟩ (.int .i64 (y1 + (x : Int) - 1)) = uz at *
          by_cases hHn : H < 0
          · go_wp2_with fail
            refine (one_litZ _ [0, 0, 0, 3, -1] 5 5 _ g (0 + 1 + 1 + 1 + 1) uz rfl HRz.out (by omega) (by simp) (by simp) rfl rfl).mono ?_
            rintro e uy ⟨x, rfl, hx, hR, hG⟩
            have hxb := pst_h hx
            have HE := Lib.hid (HEnd.out uz (_) 0 HOz.out HGz.out uy hG x hx 0 (by omega) (by omega))
            rw [Int.zero_add] at HE
            clear hx hR hG HOz HRz HGz
            go_wp2
            exact bodyPost_ret (v := .tuple #[.slice (some ⟨gb, 0, none⟩) m c3, .int .i64 W, .int .i64 (x)]) (by simp [results, Try.results9, go_sem]) rfl HE.out
          · go_wp2_with fail
            refine (one_litZ _ [0, 0, 0, 3, -1] 5 5 _ g (0 + 1 + 1 + 1 + 1) uz rfl HRz.out (by omega) (by simp) (by simp) rfl rfl).mono ?_
            rintro e uy ⟨x, rfl, hx, hR, hG⟩
            have hxb := pst_h hx
            have HE := Lib.hid (HEnd.out uz (_) 0 HOz.out HGz.out uy hG x hx H (by omega) (by omega))
            clear hx hR hG HOz HRz HGz
            go_wp2
            exact bodyPost_ret (v := .tuple #[.slice (some ⟨gb, 0, none⟩) m c3, .int .i64 W, .int .i64 (H + x)]) (by simp [results, Try.results9, go_sem]) rfl HE.out
        case rist322 =>
          go_simp
          go_at_call 25
          refine (pick_any 3 g (0 + 1 + 1 + 1) (u7.drew) HR1.out.dr (by omega) (by omega)).mono ?_
          intro e u8 hp
          obtain ⟨x, rfl, hx, hR, hG, hs⟩ := picked_nat hp (by omega)
          have HO := Lib.hid ((HO1.out.dr).offG hG hz2)
          have HR2 := Lib.hid hR
          have HG2 := Lib.hid (gtrans (grw_dr HG1.out) hG)
          have k0 := HO.out.cell (j := q * 4 + 1) (by rw [HO.out.len]; omega)
          have f0 := HO.out.frozen (q * 4 + 1)
          rw [HV1.out] at k0
          clear hp hR hG hs
          go_wp2_with fail
          refine hK.out _ _ trivial (fun hHeld => ?_)
          clear hK K
          (try simp only [Act.put, List.setIfInBounds_toArray, List.set_cons_zero, List.set_cons_succ])
          refine wpAnyH_ready (rs := [6]) (by kernel_rfl) (by simp) ?_
          refine' AllReadyH.cons (o := _) ?hi329 (fun K hK => ?rest329) AllReadyH.nil
          case hi329 => (simp only [List.getElem?_toArray, List.getElem?_cons_succ, List.getElem?_cons_zero]; rfl)
          go_simp
          refine hK.out _ _ trivial (fun hHeld => ?_)
          clear hK K
          (try simp only [Act.put, List.setIfInBounds_toArray, List.set_cons_zero, List.set_cons_succ])
          have hw1 : IntKind.i64.wrap (y1 + (x : Int)) = y1 + (x : Int) := IntWalk.i64_in _ (by omega)
          have hw2 : IntKind.i64.wrap (y1 + (x : Int) - 1) = y1 + (x : Int) - 1 := IntWalk.i64_in _ (by omega)
          refine' wpAnyH_take (i := 9) (oi := _) (v := _) ?hi330 (by kernel_rfl) (by kernel_rfl) (by kernel_rfl) ?hq330 (Or.inl ⟨?hw330, ?hy330⟩) (by assumption) ?rest330
          case hi330 => (simp only [List.getElem?_toArray, List.getElem?_cons_succ, List.getElem?_cons_zero]; rfl)
          case hq330 => exact fun _ _ _ h => h
          case hw330 => rfl
          case hy330 => (intro wq hSw; (try dsimp only at hSw); go_simp; (try with_reducible rfl))
          (try simp only [Act.put, List.setIfInBounds_toArray, List.set_cons_zero, List.set_cons_succ])
          refine' wpAnyH_take (i := 10) (oi := _) (v := _) ?hi331 (by kernel_rfl) (by kernel_rfl) (by kernel_rfl) ?hq331 (Or.inl ⟨?hw331, ?hy331⟩) (by assumption) ?rest331
          case hi331 => (simp only [List.getElem?_toArray, List.getElem?_cons_succ, List.getElem?_cons_zero]; rfl)
          case hq331 => exact fun _ _ _ h => h
          case hw331 => rfl
          case hy331 => (intro wq hSw; (try dsimp only at hSw); go_simp; (try with_reducible rfl))
          (try simp only [Act.put, List.setIfInBounds_toArray, List.set_cons_zero, List.set_cons_succ])
          refine' wpAnyH_take (i := 11) (oi := _) (v := _) ?hi332 (by kernel_rfl) (by kernel_rfl) (by kernel_rfl) ?hq332 (Or.inl ⟨?hw332, ?hy332⟩) (by assumption) ?rest332
          case hi332 => (simp only [List.getElem?_toArray, List.getElem?_cons_succ, List.getElem?_cons_zero]; rfl)
          case hq332 => exact fun _ _ _ h => h
          case hw332 => rfl
          case hy332 => (intro wq hSw; (try dsimp only at hSw); go_simp; (try with_reducible rfl))
          (try simp only [Act.put, List.setIfInBounds_toArray, List.set_cons_zero, List.set_cons_succ])
          refine' wpAnyH_take (i := 12) (oi := _) (v := _) ?hi333 (by kernel_rfl) (by kernel_rfl) (by kernel_rfl) ?hq333 (Or.inl ⟨?hw333, ?hy333⟩) (by assumption) ?rest333
          case hi333 => (simp only [List.getElem?_toArray, List.getElem?_cons_succ, List.getElem?_cons_zero]; rfl)
          case hq333 => exact fun _ _ _ h => h
          case hw333 => rfl
          case hy333 => (intro wq hSw; (try dsimp only at hSw); go_simp; (try with_reducible rfl))
          (try simp only [Act.put, List.setIfInBounds_toArray, List.set_cons_zero, List.set_cons_succ])
          refine wpAnyH_ready (rs := [13]) (by kernel_rfl) (by simp) ?_
          refine' AllReadyH.cons (o := _) ?hi334 (fun K hK => ?rest334) AllReadyH.nil
          case hi334 => (simp only [List.getElem?_toArray, List.getElem?_cons_succ, List.getElem?_cons_zero]; rfl)
          go_simp
          refine hK.out _ _ trivial (fun hHeld => ?_)
          clear hK K
          (try simp only [Act.put, List.setIfInBounds_toArray, List.set_cons_zero, List.set_cons_succ])
          refine wpAnyH_done (by kernel_rfl) ?_ _
          have HO2 := Lib.hid (HO.out.put (q * 4 + 1) (y1 + (x : Int) - 1))
          clear HO k0 f0 c1
          have HRz := Lib.hid (HR2.out.grown HO2.out.2 (fun k hk => by injection hk with hk; have := hgb.out; omega))
          have HGz := Lib.hid (gmix HG2.out HO2.out.2 (fun k hk => by injection hk with hk; have := hgb1.out; omega))
          have HOz := Lib.hid HO2.out.1
          clear HR2 HG2 HO2 hw1 hw2
          generalize u8.setCell ⟨gb, q * 4 + 1, none⟩ (.int .i64 (y1 + (x : Int) - 1)) = uz at *
          by_cases hHn : H < 0
          · go_wp2_with fail
            refine (one_litZ _ [0, 0, 0, 3, -1] 5 5 _ g (0 + 1 + 1 + 1 + 1) uz rfl HRz.out (by omega) (by simp) (by simp) rfl rfl).mono ?_
            rintro e uy ⟨x, rfl, hx, hR, hG⟩
            have hxb := pst_h hx
            have HE := Lib.hid (HEnd.out uz (_) 0 HOz.out HGz.out uy hG x hx 0 (by omega) (by omega))
            rw [Int.zero_add] at HE
            clear hx hR hG HOz HRz HGz
            go_wp2
            exact bodyPost_ret (v := .tuple #[.slice (some ⟨gb, 0, none⟩) m c3, .int .i64 W, .int .i64 (x)]) (by simp [results, Try.results9, go_sem]) rfl HE.out
          · go_wp2_with fail
            refine (one_litZ _ [0, 0, 0, 3, -1] 5 5 _ g (0 + 1 + 1 + 1 + 1) uz rfl HRz.out (by omega) (by simp) (by simp) rfl rfl).mono ?_
            rintro e uy ⟨x, rfl, hx, hR, hG⟩
            have hxb := pst_h hx
            have HE := Lib.hid (HEnd.out uz (_) 0 HOz.out HGz.out uy hG x hx H (by omega) (by omega))
            clear hx hR hG HOz HRz HGz
            go_wp2
            exact bodyPost_ret (v := .tuple #[.slice (some ⟨gb, 0, none⟩) m c3, .int .i64 W, .int .i64 (H + x)]) (by simp [results, Try.results9, go_sem]) rfl HE.out
      case rist308 =>
        go_simp
        go_at_call 25
        refine (pick_any 5 g (0 + 1 + 1) (u5.drew) HR0.out.dr (by omega) (by omega)).mono ?_
        intro e u6 hp
        obtain ⟨x, rfl, hx, hR, hG, hs⟩ := picked_nat hp (by omega)
        have HO := Lib.hid ((HO0.out.dr).offG hG hz2)
        have HR1 := Lib.hid hR
        have HG1 := Lib.hid (gtrans (grw_dr HG0.out) hG)
        have k0 := HO.out.cell (j := q * 4) (by rw [HO.out.len]; omega)
        have f0 := HO.out.frozen (q * 4)
        rw [HV0.out] at k0
        clear hp hR hG hs
        go_wp2_with fail
        refine hK.out _ _ trivial (fun hHeld => ?_)
        clear hK K
        (try simp only [Act.put, List.setIfInBounds_toArray, List.set_cons_zero, List.set_cons_succ])
        refine wpAnyH_ready (rs := [6]) (by kernel_rfl) (by simp) ?_
        refine' AllReadyH.cons (o := _) ?hi335 (fun K hK => ?rest335) AllReadyH.nil
        case hi335 => (simp only [List.getElem?_toArray, List.getElem?_cons_succ, List.getElem?_cons_zero]; rfl)
        go_simp
        refine hK.out _ _ trivial (fun hHeld => ?_)
        clear hK K
        (try simp only [Act.put, List.setIfInBounds_toArray, List.set_cons_zero, List.set_cons_succ])
        have hw1 : IntKind.i64.wrap (y0 + (x : Int)) = y0 + (x : Int) := IntWalk.i64_in _ (by omega)
        have hw2 : IntKind.i64.wrap (y0 + (x : Int) - 2) = y0 + (x : Int) - 2 := IntWalk.i64_in _ (by omega)
        refine' wpAnyH_take (i := 9) (oi := _) (v := _) ?hi336 (by kernel_rfl) (by kernel_rfl) (by kernel_rfl) ?hq336 (Or.inl ⟨?hw336, ?hy336⟩) (by assumption) ?rest336
        case hi336 => (simp only [List.getElem?_toArray, List.getElem?_cons_succ, List.getElem?_cons_zero]; rfl)
        case hq336 => exact fun _ _ _ h => h
        case hw336 => rfl
        case hy336 => (intro wq hSw; (try dsimp only at hSw); go_simp; (try with_reducible rfl))
        (try simp only [Act.put, List.setIfInBounds_toArray, List.set_cons_zero, List.set_cons_succ])
        refine' wpAnyH_take (i := 10) (oi := _) (v := _) ?hi337 (by kernel_rfl) (by kernel_rfl) (by kernel_rfl) ?hq337 (Or.inl ⟨?hw337, ?hy337⟩) (by assumption) ?rest337
        case hi337 => (simp only [List.getElem?_toArray, List.getElem?_cons_succ, List.getElem?_cons_zero]; rfl)
        case hq337 => exact fun _ _ _ h => h
        case hw337 => rfl
        case hy337 => (intro wq hSw; (try dsimp only at hSw); go_simp; (try with_reducible rfl))
        (try simp only [Act.put, List.setIfInBounds_toArray, List.set_cons_zero, List.set_cons_succ])
        refine' wpAnyH_take (i := 11) (oi := _) (v := _) ?hi338 (by kernel_rfl) (by kernel_rfl) (by kernel_rfl) ?hq338 (Or.inl ⟨?hw338, ?hy338⟩) (by assumption) ?rest338
        case hi338 => (simp only [List.getElem?_toArray, List.getElem?_cons_succ, List.getElem?_cons_zero]; rfl)
        case hq338 => exact fun _ _ _ h => h
        case hw338 => rfl
        case hy338 => (intro wq hSw; (try dsimp only at hSw); go_simp; (try with_reducible rfl))
        (try simp only [Act.put, List.setIfInBounds_toArray, List.set_cons_zero, List.set_cons_succ])
        refine' wpAnyH_take (i := 12) (oi := _) (v := _) ?hi339 (by kernel_rfl) (by kernel_rfl) (by kernel_rfl) ?hq339 (Or.inl ⟨?hw339, ?hy339⟩) (by assumption) ?rest339
        case hi339 => (simp only [List.getElem?_toArray, List.getElem?_cons_succ, List.getElem?_cons_zero]; rfl)
        case hq339 => exact fun _ _ _ h => h
        case hw339 => rfl
        case hy339 => (intro wq hSw; (try dsimp only at hSw); go_simp; (try with_reducible rfl))
        (try simp only [Act.put, List.setIfInBounds_toArray, List.set_cons_zero, List.set_cons_succ])
        refine wpAnyH_ready (rs := [13]) (by kernel_rfl) (by simp) ?_
        refine' AllReadyH.cons (o := _) ?hi340 (fun K hK => ?rest340) AllReadyH.nil
        case hi340 => (simp only [List.getElem?_toArray, List.getElem?_cons_succ, List.getElem?_cons_zero]; rfl)
        go_simp
        refine hK.out _ _ trivial (fun hHeld => ?_)
        clear hK K
        (try simp only [Act.put, List.setIfInBounds_toArray, List.set_cons_zero, List.set_cons_succ])
        refine wpAnyH_done (by kernel_rfl) ?_ _
        have HO1 := Lib.hid (HO.out.put (q * 4) (y0 + (x : Int) - 2))
        clear HO k0 f0 c0
        have HR1z := Lib.hid (HR1.out.grown HO1.out.2 (fun k hk => by injection hk with hk; have := hgb.out; omega))
        have HG1z := Lib.hid (gmix HG1.out HO1.out.2 (fun k hk => by injection hk with hk; have := hgb1.out; omega))
        have HO1z := Lib.hid HO1.out.1
        clear HR1 HG1 HO1
        generalize u6.setCell ⟨gb, q * 4, none⟩ (.int .i64 (y0 + (x : Int) - 2)) = u7 at *
        clear hw1 hw2
        have HR1 := HR1z
        have HG1 := HG1z
        have HO1 := HO1z
        clear HR1z HG1z HO1z
        have HV1b : Hid ((L.set (q * 4) (y0 + (x : Int) - 2)).getD (q * 4 + 1) 0 = y1) := Lib.hid (by rw [← HV1.out, List.getD_eq_getElem?_getD, List.getElem?_set_ne (by omega), ← List.getD_eq_getElem?_getD])
        generalize L.set (q * 4) (y0 + (x : Int) - 2) = L1 at *
        have c1 := HO1.out.cell (j := q * 4 + 1) (by rw [HO1.out.len]; omega)
        rw [HV1b.out] at c1
        clear HV1 HV0
        have HV1 := HV1b
        clear HV1b hx
        go_upto_region 7 with fail
        refine wp_region_held_drew (S := (fun w' => True)) (by kernel_rfl) (by exact trivial) (fun hHeld => ?_)
        refine' wpAnyH_take (i := 0) (oi := _) (v := _) ?hi341 (by kernel_rfl) (by kernel_rfl) (by kernel_rfl) ?hq341 (Or.inl ⟨?hw341, ?hy341⟩) (by assumption) ?rest341
        case hi341 => (simp only [List.getElem?_toArray, List.getElem?_cons_succ, List.getElem?_cons_zero]; rfl)
        case hq341 => exact fun _ _ _ h => h
        case hw341 => rfl
        case hy341 => (intro wq hSw; (try dsimp only at hSw); go_simp; (try with_reducible rfl))
        (try simp only [Act.put, List.setIfInBounds_toArray, List.set_cons_zero, List.set_cons_succ])
        refine' wpAnyH_take (i := 1) (oi := _) (v := _) ?hi342 (by kernel_rfl) (by kernel_rfl) (by kernel_rfl) ?hq342 (Or.inl ⟨?hw342, ?hy342⟩) (by assumption) ?rest342
        case hi342 => (simp only [List.getElem?_toArray, List.getElem?_cons_succ, List.getElem?_cons_zero]; rfl)
        case hq342 => exact fun _ _ _ h => h
        case hw342 => rfl
        case hy342 => (intro wq hSw; (try dsimp only at hSw); go_simp; (try with_reducible rfl))
        (try simp only [Act.put, List.setIfInBounds_toArray, List.set_cons_zero, List.set_cons_succ])
        refine' wpAnyH_take (i := 2) (oi := _) (v := _) ?hi343 (by kernel_rfl) (by kernel_rfl) (by kernel_rfl) ?hq343 (Or.inl ⟨?hw343, ?hy343⟩) (by assumption) ?rest343
        case hi343 => (simp only [List.getElem?_toArray, List.getElem?_cons_succ, List.getElem?_cons_zero]; rfl)
        case hq343 => exact fun _ _ _ h => h
        case hw343 => rfl
        case hy343 => (intro wq hSw; (try dsimp only at hSw); go_simp; (try with_reducible rfl))
        (try simp only [Act.put, List.setIfInBounds_toArray, List.set_cons_zero, List.set_cons_succ])
        refine' wpAnyH_take (i := 3) (oi := _) (v := _) ?hi344 (by kernel_rfl) (by kernel_rfl) (by kernel_rfl) ?hq344 (Or.inl ⟨?hw344, ?hy344⟩) (by assumption) ?rest344
        case hi344 => (simp only [List.getElem?_toArray, List.getElem?_cons_succ, List.getElem?_cons_zero]; rfl)
        case hq344 => exact fun _ _ _ h => h
        case hw344 => rfl
        case hy344 => (intro wq hSw; (try dsimp only at hSw); go_simp; (try with_reducible rfl))
        (try simp only [Act.put, List.setIfInBounds_toArray, List.set_cons_zero, List.set_cons_succ])
        refine' wpAnyH_take (i := 4) (oi := _) (v := _) ?hi345 (by kernel_rfl) (by kernel_rfl) (by kernel_rfl) ?hq345 (Or.inl ⟨?hw345, ?hy345⟩) (by assumption) ?rest345
        case hi345 => (simp only [List.getElem?_toArray, List.getElem?_cons_succ, List.getElem?_cons_zero]; rfl)
        case hq345 => exact fun _ _ _ h => h
        case hw345 => rfl
        case hy345 => (intro wq hSw; (try dsimp only at hSw); go_simp; (try with_reducible rfl))
        (try simp only [Act.put, List.setIfInBounds_toArray, List.set_cons_zero, List.set_cons_succ])
        refine' wpAnyH_take (i := 5) (oi := _) (v := _) ?hi346 (by kernel_rfl) (by kernel_rfl) (by kernel_rfl) ?hq346 (Or.inl ⟨?hw346, ?hy346⟩) (by assumption) ?rest346
        case hi346 => (simp only [List.getElem?_toArray, List.getElem?_cons_succ, List.getElem?_cons_zero]; rfl)
        case hq346 => exact fun _ _ _ h => h
        case hw346 => rfl
        case hy346 => (intro wq hSw; (try dsimp only at hSw); go_simp; (try with_reducible rfl))
        (try simp only [Act.put, List.setIfInBounds_toArray, List.set_cons_zero, List.set_cons_succ])
        refine' wpAnyH_take (i := 7) (oi := _) (v := _) ?hi347 (by kernel_rfl) (by kernel_rfl) (by kernel_rfl) ?hq347 (Or.inl ⟨?hw347, ?hy347⟩) (by assumption) ?rest347
        case hi347 => (simp only [List.getElem?_toArray, List.getElem?_cons_succ, List.getElem?_cons_zero]; rfl)
        case hq347 => exact fun _ _ _ h => h
        case hw347 => rfl
        case hy347 => (intro wq hSw; (try dsimp only at hSw); go_simp; (try with_reducible rfl))
        (try simp only [Act.put, List.setIfInBounds_toArray, List.set_cons_zero, List.set_cons_succ])
        refine wpAnyH_ready (rs := [6, 8]) (by kernel_rfl) (by simp) ?_
        refine' AllReadyH.cons (o := _) ?hi348 (fun K hK => ?rest348) (AllReadyH.cons (o := _) ?hj348 (fun K hK => ?rist348) AllReadyH.nil)
        case hi348 => (simp only [List.getElem?_toArray, List.getElem?_cons_succ, List.getElem?_cons_zero]; rfl)
        case hj348 => (simp only [List.getElem?_toArray, List.getElem?_cons_succ, List.getElem?_cons_zero]; rfl)
        case rest348 =>
          go_simp
          refine hK.out _ _ trivial (fun hHeld => ?_)
          clear hK K
          (try simp only [Act.put, List.setIfInBounds_toArray, List.set_cons_zero, List.set_cons_succ])
          refine wpAnyH_ready (rs := [8]) (by kernel_rfl) (by simp) ?_
          refine' AllReadyH.cons (o := _) ?hi349 (fun K hK => ?rest349) AllReadyH.nil
          case hi349 => (simp only [List.getElem?_toArray, List.getElem?_cons_succ, List.getElem?_cons_zero]; rfl)
          go_simp
          go_at_call 25
          refine (pick_any 3 g (0 + 1 + 1 + 1) (u7.drew) HR1.out.dr (by omega) (by omega)).mono ?_
          intro e u8 hp
          obtain ⟨x, rfl, hx, hR, hG, hs⟩ := picked_nat hp (by omega)
          have HO := Lib.hid ((HO1.out.dr).offG hG hz2)
          have HR2 := Lib.hid hR
          have HG2 := Lib.hid (gtrans (grw_dr HG1.out) hG)
          have k0 := HO.out.cell (j := q * 4 + 1) (by rw [HO.out.len]; omega)
          have f0 := HO.out.frozen (q * 4 + 1)
          rw [HV1.out] at k0
          clear hp hR hG hs
          go_wp2_with fail
          refine hK.out _ _ trivial (fun hHeld => ?_)
          clear hK K
          (try simp only [Act.put, List.setIfInBounds_toArray, List.set_cons_zero, List.set_cons_succ])
          have hw1 : IntKind.i64.wrap (y1 + (x : Int)) = y1 + (x : Int) := IntWalk.i64_in _ (by omega)
          have hw2 : IntKind.i64.wrap (y1 + (x : Int) - 1) = y1 + (x : Int) - 1 := IntWalk.i64_in _ (by omega)
          refine' wpAnyH_take (i := 9) (oi := _) (v := _) ?hi350 (by kernel_rfl) (by kernel_rfl) (by kernel_rfl) ?hq350 (Or.inl ⟨?hw350, ?hy350⟩) (by assumption) ?rest350
          case hi350 => (simp only [List.getElem?_toArray, List.getElem?_cons_succ, List.getElem?_cons_zero]; rfl)
          case hq350 => exact fun _ _ _ h => h
          case hw350 => rfl
          case hy350 => (intro wq hSw; (try dsimp only at hSw); go_simp; (try with_reducible rfl))
          (try simp only [Act.put, List.setIfInBounds_toArray, List.set_cons_zero, List.set_cons_succ])
          refine' wpAnyH_take (i := 10) (oi := _) (v := _) ?hi351 (by kernel_rfl) (by kernel_rfl) (by kernel_rfl) ?hq351 (Or.inl ⟨?hw351, ?hy351⟩) (by assumption) ?rest351
          case hi351 => (simp only [List.getElem?_toArray, List.getElem?_cons_succ, List.getElem?_cons_zero]; rfl)
          case hq351 => exact fun _ _ _ h => h
          case hw351 => rfl
          case hy351 => (intro wq hSw; (try dsimp only at hSw); go_simp; (try with_reducible rfl))
          (try simp only [Act.put, List.setIfInBounds_toArray, List.set_cons_zero, List.set_cons_succ])
          refine' wpAnyH_take (i := 11) (oi := _) (v := _) ?hi352 (by kernel_rfl) (by kernel_rfl) (by kernel_rfl) ?hq352 (Or.inl ⟨?hw352, ?hy352⟩) (by assumption) ?rest352
          case hi352 => (simp only [List.getElem?_toArray, List.getElem?_cons_succ, List.getElem?_cons_zero]; rfl)
          case hq352 => exact fun _ _ _ h => h
          case hw352 => rfl
          case hy352 => (intro wq hSw; (try dsimp only at hSw); go_simp; (try with_reducible rfl))
          (try simp only [Act.put, List.setIfInBounds_toArray, List.set_cons_zero, List.set_cons_succ])
          refine' wpAnyH_take (i := 12) (oi := _) (v := _) ?hi353 (by kernel_rfl) (by kernel_rfl) (by kernel_rfl) ?hq353 (Or.inl ⟨?hw353, ?hy353⟩) (by assumption) ?rest353
          case hi353 => (simp only [List.getElem?_toArray, List.getElem?_cons_succ, List.getElem?_cons_zero]; rfl)
          case hq353 => exact fun _ _ _ h => h
          case hw353 => rfl
          case hy353 => (intro wq hSw; (try dsimp only at hSw); go_simp; (try with_reducible rfl))
          (try simp only [Act.put, List.setIfInBounds_toArray, List.set_cons_zero, List.set_cons_succ])
          refine wpAnyH_ready (rs := [13]) (by kernel_rfl) (by simp) ?_
          refine' AllReadyH.cons (o := _) ?hi354 (fun K hK => ?rest354) AllReadyH.nil
          case hi354 => (simp only [List.getElem?_toArray, List.getElem?_cons_succ, List.getElem?_cons_zero]; rfl)
          go_simp
          refine hK.out _ _ trivial (fun hHeld => ?_)
          clear hK K
          (try simp only [Act.put, List.setIfInBounds_toArray, List.set_cons_zero, List.set_cons_succ])
          refine wpAnyH_done (by kernel_rfl) ?_ _
          have HO2 := Lib.hid (HO.out.put (q * 4 + 1) (y1 + (x : Int) - 1))
          clear HO k0 f0 c1
          have HRz := Lib.hid (HR2.out.grown HO2.out.2 (fun k hk => by injection hk with hk; have := hgb.out; omega))
          have HGz := Lib.hid (gmix HG2.out HO2.out.2 (fun k hk => by injection hk with hk; have := hgb1.out; omega))
          have HOz := Lib.hid HO2.out.1
          clear HR2 HG2 HO2 hw1 hw2
          generalize u8.setCell ⟨gb, q * 4 + 1, none⟩ (.int .i64 (y1 + (x : Int) - 1)) = uz at *
          by_cases hHn : H < 0
          · go_wp2_with fail
            refine (one_litZ _ [0, 0, 0, 3, -1] 5 5 _ g (0 + 1 + 1 + 1 + 1) uz rfl HRz.out (by omega) (by simp) (by simp) rfl rfl).mono ?_
            rintro e uy ⟨x, rfl, hx, hR, hG⟩
            have hxb := pst_h hx
            have HE := Lib.hid (HEnd.out uz (_) 0 HOz.out HGz.out uy hG x hx 0 (by omega) (by omega))
            rw [Int.zero_add] at HE
            clear hx hR hG HOz HRz HGz
            go_wp2
            exact bodyPost_ret (v := .tuple #[.slice (some ⟨gb, 0, none⟩) m c3, .int .i64 W, .int .i64 (x)]) (by simp [results, Try.results9, go_sem]) rfl HE.out
          · go_wp2_with fail
            refine (one_litZ _ [0, 0, 0, 3, -1] 5 5 _ g (0 + 1 + 1 + 1 + 1) uz rfl HRz.out (by omega) (by simp) (by simp) rfl rfl).mono ?_
            rintro e uy ⟨x, rfl, hx, hR, hG⟩
            have hxb := pst_h hx
            have HE := Lib.hid (HEnd.out uz (_) 0 HOz.out HGz.out uy hG x hx H (by omega) (by omega))
            clear hx hR hG HOz HRz HGz
            go_wp2
            exact bodyPost_ret (v := .tuple #[.slice (some ⟨gb, 0, none⟩) m c3, .int .i64 W, .int .i64 (H + x)]) (by simp [results, Try.results9, go_sem]) rfl HE.out
        case rist348 =>
          go_simp
          go_at_call 25
          refine (pick_any 3 g (0 + 1 + 1 + 1) (u7.drew) HR1.out.dr (by omega) (by omega)).mono ?_
          intro e u8 hp
          obtain ⟨x, rfl, hx, hR, hG, hs⟩ := picked_nat hp (by omega)
          have HO := Lib.hid ((HO1.out.dr).offG hG hz2)
          have HR2 := Lib.hid hR
          have HG2 := Lib.hid (gtrans (grw_dr HG1.out) hG)
          have k0 := HO.out.cell (j := q * 4 + 1) (by rw [HO.out.len]; omega)
          have f0 := HO.out.frozen (q * 4 + 1)
          rw [HV1.out] at k0
          clear hp hR hG hs
          go_wp2_with fail
          refine hK.out _ _ trivial (fun hHeld => ?_)
          clear hK K
          (try simp only [Act.put, List.setIfInBounds_toArray, List.set_cons_zero, List.set_cons_succ])
          refine wpAnyH_ready (rs := [6]) (by kernel_rfl) (by simp) ?_
          refine' AllReadyH.cons (o := _) ?hi355 (fun K hK => ?rest355) AllReadyH.nil
          case hi355 => (simp only [List.getElem?_toArray, List.getElem?_cons_succ, List.getElem?_cons_zero]; rfl)
          go_simp
          refine hK.out _ _ trivial (fun hHeld => ?_)
          clear hK K
          (try simp only [Act.put, List.setIfInBounds_toArray, List.set_cons_zero, List.set_cons_succ])
          have hw1 : IntKind.i64.wrap (y1 + (x : Int)) = y1 + (x : Int) := IntWalk.i64_in _ (by omega)
          have hw2 : IntKind.i64.wrap (y1 + (x : Int) - 1) = y1 + (x : Int) - 1 := IntWalk.i64_in _ (by omega)
          refine' wpAnyH_take (i := 9) (oi := _) (v := _) ?hi356 (by kernel_rfl) (by kernel_rfl) (by kernel_rfl) ?hq356 (Or.inl ⟨?hw356, ?hy356⟩) (by assumption) ?rest356
          case hi356 => (simp only [List.getElem?_toArray, List.getElem?_cons_succ, List.getElem?_cons_zero]; rfl)
          case hq356 => exact fun _ _ _ h => h
          case hw356 => rfl
          case hy356 => (intro wq hSw; (try dsimp only at hSw); go_simp; (try with_reducible rfl))
          (try simp only [Act.put, List.setIfInBounds_toArray, List.set_cons_zero, List.set_cons_succ])
          refine' wpAnyH_take (i := 10) (oi := _) (v := _) ?hi357 (by kernel_rfl) (by kernel_rfl) (by kernel_rfl) ?hq357 (Or.inl ⟨?hw357, ?hy357⟩) (by assumption) ?rest357
          case hi357 => (simp only [List.getElem?_toArray, List.getElem?_cons_succ, List.getElem?_cons_zero]; rfl)
          case hq357 => exact fun _ _ _ h => h
          case hw357 => rfl
          case hy357 => (intro wq hSw; (try dsimp only at hSw); go_simp; (try with_reducible rfl))
          (try simp only [Act.put, List.setIfInBounds_toArray, List.set_cons_zero, List.set_cons_succ])
          refine' wpAnyH_take (i := 11) (oi := _) (v := _) ?hi358 (by kernel_rfl) (by kernel_rfl) (by kernel_rfl) ?hq358 (Or.inl ⟨?hw358, ?hy358⟩) (by assumption) ?rest358
          case hi358 => (simp only [List.getElem?_toArray, List.getElem?_cons_succ, List.getElem?_cons_zero]; rfl)
          case hq358 => exact fun _ _ _ h => h
          case hw358 => rfl
          case hy358 => (intro wq hSw; (try dsimp only at hSw); go_simp; (try with_reducible rfl))
          (try simp only [Act.put, List.setIfInBounds_toArray, List.set_cons_zero, List.set_cons_succ])
          refine' wpAnyH_take (i := 12) (oi := _) (v := _) ?hi359 (by kernel_rfl) (by kernel_rfl) (by kernel_rfl) ?hq359 (Or.inl ⟨?hw359, ?hy359⟩) (by assumption) ?rest359
          case hi359 => (simp only [List.getElem?_toArray, List.getElem?_cons_succ, List.getElem?_cons_zero]; rfl)
          case hq359 => exact fun _ _ _ h => h
          case hw359 => rfl
          case hy359 => (intro wq hSw; (try dsimp only at hSw); go_simp; (try with_reducible rfl))
          (try simp only [Act.put, List.setIfInBounds_toArray, List.set_cons_zero, List.set_cons_succ])
          refine wpAnyH_ready (rs := [13]) (by kernel_rfl) (by simp) ?_
          refine' AllReadyH.cons (o := _) ?hi360 (fun K hK => ?rest360) AllReadyH.nil
          case hi360 => (simp only [List.getElem?_toArray, List.getElem?_cons_succ, List.getElem?_cons_zero]; rfl)
          go_simp
          refine hK.out _ _ trivial (fun hHeld => ?_)
          clear hK K
          (try simp only [Act.put, List.setIfInBounds_toArray, List.set_cons_zero, List.set_cons_succ])
          refine wpAnyH_done (by kernel_rfl) ?_ _
          have HO2 := Lib.hid (HO.out.put (q * 4 + 1) (y1 + (x : Int) - 1))
          clear HO k0 f0 c1
          have HRz := Lib.hid (HR2.out.grown HO2.out.2 (fun k hk => by injection hk with hk; have := hgb.out; omega))
          have HGz := Lib.hid (gmix HG2.out HO2.out.2 (fun k hk => by injection hk with hk; have := hgb1.out; omega))
          have HOz := Lib.hid HO2.out.1
          clear HR2 HG2 HO2 hw1 hw2
          generalize u8.setCell ⟨gb, q * 4 + 1, none⟩ (.int .i64 (y1 + (x : Int) - 1)) = uz at *
          by_cases hHn : H < 0
          · go_wp2_with fail
            refine (one_litZ _ [0, 0, 0, 3, -1] 5 5 _ g (0 + 1 + 1 + 1 + 1) uz rfl HRz.out (by omega) (by simp) (by simp) rfl rfl).mono ?_
            rintro e uy ⟨x, rfl, hx, hR, hG⟩
            have hxb := pst_h hx
            have HE := Lib.hid (HEnd.out uz (_) 0 HOz.out HGz.out uy hG x hx 0 (by omega) (by omega))
            rw [Int.zero_add] at HE
            clear hx hR hG HOz HRz HGz
            go_wp2
            exact bodyPost_ret (v := .tuple #[.slice (some ⟨gb, 0, none⟩) m c3, .int .i64 W, .int .i64 (x)]) (by simp [results, Try.results9, go_sem]) rfl HE.out
          · go_wp2_with fail
            refine (one_litZ _ [0, 0, 0, 3, -1] 5 5 _ g (0 + 1 + 1 + 1 + 1) uz rfl HRz.out (by omega) (by simp) (by simp) rfl rfl).mono ?_
            rintro e uy ⟨x, rfl, hx, hR, hG⟩
            have hxb := pst_h hx
            have HE := Lib.hid (HEnd.out uz (_) 0 HOz.out HGz.out uy hG x hx H (by omega) (by omega))
            clear hx hR hG HOz HRz HGz
            go_wp2
            exact bodyPost_ret (v := .tuple #[.slice (some ⟨gb, 0, none⟩) m c3, .int .i64 W, .int .i64 (H + x)]) (by simp [results, Try.results9, go_sem]) rfl HE.out
    · have hkI : ((k : Int) == 0) = false := beq_eq_false_iff_ne.2 (by omega)
      by_cases hHn : H < 0
      · go_wp2_with fail
        refine (one_litZ _ [0, 0, 0, 3, -1] 5 5 _ g (0 + 1) u4 rfl HR4.out (by omega) (by simp) (by simp) rfl rfl).mono ?_
        rintro e uy ⟨x, rfl, hx, hR, hG⟩
        have hxb := pst_h hx
        have HE := Lib.hid (HEnd.out u4 (L) 0 HO4.out HG4.out uy hG x hx 0 (by omega) (by omega))
        rw [Int.zero_add] at HE
        clear hx hR hG HO4 HR4 HG4
        go_wp2
        exact bodyPost_ret (v := .tuple #[.slice A3 m c3, .int .i64 W, .int .i64 (x)]) (by simp [results, Try.results9, go_sem]) rfl HE.out
      · go_wp2_with fail
        refine (one_litZ _ [0, 0, 0, 3, -1] 5 5 _ g (0 + 1) u4 rfl HR4.out (by omega) (by simp) (by simp) rfl rfl).mono ?_
        rintro e uy ⟨x, rfl, hx, hR, hG⟩
        have hxb := pst_h hx
        have HE := Lib.hid (HEnd.out u4 (L) 0 HO4.out HG4.out uy hG x hx H (by omega) (by omega))
        clear hx hR hG HO4 HR4 HG4
        go_wp2
        exact bodyPost_ret (v := .tuple #[.slice A3 m c3, .int .i64 W, .int .i64 (H + x)]) (by simp [results, Try.results9, go_sem]) rfl HE.out
end Go.Proofs.Ytgieijogopcjnaa
