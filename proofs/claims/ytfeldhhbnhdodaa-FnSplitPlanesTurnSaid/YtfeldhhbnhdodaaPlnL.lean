/- Laws over planes: comparing lists of images, contracts as hypotheses, the mathematics. -/
import Derived.Test.YtfeldhhbnhdodaaPlnI
import Derived.Test.YtfeldhhbnhdodaaPlnS
import Derived.Test.YtfeldhhbnhdodaaMrgI
import Derived.Test.YtfeldhhbnhdodaaMrgS
import Derived.Test.YtfeldhhbnhdodaaOkJ
import Derived.Deep.RegionHeld3
namespace Go.Proofs.Ytfeldhhbnhdodaa
open Go.RowKit Go.Shelf
set_option linter.unusedSimpArgs false
set_option linter.unusedVariables false
set_option maxRecDepth 20000

set_option maxHeartbeats 4000000 in
theorem lEqIms (A A' : Option Addr) (c c' n n' : Nat) (ms : List Imv) (w : World) (hn : n = ms.length) (hn' : n' = ms.length) (hx : Rdim w w.heap.size A ms) (hy : Rdim w w.heap.size A' ms) (hml : ms.length ≤ 2000000) (hl : ∀ i, i < ms.length → (imv ms i).ds.length ≤ 2000000) :
    Calls Try.prog 10 #[.slice A n c, .slice A' n' c'] w fun e w' => e = .returned (.bool true) ∧ Below w.heap.size w w' := by
  have HX := Lib.hid hx
  have HY := Lib.hid hy
  have HL := Lib.hid hl
  subst hn
  subst hn'
  obtain ⟨n, hn⟩ : ∃ n, n = ms.length := ⟨_, rfl⟩
  have Hn := Lib.hid hn
  rw [← hn] at hml ⊢
  clear hx hy hl hn
  go_enter Try.func10, Try.ntmps10
  go_wp2
  go_loopw [5] (fun i wr => ∃ k : Nat, k ≤ n ∧ i = .int .i64 k ∧ Hid (Below w.heap.size w wr)) (fun i _ => n - (intOf i).toNat)
  case atStart => exact ⟨0, Nat.zero_le _, rfl, Lib.hid (Below.refl _ _)⟩
  case round =>
    obtain ⟨k, hk, rfl, hbel⟩ := hrel
    by_cases hlt : k < n
    · have hkl : k < ms.length := by have := Hn.out; omega
      obtain ⟨b, off, Ai, ci, rfl, hb, hci, x0, x1, x2, x3, hr0⟩ := HX.out.at hkl
      obtain ⟨b', off', Bi, di, rfl, hb', hdi, y0, y1, y2, y3, hs0⟩ := HY.out.at hkl
      have hml := HL.out k hkl
      have HR2 := Lib.hid hr0
      have HS2 := Lib.hid hs0
      have HC : Hid (Below w.heap.size w wr.drew) := Lib.hid hbel.out.drew
      clear hr0 hs0 hbel
      generalize imv ms k = v at *
      go_upto_region 6 with fail
      refine wp_region_held_drew (S := (fun w' => w'.cell? ⟨b, off + k * 4, none⟩ = some (.int .i64 v.X) ∧ w'.cell? ⟨b, off + k * 4 + 1, none⟩ = some (.int .i64 v.Y) ∧ w'.cell? ⟨b, off + k * 4 + 2, none⟩ = some (.int .i64 v.Z) ∧ w'.cell? ⟨b, off + k * 4 + 3, none⟩ = some (.slice Ai v.ds.length ci) ∧ w'.cell? ⟨b', off' + k * 4, none⟩ = some (.int .i64 v.X) ∧ w'.cell? ⟨b', off' + k * 4 + 1, none⟩ = some (.int .i64 v.Y) ∧ w'.cell? ⟨b', off' + k * 4 + 2, none⟩ = some (.int .i64 v.Z) ∧ w'.cell? ⟨b', off' + k * 4 + 3, none⟩ = some (.slice Bi v.ds.length di))) (by kernel_rfl) (by exact ⟨(HC.out.cell (p := ⟨b, off + k * 4, none⟩) hb).trans x0, (HC.out.cell (p := ⟨b, off + k * 4 + 1, none⟩) hb).trans x1, (HC.out.cell (p := ⟨b, off + k * 4 + 2, none⟩) hb).trans x2, (HC.out.cell (p := ⟨b, off + k * 4 + 3, none⟩) hb).trans x3, (HC.out.cell (p := ⟨b', off' + k * 4, none⟩) hb').trans y0, (HC.out.cell (p := ⟨b', off' + k * 4 + 1, none⟩) hb').trans y1, (HC.out.cell (p := ⟨b', off' + k * 4 + 2, none⟩) hb').trans y2, (HC.out.cell (p := ⟨b', off' + k * 4 + 3, none⟩) hb').trans y3⟩) (fun hHeld => ?_)
      refine' wpAnyH_take (i := 0) (oi := _) (v := _) ?hi1 (by kernel_rfl) (by kernel_rfl) (by kernel_rfl) ?hq1 (Or.inl ⟨?hw1, ?hy1⟩) (by assumption) ?rest1
      case hi1 => (simp only [List.getElem?_toArray, List.getElem?_cons_succ, List.getElem?_cons_zero]; rfl)
      case hq1 => exact fun _ _ _ h => h
      case hw1 => rfl
      case hy1 => (intro wq hSw; (try dsimp only at hSw); go_simp; (try with_reducible rfl))
      (try simp only [Act.put, List.setIfInBounds_toArray, List.set_cons_zero, List.set_cons_succ])
      refine' wpAnyH_take (i := 1) (oi := _) (v := _) ?hi2 (by kernel_rfl) (by kernel_rfl) (by kernel_rfl) ?hq2 (Or.inl ⟨?hw2, ?hy2⟩) (by assumption) ?rest2
      case hi2 => (simp only [List.getElem?_toArray, List.getElem?_cons_succ, List.getElem?_cons_zero]; rfl)
      case hq2 => exact fun _ _ _ h => h
      case hw2 => rfl
      case hy2 => (intro wq hSw; (try dsimp only at hSw); go_simp; (try with_reducible rfl))
      (try simp only [Act.put, List.setIfInBounds_toArray, List.set_cons_zero, List.set_cons_succ])
      refine' wpAnyH_take (i := 2) (oi := _) (v := _) ?hi3 (by kernel_rfl) (by kernel_rfl) (by kernel_rfl) ?hq3 (Or.inl ⟨?hw3, ?hy3⟩) (by assumption) ?rest3
      case hi3 => (simp only [List.getElem?_toArray, List.getElem?_cons_succ, List.getElem?_cons_zero]; rfl)
      case hq3 => exact fun _ _ _ h => h
      case hw3 => rfl
      case hy3 => (intro wq hSw; (try dsimp only at hSw); go_simp; (try with_reducible rfl))
      (try simp only [Act.put, List.setIfInBounds_toArray, List.set_cons_zero, List.set_cons_succ])
      refine' wpAnyH_take (i := 3) (oi := _) (v := _) ?hi4 (by kernel_rfl) (by kernel_rfl) (by kernel_rfl) ?hq4 (Or.inl ⟨?hw4, ?hy4⟩) (by assumption) ?rest4
      case hi4 => (simp only [List.getElem?_toArray, List.getElem?_cons_succ, List.getElem?_cons_zero]; rfl)
      case hq4 => exact fun _ _ _ h => h
      case hw4 => rfl
      case hy4 => (intro wq hSw; (try dsimp only at hSw); go_simp; (try with_reducible rfl))
      (try simp only [Act.put, List.setIfInBounds_toArray, List.set_cons_zero, List.set_cons_succ])
      refine' wpAnyH_take (i := 4) (oi := _) (v := _) ?hi5 (by kernel_rfl) (by kernel_rfl) (by kernel_rfl) ?hq5 (Or.inl ⟨?hw5, ?hy5⟩) (by assumption) ?rest5
      case hi5 => (simp only [List.getElem?_toArray, List.getElem?_cons_succ, List.getElem?_cons_zero]; rfl)
      case hq5 => exact fun _ _ _ h => h
      case hw5 => rfl
      case hy5 => (intro wq hSw; (try dsimp only at hSw); go_simp; (try with_reducible rfl))
      (try simp only [Act.put, List.setIfInBounds_toArray, List.set_cons_zero, List.set_cons_succ])
      refine' wpAnyH_take (i := 5) (oi := _) (v := _) ?hi6 (by kernel_rfl) (by kernel_rfl) (by kernel_rfl) ?hq6 (Or.inl ⟨?hw6, ?hy6⟩) (by assumption) ?rest6
      case hi6 => (simp only [List.getElem?_toArray, List.getElem?_cons_succ, List.getElem?_cons_zero]; rfl)
      case hq6 => exact fun _ _ _ h => h
      case hw6 => rfl
      case hy6 => (intro wq hSw; (try dsimp only at hSw); go_simp; (try with_reducible rfl))
      (try simp only [Act.put, List.setIfInBounds_toArray, List.set_cons_zero, List.set_cons_succ])
      refine' wpAnyH_take (i := 6) (oi := _) (v := _) ?hi7 (by kernel_rfl) (by kernel_rfl) (by kernel_rfl) ?hq7 (Or.inl ⟨?hw7, ?hy7⟩) (by assumption) ?rest7
      case hi7 => (simp only [List.getElem?_toArray, List.getElem?_cons_succ, List.getElem?_cons_zero]; rfl)
      case hq7 => exact fun _ _ _ h => h
      case hw7 => rfl
      case hy7 => (intro wq hSw; (try dsimp only at hSw); go_simp; (try with_reducible rfl))
      (try simp only [Act.put, List.setIfInBounds_toArray, List.set_cons_zero, List.set_cons_succ])
      refine' wpAnyH_take (i := 7) (oi := _) (v := _) ?hi8 (by kernel_rfl) (by kernel_rfl) (by kernel_rfl) ?hq8 (Or.inl ⟨?hw8, ?hy8⟩) (by assumption) ?rest8
      case hi8 => (simp only [List.getElem?_toArray, List.getElem?_cons_succ, List.getElem?_cons_zero]; rfl)
      case hq8 => exact fun _ _ _ h => h
      case hw8 => rfl
      case hy8 => (intro wq hSw; (try dsimp only at hSw); go_simp; (try with_reducible rfl))
      (try simp only [Act.put, List.setIfInBounds_toArray, List.set_cons_zero, List.set_cons_succ])
      refine wpAnyH_ready (rs := [8]) (by kernel_rfl) (by simp) ?_
      refine' AllReadyH.cons (o := _) ?hi9 (fun K hK => ?rest9) AllReadyH.nil
      case hi9 => (simp only [List.getElem?_toArray, List.getElem?_cons_succ, List.getElem?_cons_zero]; rfl)
      go_simp
      go_at_call 13
      refine (lEqImg_same v.X v.Y v.Z Ai Bi ci di _ _ v.ds _ rfl rfl ((HR2.out.below HC.out).more HC.out.size) ((HS2.out.below HC.out).more HC.out.size) hml).mono ?_
      rintro e u5 ⟨rfl, hB5⟩
      have HD : Hid (Below w.heap.size w u5) := Lib.hid (by exact HC.out.trans (hB5.mono HC.out.size))
      clear HC hB5
      have HC := HD
      clear HD
      go_wp2_with fail
      refine hK.out _ _ (by (try dsimp only); exact ⟨(HC.out.cell (p := ⟨b, off + k * 4, none⟩) hb).trans x0, (HC.out.cell (p := ⟨b, off + k * 4 + 1, none⟩) hb).trans x1, (HC.out.cell (p := ⟨b, off + k * 4 + 2, none⟩) hb).trans x2, (HC.out.cell (p := ⟨b, off + k * 4 + 3, none⟩) hb).trans x3, (HC.out.cell (p := ⟨b', off' + k * 4, none⟩) hb').trans y0, (HC.out.cell (p := ⟨b', off' + k * 4 + 1, none⟩) hb').trans y1, (HC.out.cell (p := ⟨b', off' + k * 4 + 2, none⟩) hb').trans y2, (HC.out.cell (p := ⟨b', off' + k * 4 + 3, none⟩) hb').trans y3⟩) (fun hHeld => ?_)
      clear hK K
      (try simp only [Act.put, List.setIfInBounds_toArray, List.set_cons_zero, List.set_cons_succ])
      refine' wpAnyH_take (i := 9) (oi := _) (v := _) ?hi10 (by kernel_rfl) (by kernel_rfl) (by kernel_rfl) ?hq10 (Or.inl ⟨?hw10, ?hy10⟩) (by assumption) ?rest10
      case hi10 => (simp only [List.getElem?_toArray, List.getElem?_cons_succ, List.getElem?_cons_zero]; rfl)
      case hq10 => exact fun _ _ _ h => h
      case hw10 => rfl
      case hy10 => (intro wq hSw; (try dsimp only at hSw); go_simp; (try with_reducible rfl))
      (try simp only [Act.put, List.setIfInBounds_toArray, List.set_cons_zero, List.set_cons_succ])
      refine wpAnyH_done (by kernel_rfl) ?_ _
      go_wp2
      go_roundw
      case rel => exact ⟨k + 1, by omega, by go_num, HC⟩
      case measure => simp [intOf]; omega
    · have HC := hbel
      clear hbel
      go_wp2
      go_ret
      exact ⟨rfl, HC.out⟩
/-- The call answers a list of images that can be read. -/
def IlC (f : FuncId) (X Y Z : Int) (ys : List Int) (ms : List Imv) : Prop :=
  ∀ (A : Option Addr) (c : Nat) (w : World), Rds .i64 w w.heap.size A ys → ys.length ≤ c → Calls Try.prog f #[.agg #[.int .i64 X, .int .i64 Y, .int .i64 Z, .slice A ys.length c]] w fun e w' => ∃ A c, e = .returned (.slice A ms.length c) ∧ ms.length ≤ c ∧ Rdim w' w'.heap.size A ms ∧ Below w.heap.size w w'
/-- The call answers an image that can be read, and whether. -/
def MlC (f : FuncId) (ms : List Imv) (X Y Z : Int) (ys : List Int) (ok : Bool) : Prop :=
  ∀ (A : Option Addr) (c : Nat) (w : World), Rdim w w.heap.size A ms → Calls Try.prog f #[.slice A ms.length c] w fun e w' => ∃ A c, e = .returned (.tuple #[.agg #[.int .i64 X, .int .i64 Y, .int .i64 Z, .slice A ys.length c], .bool ok]) ∧ ys.length ≤ c ∧ Rds .i64 w' w'.heap.size A ys ∧ Below w.heap.size w w'
theorem IlC.of {f : FuncId} {X Y Z : Int} {ys : List Int} {ms : List Imv} (h : ∀ (A : Option Addr) (c : Nat) (w : World), Rds .i64 w w.heap.size A ys → ys.length ≤ c → Calls Try.prog f #[.agg #[.int .i64 X, .int .i64 Y, .int .i64 Z, .slice A ys.length c]] w fun e w' => ∃ v, e = .returned v ∧ ImS w w' v ms [] []) : IlC f X Y Z ys ms := by
  intro A c w hr hc
  refine (h A c w hr hc).mono ?_
  rintro e w' ⟨v, rfl, hI⟩
  obtain ⟨A2, c2, rfl, hc2⟩ := hI.slice
  exact ⟨A2, c2, rfl, hc2, hI.rds, hI.below⟩
theorem MlC.of {f : FuncId} {ms : List Imv} {X Y Z : Int} {ys : List Int} {ok : Bool} (h : ∀ (A : Option Addr) (c : Nat) (w : World), Rdim w w.heap.size A ms → Calls Try.prog f #[.slice A ms.length c] w (MgR ok X Y Z ys w)) : MlC f ms (cond ok X 0) (cond ok Y 0) (cond ok Z 0) (cond ok ys []) ok := by
  intro A c w hr
  refine (h A c w hr).mono ?_
  rintro e w' ⟨v, rfl, hO, hB⟩
  obtain ⟨A2, c2, rfl, hc2⟩ := hO.slice
  exact ⟨A2, c2, rfl, hc2, hO.rds.2, hB⟩
theorem plL_img {W H P p : Nat} (F : Nat → Nat → Nat → Int) (hp : p < P) : plL W H P (img W H P F) p = img W H 1 (fun x y _ => F x y p) := by
  apply List.ext_getElem
  · rw [plL_len, img_len, Nat.mul_one]
  · intro k h1 h2
    rw [plL_len] at h1
    have e1 := plL_get (xs := img W H P F) (p := p) (P := P) h1
    rw [img_at F h1 hp] at e1
    have e2 := img_at (W := W) (H := H) (P := 1) (fun x y _ => F x y p) (k := k) (p := 0) h1 (by omega)
    rw [Nat.mul_one, Nat.add_zero] at e2
    simp only [List.getD_eq_getElem?_getD] at e1 e2
    rw [List.getElem?_eq_getElem (by rw [plL_len]; exact h1)] at e1
    rw [List.getElem?_eq_getElem h2] at e2
    simp only [Option.getD_some] at e1 e2
    rw [e1, e2]
theorem list_getD_ext {xs ys : List Int} (hl : xs.length = ys.length) (h : ∀ k, k < xs.length → xs.getD k 0 = ys.getD k 0) : xs = ys := by
  apply List.ext_getElem hl
  intro k h1 h2
  have := h k h1
  simp only [List.getD_eq_getElem?_getD] at this
  rw [List.getElem?_eq_getElem h1, List.getElem?_eq_getElem h2] at this
  simpa using this
/-- The planes merged are the image. -/
theorem mg_sp {W H P : Nat} {xs : List Int} (hl : xs.length = W * H * P) : mgL W H (spN W H P xs) = xs := by
  refine list_getD_ext (by rw [mgL_len, spN_len, hl]) fun j hj => ?_
  rw [mgL_len, spN_len] at hj
  rcases Nat.eq_zero_or_pos P with h0 | h0
  · subst h0; omega
  · have hq : j / P < W * H := Nat.div_lt_of_lt_mul (by rw [Nat.mul_comm P]; exact hj)
    have hp : j % P < (spN W H P xs).length := by rw [spN_len]; exact Nat.mod_lt _ h0
    have h1 := mgL_get (W := W) (H := H) (ms := spN W H P xs) hq hp
    rw [spN_len, Nat.mul_comm (j / P), Nat.div_add_mod] at h1
    rw [h1, spN_get (by rw [spN_len] at hp; exact hp)]
    show (plL W H P xs (j % P)).getD (j / P) 0 = _
    rw [plL_get hq, Nat.mul_comm (j / P), Nat.div_add_mod]
theorem sp_mgOk {W H P : Nat} {xs : List Int} (h : vim W H P xs = true) : mgOk (spN W H P xs) = true := by
  obtain ⟨W', H', P', e1, e2, e3, hW1, hW, hH1, hH, hP1, hP, hln, hby⟩ := vim_nat h
  obtain rfl : W' = W := by omega
  obtain rfl : H' = H := by omega
  obtain rfl : P' = P := by omega
  refine mgOk_yes (by rw [spN_len]; omega) fun i hi => ?_
  rw [spN_len] at hi
  rw [spN_get (by omega), spN_get hi]
  unfold mgA
  have hv : vim (W' : Int) (H' : Int) (1 : Nat) (plL W' H' P' xs i) = true := by
    unfold plL
    refine vim_img hW1 hW hH1 hH (by omega) (by omega) fun x y p hx hy hp => ?_
    have h1 := row_lt hx hy
    have h2 := Nat.mul_le_mul_right P' (show (y * W' + x) + 1 ≤ W' * H' from h1)
    rw [Nat.add_mul, Nat.one_mul] at h2
    exact hby _ (by unfold pix; rw [hln]; omega)
  simp only [Bool.and_eq_true, decide_eq_true_eq]
  exact ⟨⟨⟨hv, trivial⟩, trivial⟩, trivial⟩
/-- A merged image is valid, and its planes are the images. -/
theorem sp_mg {ms : List Imv} (h : mgOk ms = true) : vim (imv ms 0).X (imv ms 0).Y ms.length (mgL (imv ms 0).X.toNat (imv ms 0).Y.toNat ms) = true ∧ spL (imv ms 0).X (imv ms 0).Y ms.length (mgL (imv ms 0).X.toNat (imv ms 0).Y.toNat ms) = ms := by
  obtain ⟨W, H, hW1, hW, hH1, hH, h1, h4, eX, eY, hall⟩ := mgOk_spec h
  rw [eX, eY]
  have hv : vim (W : Int) (H : Int) (ms.length : Nat) (mgL W H ms) = true := by
    unfold mgL
    refine vim_img hW1 hW hH1 hH h1 h4 fun x y p hx hy hp => ?_
    have h2 := (hall p hp).2.2.2.2 (y * W + x) (row_lt hx hy)
    have e : px W 1 (imv ms p).ds x y 0 = (imv ms p).ds.getD (y * W + x) 0 := by unfold px pix; rw [Nat.mul_one, Nat.add_zero]
    rw [e]; exact h2
  refine ⟨hv, ?_⟩
  show spL (W : Int) (H : Int) (ms.length : Nat) (mgL W H ms) = ms
  rw [spL_yes hv]
  apply List.ext_getElem?
  intro i
  by_cases hi : i < ms.length
  · obtain ⟨a1, a2, a3, a4, _⟩ := hall i hi
    have e1 := spN_get (W := W) (H := H) (P := ms.length) (xs := mgL W H ms) hi
    unfold imv at e1
    rw [List.getD_eq_getElem?_getD, List.getElem?_eq_getElem (by rw [spN_len]; exact hi)] at e1
    rw [List.getElem?_eq_getElem (by rw [spN_len]; exact hi), List.getElem?_eq_getElem hi]
    congr 1
    simp only [Option.getD_some] at e1
    rw [e1]
    have e2 : ms[i] = imv ms i := by unfold imv; rw [List.getD_eq_getElem?_getD, List.getElem?_eq_getElem hi]; rfl
    rw [e2]
    have e3 : plL W H ms.length (mgL W H ms) i = (imv ms i).ds := by
      refine list_getD_ext (by rw [plL_len, a4]) fun k hk => ?_
      rw [plL_len] at hk
      rw [plL_get hk, mgL_get hk hi]
    rw [e3, ← a1, ← a2, ← a3]
  · rw [List.getElem?_eq_none (by rw [spN_len]; omega), List.getElem?_eq_none (by omega)]
theorem spL_len4 (W H P : Int) (xs : List Int) : (spL W H P xs).length ≤ 4 ∧ ∀ i, i < (spL W H P xs).length → (imv (spL W H P xs) i).ds.length ≤ 256 := by
  cases h : vim W H P xs
  · rw [spL_no h]
    exact ⟨Nat.zero_le _, fun i hi => by simp at hi⟩
  · obtain ⟨W, H, P, rfl, rfl, rfl, hW1, hW, hH1, hH, hP1, hP, hln, hby⟩ := vim_nat h
    rw [spL_yes h, spN_len]
    refine ⟨hP, fun i hi => ?_⟩
    rw [spN_get hi]
    show (plL W H P xs i).length ≤ 256
    rw [plL_len]
    exact Nat.mul_le_mul hW hH
theorem mgL_bd {ms : List Imv} : (cond (mgOk ms) (mgL (imv ms 0).X.toNat (imv ms 0).Y.toNat ms) []).length ≤ 2000000 := by
  cases h : mgOk ms
  · simp
  · obtain ⟨W, H, hW1, hW, hH1, hH, h1, h4, eX, eY, hall⟩ := mgOk_spec h
    show (mgL _ _ ms).length ≤ 2000000
    rw [eX, eY, mgL_len]
    have := Nat.mul_le_mul (Nat.mul_le_mul hW hH) h4
    show W * H * ms.length ≤ _
    omega
/-- What the law of SplitPlanes needs. -/
theorem spl_law (W H P : Int) (xs : List Int) (hl : xs.length ≤ 2000000) : ∃ ms : List Imv, Hid (IlC 9 W H P xs ms) ∧ Hid (IlC 11 W H P xs ms) ∧ ms.length ≤ 4 ∧ Hid (∀ i, i < ms.length → (imv ms i).ds.length ≤ 256) ∧
    (ms.length = 0 ∨ (0 < ms.length ∧ P = (ms.length : Int) ∧ Hid (MlC 12 ms W H P xs true))) := by
  refine ⟨spL W H P xs, Lib.hid (IlC.of fun A c w hr hc => i_SplitPlanes W H P A c xs w hr hl hc), Lib.hid (IlC.of fun A c w hr hc => s_SplitPlanes W H P A c xs w hr hl hc), (spL_len4 W H P xs).1, Lib.hid (spL_len4 W H P xs).2, ?_⟩
  have hb := spL_len4 W H P xs
  cases h : vim W H P xs
  · left; rw [spL_no h]; rfl
  · right
    obtain ⟨W, H, P, rfl, rfl, rfl, hW1, hW, hH1, hH, hP1, hP, hln, hby⟩ := vim_nat h
    rw [spL_yes h] at hb ⊢
    rw [spN_len]
    refine ⟨by omega, rfl, Lib.hid ?_⟩
    have hok := sp_mgOk h
    have hm : MlC 12 (spN W H P xs) _ _ _ _ _ := MlC.of fun A c w hr => i_MergePlanes A c (spN W H P xs).length (spN W H P xs) rfl w hr (by omega) (fun i hi => by have := hb.2 i hi; omega)
    rw [hok, spN_get (by omega), spN_len] at hm
    have e : mgL (Int.toNat (W : Int)) (Int.toNat (H : Int)) (spN W H P xs) = xs := mg_sp hln
    simp only [cond_true] at hm
    rw [e] at hm
    exact hm
/-- What the law of MergePlanes needs. -/
theorem mrg_law (ms : List Imv) (hl : ms.length ≤ 2000000) (hd : ∀ i, i < ms.length → (imv ms i).ds.length ≤ 2000000) : ∃ (X Y Z : Int) (ys : List Int) (ok : Bool), ys.length ≤ 2000000 ∧ Hid (MlC 12 ms X Y Z ys ok) ∧ Hid (MlC 15 ms X Y Z ys ok) ∧
    (ok = false ∨ (ok = true ∧ Hid (IlC 9 X Y Z ys ms))) := by
  refine ⟨_, _, _, _, mgOk ms, mgL_bd, Lib.hid (MlC.of fun A c w hr => i_MergePlanes A c ms.length ms rfl w hr hl hd), Lib.hid (MlC.of fun A c w hr => s_MergePlanes A c ms.length ms rfl w hr hl hd), ?_⟩
  cases h : mgOk ms
  · exact .inl rfl
  · right
    refine ⟨rfl, Lib.hid ?_⟩
    have hb := mgL_bd (ms := ms)
    rw [h] at hb
    have h2 := (sp_mg h).2
    have hs : IlC 9 _ _ _ _ (spL (imv ms 0).X (imv ms 0).Y ms.length (mgL (imv ms 0).X.toNat (imv ms 0).Y.toNat ms)) := IlC.of fun A c w hr hc => i_SplitPlanes (imv ms 0).X (imv ms 0).Y ms.length A c _ w hr hb hc
    rw [h2] at hs
    exact hs
end Go.Proofs.Ytfeldhhbnhdodaa
