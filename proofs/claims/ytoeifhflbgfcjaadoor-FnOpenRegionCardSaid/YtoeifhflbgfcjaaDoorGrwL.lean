/- Grown and shrunk regions: what the laws need. -/
import Derived.Test.YtoeifhflbgfcjaaDoorChgS
import Derived.Test.YtoeifhflbgfcjaaDoorCmbL
import Derived.Test.YtoeifhflbgfcjaaDoorSftL
import Derived.Test.YtoeifhflbgfcjaaDoorDrawRg
namespace Go.Proofs.YtoeifhflbgfcjaaDoor
open Go.RowKit
set_option linter.unusedSimpArgs false
set_option linter.unusedVariables false

/-- The list of the pixels of a grid. -/
def frL (F : Nat → Bool) : List Int := rnL fun x y => F (y * 16 + x)
def frN (F : Nat → Bool) : Nat := rnN fun x y => F (y * 16 + x)
theorem rnN_congr {G G' : Nat → Nat → Bool} (h : ∀ x y, x < 16 → y < 16 → G x y = G' x y) : rnN G = rnN G' := by unfold rnN; rw [rnL_congr h]
theorem fr_congr {F G : Nat → Bool} (h : eqF F G) : frL F = frL G ∧ frN F = frN G :=
  ⟨rnL_congr fun x y hx hy => h _ (by omega), rnN_congr fun x y hx hy => h _ (by omega)⟩
theorem fr_rh (F : Nat → Bool) : eqF (rhF (frL F) (frN F)) F := fun j hj => by
  have := rnL_has (fun x y => F (y * 16 + x)) (x := j % 16) (y := j / 16) (by omega) (by omega)
  rw [show j / 16 * 16 + j % 16 = j by omega] at this
  exact this
theorem fr_reg (F : Nat → Bool) : reg (frL F) (frN F) := rnL_reg _
theorem fr_len (F : Nat → Bool) : (frL F).length = 3 * frN F ∧ frN F ≤ 272 := rnL_len _
theorem fr_of {xs : List Int} {n : Nat} (hl : xs.length = 3 * n) (h : reg xs n) : xs = frL (rhF xs n) ∧ n = frN (rhF xs n) :=
  rnL_uniq hl h fun x y hx hy => by
    unfold rhF
    rw [show (y * 16 + x) % 16 = x by omega, show (y * 16 + x) / 16 = y by omega]
theorem rh_at {xs : List Int} {n : Nat} {F : Nat → Bool} (h : eqF (rhF xs n) F) {x y : Nat} (hx : x < 16) (hy : y < 16) : rh xs x y n = F (y * 16 + x) := by
  have := h (y * 16 + x) (by omega)
  unfold rhF at this
  rwa [show (y * 16 + x) % 16 = x by omega, show (y * 16 + x) / 16 = y by omega] at this
theorem fr_cb (k : Int) (hk : 0 ≤ k ∧ k ≤ 3) (F G : Nat → Bool) : cbL k (frL F) (frN F) (frL G) (frN G) = frL (fun j => krule k (F j) (G j)) ∧ cbN k (frL F) (frN F) (frL G) (frN G) = frN (fun j => krule k (F j) (G j)) := by
  obtain ⟨e1, e2, _⟩ := cb_yes (cmbOk_yes (k := k) (fr_reg F) (fr_reg G) hk)
  have e : ∀ x y, x < 16 → y < 16 → cmbG k (frL F) (frN F) (frL G) (frN G) x y = krule k (F (y * 16 + x)) (G (y * 16 + x)) := fun x y hx hy => by
    unfold cmbG; rw [rh_at (fr_rh F) hx hy, rh_at (fr_rh G) hx hy]
  exact ⟨e1.trans (rnL_congr e), e2.trans (rnN_congr e)⟩
theorem fr_ch (more : Bool) (k : Nat) (F : Nat → Bool) : rnL (chG more k (frL F) (frN F)) = frL (itF (chF more) k F) ∧ rnN (chG more k (frL F) (frN F)) = frN (itF (chF more) k F) :=
  fr_congr (it_congr more (fr_rh F) k)
theorem ed_congr {F G : Nat → Bool} (h : eqF F G) : eqF (edF F) (edF G) := fun j hj => by
  have a : inF F j = inF G j := by
    unfold inF
    by_cases c1 : 0 < j % 16
    · by_cases c2 : j % 16 < 15
      · by_cases c3 : 0 < j / 16
        · by_cases c4 : j / 16 < 15
          · rw [h (j - 1) (by omega), h (j + 1) (by omega), h (j - 16) (by omega), h (j + 16) (by omega)]
          · rw [decide_eq_false c4]; simp
        · rw [decide_eq_false c3]; simp
      · rw [decide_eq_false c2]; simp
    · rw [decide_eq_false c1]; simp
  unfold edF
  rw [a, h j hj]
theorem fr_ed (F : Nat → Bool) : rnL (edG (frL F) (frN F)) = frL (edF F) ∧ rnN (edG (frL F) (frN F)) = frN (edF F) := fr_congr (ed_congr (fr_rh F))
theorem fr_zero {F : Nat → Bool} (h : ∀ j, j < 256 → F j = false) : frL F = [] ∧ frN F = 0 := by
  have := rnL_uniq (xs := []) (n := 0) (G := fun x y => F (y * 16 + x)) rfl (by simp [reg]) (fun x y hx hy => (h _ (by omega)).symm)
  exact ⟨this.1.symm, this.2.symm⟩
theorem fr_empty {F : Nat → Bool} (h : frN F = 0) (j : Nat) (hj : j < 256) : F j = false := by
  rw [← fr_rh F j hj, h]; rfl
theorem fr_without {F G : Nat → Bool} (h : leF F G) : cbN 2 (frL F) (frN F) (frL G) (frN G) = 0 := by
  rw [(fr_cb 2 (by omega) F G).2]
  refine (fr_zero fun j hj => ?_).2
  show (F j && !G j) = false
  have := h j hj
  cases hf : F j
  · rfl
  · rw [this hf]; rfl
/-- Grown step by step. -/
theorem gr_law {xs : List Int} {n : Nat} (hl : xs.length = 3 * n) (h : reg xs n) (k : Nat) {L : List Int} {N : Nat} (hL : L = rnL (chG true k xs n)) (hN : N = rnN (chG true k xs n)) :
    cbN 2 xs n L N = 0 ∧ rnL (chG true (k + 1) xs n) = rnL (chG true 1 L N) ∧ rnN (chG true (k + 1) xs n) = rnN (chG true 1 L N) := by
  obtain ⟨ex, en⟩ := fr_of hl h
  generalize rhF xs n = X at ex en
  replace ex := ex.symm; subst ex; replace en := en.symm; subst en
  rw [(fr_ch true k X).1] at hL
  rw [(fr_ch true k X).2] at hN
  replace hL := hL.symm; subst hL; replace hN := hN.symm; subst hN
  exact ⟨fr_without (it_gw_ext X k), ((fr_ch true (k + 1) X).1.trans (fr_ch true 1 _).1.symm), ((fr_ch true (k + 1) X).2.trans (fr_ch true 1 _).2.symm)⟩
/-- Shrunk step by step. -/
theorem sk_law {xs : List Int} {n : Nat} (hl : xs.length = 3 * n) (h : reg xs n) (k : Nat) {L : List Int} {N : Nat} (hL : L = rnL (chG false k xs n)) (hN : N = rnN (chG false k xs n)) :
    cbN 2 L N xs n = 0 ∧ rnL (chG false (k + 1) xs n) = rnL (chG false 1 L N) ∧ rnN (chG false (k + 1) xs n) = rnN (chG false 1 L N) := by
  obtain ⟨ex, en⟩ := fr_of hl h
  generalize rhF xs n = X at ex en
  replace ex := ex.symm; subst ex; replace en := en.symm; subst en
  rw [(fr_ch false k X).1] at hL
  rw [(fr_ch false k X).2] at hN
  replace hL := hL.symm; subst hL; replace hN := hN.symm; subst hN
  exact ⟨fr_without (it_sk_le X k), ((fr_ch false (k + 1) X).1.trans (fr_ch false 1 _).1.symm), ((fr_ch false (k + 1) X).2.trans (fr_ch false 1 _).2.symm)⟩
/-- Growing keeps unions. -/
theorem uni_law {xs ys : List Int} {n m : Nat} (hl : xs.length = 3 * n) (h : reg xs n) (hl2 : ys.length = 3 * m) (h2 : reg ys m) (k : Nat) :
    rnL (chG true k (cbL 0 xs n ys m) (cbN 0 xs n ys m)) = cbL 0 (rnL (chG true k xs n)) (rnN (chG true k xs n)) (rnL (chG true k ys m)) (rnN (chG true k ys m)) ∧
    rnN (chG true k (cbL 0 xs n ys m) (cbN 0 xs n ys m)) = cbN 0 (rnL (chG true k xs n)) (rnN (chG true k xs n)) (rnL (chG true k ys m)) (rnN (chG true k ys m)) := by
  obtain ⟨ex, en⟩ := fr_of hl h
  obtain ⟨ey, em⟩ := fr_of hl2 h2
  generalize rhF xs n = X at ex en
  generalize rhF ys m = Y at ey em
  replace ex := ex.symm; subst ex; replace en := en.symm; subst en; replace ey := ey.symm; subst ey; replace em := em.symm; subst em
  rw [(fr_cb 0 (by omega) X Y).1, (fr_cb 0 (by omega) X Y).2, (fr_ch true k X).1, (fr_ch true k X).2, (fr_ch true k Y).1, (fr_ch true k Y).2, (fr_ch true k _).1, (fr_ch true k _).2, (fr_cb 0 (by omega) _ _).1, (fr_cb 0 (by omega) _ _).2]
  have e : itF (chF true) k (fun j => krule 0 (X j) (Y j)) = fun j => krule 0 (itF (chF true) k X j) (itF (chF true) k Y j) := it_gw_or X Y k
  rw [e]
  exact ⟨rfl, rfl⟩
/-- Shrunk and grown, and grown and shrunk. -/
theorem back_law {xs : List Int} {n : Nat} (hl : xs.length = 3 * n) (h : reg xs n) (k : Nat) {L : List Int} {N : Nat} (hL : L = rnL (chG false k xs n)) (hN : N = rnN (chG false k xs n))
    {ys : List Int} {m : Nat} (hl2 : ys.length = 3 * m) (h2 : reg ys m) (hin : ∀ x y : Nat, x < 16 → y < 16 → rh ys x y m = (decide (1 ≤ x ∧ x ≤ 14) && decide (1 ≤ y ∧ y ≤ 14))) :
    cbN 2 (rnL (chG true k L N)) (rnN (chG true k L N)) xs n = 0 ∧
    cbN 2 (cbL 1 xs n ys m) (cbN 1 xs n ys m) (rnL (chG false 1 (rnL (chG true 1 xs n)) (rnN (chG true 1 xs n)))) (rnN (chG false 1 (rnL (chG true 1 xs n)) (rnN (chG true 1 xs n)))) = 0 := by
  have hY : eqF (rhF ys m) (fun j => decide (1 ≤ j % 16 ∧ j % 16 ≤ 14) && decide (1 ≤ j / 16 ∧ j / 16 ≤ 14)) := fun j hj => hin _ _ (by omega) (by omega)
  obtain ⟨ex, en⟩ := fr_of hl h
  obtain ⟨ey, em⟩ := fr_of hl2 h2
  generalize rhF xs n = X at ex en
  generalize rhF ys m = Y at ey em hY
  clear hin
  replace ex := ex.symm; subst ex; replace en := en.symm; subst en; replace ey := ey.symm; subst ey; replace em := em.symm; subst em
  rw [(fr_ch false k X).1] at hL
  rw [(fr_ch false k X).2] at hN
  replace hL := hL.symm; subst hL; replace hN := hN.symm; subst hN
  constructor
  · rw [(fr_ch true k _).1, (fr_ch true k _).2]
    exact fr_without (open_le X k)
  · rw [(fr_cb 1 (by omega) X Y).1, (fr_cb 1 (by omega) X Y).2, (fr_ch true 1 X).1, (fr_ch true 1 X).2, (fr_ch false 1 _).1, (fr_ch false 1 _).2]
    refine fr_without fun j hj hf => ?_
    have hf' : (X j && Y j) = true := hf
    rw [hY j hj] at hf'
    simp only [Bool.and_eq_true, decide_eq_true_eq] at hf'
    exact sk_gw_in X j hf'.1 (by omega)
/-- Opened twice. -/
theorem op_law {xs : List Int} {n : Nat} (hl : xs.length = 3 * n) (h : reg xs n) (k : Nat) {L P : List Int} {N q : Nat} (hL : L = rnL (chG false k xs n)) (hN : N = rnN (chG false k xs n)) (hP : P = rnL (chG true k L N)) (hq : q = rnN (chG true k L N)) :
    cbN 2 P q xs n = 0 ∧ rnL (chG true k (rnL (chG false k P q)) (rnN (chG false k P q))) = P ∧ rnN (chG true k (rnL (chG false k P q)) (rnN (chG false k P q))) = q := by
  obtain ⟨ex, en⟩ := fr_of hl h
  generalize rhF xs n = X at ex en
  replace ex := ex.symm; subst ex; replace en := en.symm; subst en
  rw [(fr_ch false k X).1] at hL
  rw [(fr_ch false k X).2] at hN
  replace hL := hL.symm; subst hL; replace hN := hN.symm; subst hN
  rw [(fr_ch true k _).1] at hP
  rw [(fr_ch true k _).2] at hq
  replace hP := hP.symm; subst hP; replace hq := hq.symm; subst hq
  refine ⟨fr_without (open_le X k), ?_⟩
  rw [(fr_ch false k _).1, (fr_ch false k _).2, (fr_ch true k _).1, (fr_ch true k _).2]
  exact fr_congr (open_again X k)
/-- The edge of a region. -/
theorem ed_some (F : Nat → Bool) : ∀ p, p < 256 → F p = true → ∃ q, q < 256 ∧ edF F q = true := fun p => by
  induction p using Nat.strongRecOn with
  | _ p ih =>
    intro hp hf
    cases he : edF F p
    · have : inF F p = true := by
        unfold edF at he
        rw [hf] at he
        cases hi : inF F p
        · rw [hi] at he; cases he
        · rfl
      have h2 := (inF_iff F p).1 this
      exact ih (p - 1) (by omega) (by omega) h2.2.1
    · exact ⟨p, hp, he⟩
theorem ed_law {xs : List Int} {n : Nat} (hl : xs.length = 3 * n) (h : reg xs n) {E : List Int} {m : Nat} (hE : E = rnL (edG xs n)) (hm : m = rnN (edG xs n)) :
    cbN 2 E m xs n = 0 ∧ (m = 0 ↔ n = 0) ∧ cbL 2 xs n E m = rnL (chG false 1 xs n) ∧ cbN 2 xs n E m = rnN (chG false 1 xs n) := by
  obtain ⟨ex, en⟩ := fr_of hl h
  generalize rhF xs n = X at ex en
  replace ex := ex.symm; subst ex; replace en := en.symm; subst en
  rw [(fr_ed X).1] at hE
  rw [(fr_ed X).2] at hm
  replace hE := hE.symm; subst hE; replace hm := hm.symm; subst hm
  refine ⟨fr_without (fun j _ hf => ((edF_iff X j).1 hf).1), ⟨fun h0 => ?_, fun h0 => ?_⟩, ?_⟩
  · refine (fr_zero fun j hj => ?_).2
    cases hx : X j
    · rfl
    · obtain ⟨q, hq, he⟩ := ed_some X j hj hx
      rw [fr_empty h0 q hq] at he
      cases he
  · refine (fr_zero fun j hj => ?_).2
    unfold edF
    rw [fr_empty h0 j hj]; rfl
  · rw [(fr_cb 2 (by omega) X _).1, (fr_cb 2 (by omega) X _).2, (fr_ch false 1 X).1, (fr_ch false 1 X).2]
    exact ⟨rfl, rfl⟩
def DrawnS1 (w : World) (e : Ending) (w' : World) : Prop :=
  ∃ v n xs, ∃ k : Int, e = .returned (.tuple #[v, .int .i64 k]) ∧ (n ≤ 300 ∧ -1 ≤ k ∧ k ≤ 17) ∧ OwnT 51 3 w' w.heap.size v n xs ∧ Below w.heap.size w w'
set_option maxHeartbeats 4000000 in
theorem drawGrw_any (A : Option Addr) (c : Nat) (bs : List Int) (w : World) (hc : bs.length ≤ c) (h : Rdw .u8 w w.heap.size A bs) :
    Calls Tryd.prog 21 #[.slice A bs.length c] w (DrawnS1 w) := by
  go_enter Tryd.func21, Tryd.ntmps21
  go_wp2_with fail
  refine (newReader_any A c bs w hc h).mono ?_
  rintro e w1 ⟨rfl, hr1, hb1, hs1⟩
  clear hs1
  go_wp2_with fail
  refine (anyRegion_any _ 0 w1 hr1 (by omega)).mono ?_
  rintro e w2 ⟨v, n, xs, rfl, hn, hO, hr2, hg2⟩
  have hown : v.ownBlock ≠ some w.heap.size := fun e => by have := (hO.lt _ e).1; have := hr1.lt; omega
  have HB2 := Lib.hid (hb1.trans (hr1.trans hg2))
  have HO2 := Lib.hid (hO.base_le hb1.size)
  clear hO hg2 hb1 hr1
  go_wp2_with fail
  refine (one_lit _ [1, 0, 2, 3, 16, 17, -1] _ _ _ (0 + 300) w2 hr2 (by omega) (by simp) (by simp) rfl rfl).mono ?_
  rintro e w3 ⟨x, rfl, hx, hr3, hg3⟩
  have hx' : -1 ≤ x ∧ x ≤ 17 := by simp at hx; omega
  have HO3 := Lib.hid (HO2.out.kept hg3 (.inr hown))
  have HB3 := Lib.hid (HB2.out.trans (hr2.trans hg3))
  clear HO2 HB2 hr2 hg3 hr3 hx
  go_wp2
  exact bodyPost_ret (v := .tuple #[v, .int .i64 x]) (by simp [results, Tryd.results21, go_sem]) rfl ⟨v, n, xs, x, rfl, by omega, HO3.out, HB3.out⟩
set_option maxHeartbeats 4000000 in
theorem drawShr_any (A : Option Addr) (c : Nat) (bs : List Int) (w : World) (hc : bs.length ≤ c) (h : Rdw .u8 w w.heap.size A bs) :
    Calls Tryd.prog 25 #[.slice A bs.length c] w (DrawnS1 w) := by
  have HC := Lib.hid (drawGrw_any A c bs w hc h)
  clear h
  go_enter Tryd.func25, Tryd.ntmps25
  go_wp2_with fail
  refine HC.out.mono ?_
  rintro e w1 ⟨v, n, xs, k, rfl, hn, hO, hb⟩
  have HE : Hid (DrawnS1 w (.returned (.tuple #[v, .int .i64 k])) w1) := Lib.hid ⟨v, n, xs, k, rfl, hn, hO, hb⟩
  clear hO hb HC
  go_wp2
  go_ret2
  exact HE.out
set_option maxHeartbeats 4000000 in
theorem drawOpn_any (A : Option Addr) (c : Nat) (bs : List Int) (w : World) (hc : bs.length ≤ c) (h : Rdw .u8 w w.heap.size A bs) :
    Calls Tryd.prog 28 #[.slice A bs.length c] w (DrawnS1 w) := by
  have HC := Lib.hid (drawGrw_any A c bs w hc h)
  clear h
  go_enter Tryd.func28, Tryd.ntmps28
  go_wp2_with fail
  refine HC.out.mono ?_
  rintro e w1 ⟨v, n, xs, k, rfl, hn, hO, hb⟩
  have HE : Hid (DrawnS1 w (.returned (.tuple #[v, .int .i64 k])) w1) := Lib.hid ⟨v, n, xs, k, rfl, hn, hO, hb⟩
  clear hO hb HC
  go_wp2
  go_ret2
  exact HE.out
end Go.Proofs.YtoeifhflbgfcjaaDoor
