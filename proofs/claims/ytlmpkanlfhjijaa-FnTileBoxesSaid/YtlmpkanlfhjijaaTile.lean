/- Tiles of an image: tileBox, tileCount of the model. -/
import Derived.Test.YtlmpkanlfhjijaaOwnT
import Derived.Test.YtlmpkanlfhjijaaGridF
namespace Go.Proofs.Ytlmpkanlfhjijaa
open Go.RowKit
set_option linter.unusedSimpArgs false
set_option linter.unusedVariables false
set_option maxRecDepth 20000

/-- The number of columns of tiles. -/
def tcol (W : Nat) : Nat := (W + 3) / 4
def tsd (W x : Int) : Int := if W - x < 4 then W - x else 4
/-- Tile t of an image. -/
def tileA (W H t : Nat) : List Int := [((t % tcol W * 4 : Nat) : Int), ((t / tcol W * 4 : Nat) : Int), tsd W ((t % tcol W * 4 : Nat) : Int), tsd H ((t / tcol W * 4 : Nat) : Int)]
/-- The first t tiles. -/
def tileL (W H : Nat) : Nat → List Int
  | 0 => []
  | t + 1 => tileL W H t ++ tileA W H t
theorem tileL_len (W H : Nat) : ∀ t, (tileL W H t).length = t * 4
  | 0 => rfl
  | t + 1 => by unfold tileL; rw [List.length_append, tileL_len W H t]; simp [tileA]; omega
theorem tcol_pos {W : Nat} (h : 1 ≤ W) : 1 ≤ tcol W := by unfold tcol; omega
theorem tcol_le {W : Nat} (h : W ≤ 16) : tcol W ≤ 4 := by unfold tcol; omega
theorem tcol_div {W : Nat} : ((W : Int) + 4 - 1).tdiv 4 = (tcol W : Int) := by
  have : ((W : Int) + 4 - 1) = ((W + 3 : Nat) : Int) := by push_cast; omega
  rw [this]; unfold tcol; rw [Int.tdiv_eq_ediv_of_nonneg (by omega)]; push_cast; rfl
def tcnt (W H : Nat) : Nat := tcol W * tcol H
theorem tcnt_le {W H : Nat} (hW : W ≤ 16) (hH : H ≤ 16) : tcnt W H ≤ 16 := Nat.mul_le_mul (tcol_le hW) (tcol_le hH)
set_option maxHeartbeats 4000000 in
theorem tileCount_any (W H : Nat) (P v : Value) (w : World) (hW : 1 ≤ W ∧ W ≤ 16) (hH : 1 ≤ H ∧ H ≤ 16) :
    Calls Try.prog 49 #[.agg #[.int .i64 (W : Int), .int .i64 (H : Int), P, v]] w fun e w' => e = .returned (.int .i64 (tcnt W H : Nat)) ∧ Below w.heap.size w w' := by
  have HB := Lib.hid ((Below.refl w.heap.size w).alloc (Nat.le_refl _) (.cells #[.int .i64 (W : Int), .int .i64 (H : Int), P, v] 25))
  have eW := @tcol_div W
  have eH := @tcol_div H
  have cW := tcol_le hW.2
  have cH := tcol_le hH.2
  have HE : Hid ((tcol W : Int) * (tcol H : Int) = ((tcnt W H : Nat) : Int)) := Lib.hid (by unfold tcnt; push_cast; rfl)
  have hc := tcnt_le hW.2 hH.2
  have hp : (tcol W : Int) * (tcol H : Int) ≤ 16 := by rw [HE.out]; omega
  have hp0 : 0 ≤ (tcol W : Int) * (tcol H : Int) := by rw [HE.out]; omega
  go_enter Try.func49, Try.ntmps49
  go_wp2
  go_ret
  exact ⟨rfl, HB.out⟩
set_option maxHeartbeats 4000000 in
theorem tileBox_any (W H t : Nat) (P v : Value) (w : World) (hW : 1 ≤ W ∧ W ≤ 16) (hH : 1 ≤ H ∧ H ≤ 16) (ht : t ≤ 1000) :
    Calls Try.prog 50 #[.agg #[.int .i64 (W : Int), .int .i64 (H : Int), P, v], .int .i64 (t : Int)] w fun e w' => e = .returned (.agg #[.int .i64 ((t % tcol W * 4 : Nat) : Int), .int .i64 ((t / tcol W * 4 : Nat) : Int), .int .i64 (tsd W ((t % tcol W * 4 : Nat) : Int)), .int .i64 (tsd H ((t / tcol W * 4 : Nat) : Int))]) ∧ Below w.heap.size w w' := by
  have eW := @tcol_div W
  have cW := tcol_le hW.2
  have c0 := tcol_pos hW.1
  have em : (t : Int).tmod (tcol W : Int) = ((t % tcol W : Nat) : Int) := by rw [Int.tmod_eq_emod_of_nonneg (by omega)]; rfl
  have ed : (t : Int).tdiv (tcol W : Int) = ((t / tcol W : Nat) : Int) := by rw [Int.tdiv_eq_ediv_of_nonneg (by omega)]; rfl
  have bm : t % tcol W < 4 := by have := Nat.mod_lt t (show 0 < tcol W by omega); omega
  have bd : t / tcol W ≤ 1000 := Nat.le_trans (Nat.div_le_self _ _) ht
  have HX : Hid (∀ a : Nat, ((a * 4 : Nat) : Int) = (a : Int) * 4) := Lib.hid (fun a => by push_cast; rfl)
  rw [HX.out, HX.out]
  generalize (t % tcol W : Nat) = mm at *
  generalize (t / tcol W : Nat) = dd at *
  generalize (tcol W : Nat) = C at *
  have HB : Hid (∀ a b c d : Value, Below w.heap.size w ((w.alloc (.cells #[.int .i64 (W : Int), .int .i64 (H : Int), P, v] 25)).alloc (.cells #[a, b, c, d] 42))) := Lib.hid (fun a b c d => ((Below.refl _ _).alloc (Nat.le_refl _) _).alloc (by simp) _)
  have HC : Hid (∀ a b c d : Value, Bx ((w.alloc (.cells #[.int .i64 (W : Int), .int .i64 (H : Int), P, v] 25)).alloc (.cells #[a, b, c, d] 42)) (w.heap.size + 1) 42 #[a, b, c, d]) := Lib.hid (fun a b c d => by simpa using Bx.new (w.alloc (.cells #[.int .i64 (W : Int), .int .i64 (H : Int), P, v] 25)) 42 #[a, b, c, d])
  unfold tsd
  go_enter Try.func50, Try.ntmps50
  go_wp2
  all_goals first | exact bodyPost_ret (v := .agg #[.int .i64 ((mm : Int) * 4), .int .i64 ((dd : Int) * 4), .int .i64 ((W : Int) - (mm : Int) * 4), .int .i64 ((H : Int) - (dd : Int) * 4)]) (by obtain ⟨q0, q1, q2, q3⟩ := bx4 (HC.out (.int .i64 ((mm : Int) * 4)) (.int .i64 ((dd : Int) * 4)) (.int .i64 ((W : Int) - (mm : Int) * 4)) (.int .i64 ((H : Int) - (dd : Int) * 4))); simp [results, Try.results50, go_sem, q0, q1, q2, q3]) rfl ⟨rfl, HB.out _ _ _ _⟩ | exact bodyPost_ret (v := .agg #[.int .i64 ((mm : Int) * 4), .int .i64 ((dd : Int) * 4), .int .i64 ((W : Int) - (mm : Int) * 4), .int .i64 (4)]) (by obtain ⟨q0, q1, q2, q3⟩ := bx4 (HC.out (.int .i64 ((mm : Int) * 4)) (.int .i64 ((dd : Int) * 4)) (.int .i64 ((W : Int) - (mm : Int) * 4)) (.int .i64 (4))); simp [results, Try.results50, go_sem, q0, q1, q2, q3]) rfl ⟨rfl, HB.out _ _ _ _⟩ | exact bodyPost_ret (v := .agg #[.int .i64 ((mm : Int) * 4), .int .i64 ((dd : Int) * 4), .int .i64 (4), .int .i64 ((H : Int) - (dd : Int) * 4)]) (by obtain ⟨q0, q1, q2, q3⟩ := bx4 (HC.out (.int .i64 ((mm : Int) * 4)) (.int .i64 ((dd : Int) * 4)) (.int .i64 (4)) (.int .i64 ((H : Int) - (dd : Int) * 4))); simp [results, Try.results50, go_sem, q0, q1, q2, q3]) rfl ⟨rfl, HB.out _ _ _ _⟩ | exact bodyPost_ret (v := .agg #[.int .i64 ((mm : Int) * 4), .int .i64 ((dd : Int) * 4), .int .i64 (4), .int .i64 (4)]) (by obtain ⟨q0, q1, q2, q3⟩ := bx4 (HC.out (.int .i64 ((mm : Int) * 4)) (.int .i64 ((dd : Int) * 4)) (.int .i64 (4)) (.int .i64 (4))); simp [results, Try.results50, go_sem, q0, q1, q2, q3]) rfl ⟨rfl, HB.out _ _ _ _⟩
end Go.Proofs.Ytlmpkanlfhjijaa
