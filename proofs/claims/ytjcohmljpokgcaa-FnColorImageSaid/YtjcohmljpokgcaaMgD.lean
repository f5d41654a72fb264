/- ScaI, ScaJ, ScaP, HisM, Tri, HisA, Chg, MapI, HisI, EquM, EquI, ColI: one text of several. -/
import Derived.Test.YtjcohmljpokgcaaGridJ
import Derived.Test.YtjcohmljpokgcaaScaM
import Derived.Test.YtjcohmljpokgcaaDiv
import Derived.Test.YtjcohmljpokgcaaScale
import Derived.Test.YtjcohmljpokgcaaGridC
import Derived.Test.YtjcohmljpokgcaaPix
import Derived.Test.YtjcohmljpokgcaaOwnT
import Derived.StillTailTactics
import Derived.Test.YtjcohmljpokgcaaGenP
import Derived.Deep.WholeRow
import Derived.Test.YtjcohmljpokgcaaInvI
import Derived.Shelf.Abstract
import Derived.Deep.QuietTactic
import Derived.BigQuiet
import Derived.Test.YtjcohmljpokgcaaNcI
import Derived.Test.YtjcohmljpokgcaaColS
namespace Go.Proofs.Ytjcohmljpokgcaa
open Go.RowKit Go.Shelf
set_option linter.unusedSimpArgs false
set_option linter.unusedVariables false
set_option maxRecDepth 20000

end Go.Proofs.Ytjcohmljpokgcaa
namespace Go.Proofs.Ytjcohmljpokgcaa
open Go.RowKit Go.Shelf
set_option linter.unusedSimpArgs false
set_option linter.unusedVariables false
set_option maxRecDepth 20000

def arN (W H a b : Nat) (f : Nat → Nat → Int) (x y : Nat) : Int := mnA (saF W H a b f x y) (W * H)
end Go.Proofs.Ytjcohmljpokgcaa
namespace Go.Proofs.Ytjcohmljpokgcaa
open Go.RowKit Go.Shelf
set_option linter.unusedSimpArgs false
set_option linter.unusedVariables false
set_option maxRecDepth 20000

set_option maxHeartbeats 4000000 in
theorem iPl1_any (W H P p : Nat) (hW : W ≤ 16) (hH : H ≤ 16) (hP : P ≤ 4) (hp : p < P) (A : Option Addr) (c : Nat) (xs : List Int) (hl : xs.length = W * H * P) (x y : Nat) (hx : x < W) (hy : y < H) (pm pp : Nat) (w : World) (hr : Rds .i64 w w.heap.size A xs)
    (h1 : Bx w pm 25 #[.int .i64 (W : Int), .int .i64 (H : Int), .int .i64 (P : Int), .slice A xs.length c]) (h2 : Bx w pp 3 #[.int .i64 (p : Int)]) :
    Calls Try.prog 66 (#[.int .i64 (x : Int), .int .i64 (y : Int)] ++ #[.pointer (some ⟨pm, 0, none⟩), .pointer (some ⟨pp, 0, none⟩)]) w fun e w' => e = .returned (.int .i64 (px W P xs x y p)) ∧ Below w.heap.size w w' := by
  obtain ⟨m0, m1, m2, m3⟩ := bx4 h1
  have p0 := bx1 h2
  have hlt := row_lt hx hy
  have hWH : W * H ≤ 256 := by have := Nat.mul_le_mul hW hH; omega
  obtain ⟨q1, e1⟩ : ∃ q, q = y * W := ⟨_, rfl⟩
  obtain ⟨q2, e2⟩ : ∃ q, q = q1 + x := ⟨_, rfl⟩
  obtain ⟨q3, e3⟩ : ∃ q, q = q2 * P := ⟨_, rfl⟩
  obtain ⟨k, e4⟩ : ∃ k, k = q3 + p := ⟨_, rfl⟩
  have hq2 : q2 < W * H := by rw [e2, e1]; exact hlt
  have hk : k < xs.length := by
    rw [hl, e4, e3]
    have := Nat.mul_le_mul_right P (show q2 + 1 ≤ W * H from hq2)
    rw [Nat.add_mul, Nat.one_mul] at this
    omega
  have hx1024 : xs.length ≤ 1024 := by rw [hl]; have := Nat.mul_le_mul hWH hP; omega
  obtain ⟨b, off, rfl, hb, hcc⟩ := hr.cells_ hk
  have hck := hcc k hk
  have ep : px W P xs x y p = xs.getD k 0 := by unfold px pix; rw [e4, e3, e2, e1]
  rw [ep]
  have i1 : (y : Int) * (W : Int) = (q1 : Int) := by rw [e1]; simp
  have i2 : (q1 : Int) + (x : Int) = (q2 : Int) := by rw [e2]; simp
  have i3 : (q2 : Int) * (P : Int) = (q3 : Int) := by rw [e3]; simp
  have i4 : (q3 : Int) + (p : Int) = (k : Int) := by rw [e4]; simp
  have b1 : q1 ≤ 2000 := by omega
  have b3 : q3 ≤ 2000 := by omega
  have w1 : IntKind.i64.wrap (q1 : Int) = (q1 : Int) := IntWalk.i64_in _ (by omega)
  have w2 : IntKind.i64.wrap (q2 : Int) = (q2 : Int) := IntWalk.i64_in _ (by omega)
  have w3 : IntKind.i64.wrap (q3 : Int) = (q3 : Int) := IntWalk.i64_in _ (by omega)
  have w4 : IntKind.i64.wrap (k : Int) = (k : Int) := IntWalk.i64_in _ (by omega)
  have hkI : (k : Int) < (xs.length : Int) := by omega
  generalize xs.getD k 0 = z at *
  clear hcc hr e1 e2 e3 e4 hq2 ep h1 h2 hlt
  show Calls Try.prog 66 #[.int .i64 (x : Int), .int .i64 (y : Int), .pointer (some ⟨pm, 0, none⟩), .pointer (some ⟨pp, 0, none⟩)] w _
  go_enter Try.func66, Try.ntmps66
  go_wp2
  go_ret
  exact ⟨rfl, Below.refl _ _⟩
set_option maxHeartbeats 4000000 in
theorem iPlane_any (W H P p : Nat) (hW : W ≤ 16) (hH : H ≤ 16) (hP : P ≤ 4) (hp : p < P) (A : Option Addr) (c : Nat) (xs : List Int) (hl : xs.length = W * H * P) (w : World) (hr : Rds .i64 w w.heap.size A xs) :
    Calls Try.prog 29 #[.agg #[.int .i64 (W : Int), .int .i64 (H : Int), .int .i64 (P : Int), .slice A xs.length c], .int .i64 (p : Int)] w (GridI W H (fun x y => px W P xs x y p) w) := by
  have Hr := Lib.hid hr
  have Hl := Lib.hid hl
  have Eg : Hid (∀ args w, (callFunc 66 args).run Try.prog w = .ok (.enter 66 args) w) := Lib.hid (enters_of Try.func66 (by kernel_rfl) rfl)
  have S0 : GS w (((w.alloc (.cells #[.int .i64 (W : Int), .int .i64 (H : Int), .int .i64 (P : Int), .slice A xs.length c] 25)).alloc (.cells #[.int .i64 (p : Int)] 3)).alloc (.cells #[.int .i64 0, .int .i64 0, .slice none 0 0] 55)) [] [⟨w.heap.size + 2, 55, #[.int .i64 0, .int .i64 0, .slice none 0 0]⟩, ⟨w.heap.size + 1, 3, #[.int .i64 (p : Int)]⟩, ⟨w.heap.size, 25, #[.int .i64 (W : Int), .int .i64 (H : Int), .int .i64 (P : Int), .slice A xs.length c]⟩] :=
    GS.box' (GS.box' (GS.box' (GS.start w) _ _ w.heap.size (by simp)) _ _ (w.heap.size + 1) (by simp)) _ _ (w.heap.size + 2) (by simp)
  have HS := Lib.hid S0
  clear hr hl S0
  go_enter Try.func29, Try.ntmps29
  go_wp2_with fail
  generalize ((w.alloc (.cells #[.int .i64 (W : Int), .int .i64 (H : Int), .int .i64 (P : Int), .slice A xs.length c] 25)).alloc (.cells #[.int .i64 (p : Int)] 3)).alloc (.cells #[.int .i64 0, .int .i64 0, .slice none 0 0] 55) = u at *
  refine (buildN_any W H hW hH 66 #[.pointer (some ⟨w.heap.size, 0, none⟩), .pointer (some ⟨w.heap.size + 1, 0, none⟩)] (fun x y => px W P xs x y p) u Eg.out (fun x y w' hx hy hbel =>
    iPl1_any W H P p hW hH hP hp A c xs Hl.out x y hx hy w.heap.size (w.heap.size + 1) w' ((HS.out.call hbel).arg Hr.out) ((HS.out.call hbel).bx (by simp)) ((HS.out.call hbel).bx (by simp)))).mono ?_
  rintro e w2 ⟨v2, rfl, hO2, hB2⟩
  have S2 := HS.out.add hO2 hB2
  obtain ⟨A2, c2, rfl, _⟩ := hO2.slice
  obtain ⟨r0, r1, r2⟩ := S2.b0_3
  have f0 := S2.f0 0
  have f1 := S2.f0 1
  have f2 := S2.f0 2
  have HE := Lib.hid (S2.e0_3 (.int .i64 (W : Int)) (.int .i64 (H : Int)) (.slice A2 (img W H 1 (fun x y _ => px W P xs x y p)).length c2))
  clear S2 HS hO2 hB2 Hr Eg
  go_wp2
  exact bodyPost_ret (v := .agg #[.int .i64 (W : Int), .int .i64 (H : Int), .slice A2 (img W H 1 (fun x y _ => px W P xs x y p)).length c2]) (by simp [results, Try.results29, go_sem, r0, r1, r2]) rfl ⟨_, rfl, HE.out.2 _ (List.Mem.head _), HE.out.1⟩
end Go.Proofs.Ytjcohmljpokgcaa
namespace Go.Proofs.Ytjcohmljpokgcaa
set_option linter.unusedSimpArgs false
set_option linter.unusedVariables false

def hist (xs : List Int) : List Int := (List.range 256).map fun (n : Nat) => ((xs.count ((n : Nat) : Int) : Nat) : Int)
theorem hist_len (xs : List Int) : (hist xs).length = 256 := by simp [hist]
theorem hist_get (xs : List Int) {n : Nat} (h : n < 256) : (hist xs).getD n 0 = ((xs.count (n : Int) : Nat) : Int) := by
  simp [hist, List.getD_eq_getElem?_getD, h]
theorem hist_bd (xs : List Int) (n : Nat) : 0 ≤ (hist xs).getD n 0 ∧ (hist xs).getD n 0 ≤ xs.length := by
  by_cases h : n < 256
  · rw [hist_get xs h]
    have := List.count_le_length (a := (n : Int)) (l := xs)
    omega
  · rw [List.getD_eq_getElem?_getD, List.getElem?_eq_none (by rw [hist_len]; omega)]
    simp
theorem hist_nil : hist [] = List.replicate 256 0 := by
  apply List.ext_getElem?
  intro i
  by_cases h : i < 256
  · rw [hist, List.getElem?_map, List.getElem?_range h, List.getElem?_replicate, if_pos h]
    rfl
  · rw [List.getElem?_eq_none (by rw [hist_len]; omega), List.getElem?_eq_none (by rw [List.length_replicate]; omega)]
theorem hist_step (xs : List Int) (n : Nat) (h : n < 256) : (hist xs).set n ((hist xs).getD n 0 + 1) = hist (xs ++ [(n : Int)]) := by
  rw [hist_get xs h]
  apply List.ext_getElem?
  intro i
  rw [List.getElem?_set]
  by_cases hi : i < 256
  · by_cases e : n = i
    · subst e
      simp [hist, h]
    · have e2 : ¬ (n : Int) = (i : Int) := by omega
      simp [hist, hi, e, List.count_append, List.count_singleton, e2]
  · have e : ¬ n = i := by omega
    simp [hist, hi, e]
theorem take_snoc (xs : List Int) (j : Nat) (h : j < xs.length) : xs.take (j + 1) = xs.take j ++ [xs.getD j 0] := by
  rw [List.take_succ_eq_append_getElem h]
  simp [h]
def sm (xs : List Int) : Nat → Int
  | 0 => 0
  | k + 1 => sm xs k + xs.getD k 0
theorem sm_bd {xs : List Int} (h : ∀ j, j < xs.length → 0 ≤ xs.getD j 0 ∧ xs.getD j 0 ≤ 100000) : ∀ k, k ≤ xs.length → 0 ≤ sm xs k ∧ sm xs k ≤ 100000 * k
  | 0, _ => by simp [sm]
  | k + 1, hk => by
    have := sm_bd h k (by omega)
    have := h k (by omega)
    unfold sm
    omega
theorem countP_next (N : Nat) : ∀ xs : List Int, (∀ x ∈ xs, 0 ≤ x) → xs.countP (fun x => decide (x < ((N + 1 : Nat) : Int))) = xs.countP (fun x => decide (x < (N : Int))) + xs.count (N : Int)
  | [], _ => rfl
  | x :: xs, h => by
    rw [List.countP_cons, List.countP_cons, List.count_cons, countP_next N xs (fun y hy => h y (List.mem_cons_of_mem _ hy))]
    have := h x List.mem_cons_self
    by_cases h1 : x = (N : Int)
    · have h2 : ¬ x < (N : Int) := by omega
      have h3 : x < ((N + 1 : Nat) : Int) := by omega
      have h4 : ((x == (N : Int)) = true) = True := by simp [h1]
      simp only [h2, h3, h4, decide_true, decide_false, if_true, if_false, Bool.false_eq_true]; omega
    · by_cases h2 : x < (N : Int)
      · have h3 : x < ((N + 1 : Nat) : Int) := by omega
        have h4 : ((x == (N : Int)) = true) = False := by simp [h1]
        simp only [h2, h3, h4, decide_true, if_true, if_false]; omega
      · have h3 : ¬ x < ((N + 1 : Nat) : Int) := by omega
        have h4 : ((x == (N : Int)) = true) = False := by simp [h1]
        simp only [h2, h3, h4, decide_false, if_false, Bool.false_eq_true]; omega
theorem sm_hist (xs : List Int) (h : ∀ x ∈ xs, 0 ≤ x) : ∀ N, N ≤ 256 → sm (hist xs) N = (xs.countP (fun x => decide (x < (N : Int))) : Nat)
  | 0, _ => by
    show (0 : Int) = _
    have : xs.countP (fun x => decide (x < ((0 : Nat) : Int))) = 0 := List.countP_eq_zero.2 fun x hx => by have := h x hx; simp; omega
    rw [this]; rfl
  | N + 1, hN => by
    rw [sm, sm_hist xs h N (by omega), hist_get xs (show N < 256 by omega), countP_next N xs h]
    omega
theorem sm_all (xs : List Int) (h : ∀ x ∈ xs, 0 ≤ x ∧ x ≤ 255) : sm (hist xs) 256 = xs.length := by
  rw [sm_hist xs (fun x hx => (h x hx).1) 256 (Nat.le_refl _)]
  congr 1
  exact List.countP_eq_length.2 fun x hx => by have := h x hx; simp; omega
end Go.Proofs.Ytjcohmljpokgcaa
namespace Go.Proofs.Ytjcohmljpokgcaa
open Go.RowKit
set_option linter.unusedSimpArgs false
set_option linter.unusedVariables false

def BlkT (T : TypeId) (w : World) (g : Nat) (xs : List Int) : Prop := w.heap[g]? = some (.cells (row xs) T (0, 0))
section
variable {T : TypeId} {w w' : World} {g : Nat} {xs : List Int}
theorem BlkT.cell (h : BlkT T w g xs) {i : Nat} (hi : i < xs.length) : w.cell? ⟨g, i, none⟩ = some (.int .i64 (xs.getD i 0)) := by
  rw [cell_of_row w g i _ _ _ h]; exact row_get xs i hi
theorem BlkT.frozen (h : BlkT T w g xs) (i : Nat) : w.frozen? ⟨g, i, none⟩ = false := frozen_of_row w g i _ _ h
theorem BlkT.put (h : BlkT T w g xs) (i : Nat) (y : Int) : BlkT T (w.setCell ⟨g, i, none⟩ (.int .i64 y)) g (xs.set i y) := by
  unfold BlkT
  rw [heap_setCell_same w g i _ _ _ h]
  congr 2
  apply Array.toList_inj.1
  simp [row, List.map_set]
theorem BlkT.new (T : TypeId) (w : World) (xs : List Int) : BlkT T (w.alloc (.cells (row xs) T)) w.heap.size xs := heap_alloc_new w _
theorem BlkT.lt (h : BlkT T w g xs) : g < w.heap.size := by
  rcases Nat.lt_or_ge g w.heap.size with h' | h'
  · exact h'
  · unfold BlkT at h; rw [Array.getElem?_eq_none h'] at h; cases h
theorem BlkT.below {B : Nat} (h : BlkT T w g xs) (hb : Below B w w') (hg : g < B) : BlkT T w' g xs := (hb.block g hg).trans h
theorem BlkT.rds (h : BlkT T w g xs) : Rds .i64 w w.heap.size (some ⟨g, 0, none⟩) xs := .inr ⟨g, 0, rfl, h.lt, fun j hj => by rw [Nat.zero_add]; exact h.cell hj⟩
end
theorem made3 (n : Nat) : madeCells #[Value.int .i64 0, Value.int .i64 0, Value.int .i64 0] n = row (zeros n) := by
  apply Array.ext
  · simp [size_madeCells, row, zeros]
  · intro i h1 h2
    have hm : i % 3 < 3 := Nat.mod_lt _ (by decide)
    simp only [madeCells, row, zeros, Array.getElem_map, Array.getElem_range, List.getElem_toArray, List.getElem_map, List.getElem_replicate]
    have : ∀ j, j < 3 → (#[Value.int .i64 0, Value.int .i64 0, Value.int .i64 0] : Array Value)[j]! = Value.int .i64 0 := by
      intro j hj
      match j, hj with
      | 0, _ => rfl
      | 1, _ => rfl
      | 2, _ => rfl
    exact this _ hm
theorem take_set_next3 (xs : List Int) (k : Nat) (hk : k < xs.length) : (xs.take k ++ zeros (xs.length - k)).set k (xs.getD k 0) = xs.take (k + 1) ++ zeros (xs.length - (k + 1)) := by
  apply List.ext_getElem?
  intro j
  simp only [zeros, List.getElem?_set, List.getElem?_append, List.length_take, List.getElem?_take, List.getElem?_replicate, List.length_append, List.length_replicate]
  by_cases h1 : k = j
  · subst h1; simp [hk, show k < min k xs.length + (xs.length - k) by omega, show k < min (k + 1) xs.length by omega]
  · by_cases h2 : j < k
    · simp [h1, show j < min k xs.length by omega, show j < min (k + 1) xs.length by omega, h2, show j < k + 1 by omega]
    · simp [h1, show ¬ j < min k xs.length by omega, show ¬ j < min (k + 1) xs.length by omega]
      split <;> split <;> simp <;> omega
theorem BlkT.ownT {T : TypeId} {w : World} {g base n : Nat} {xs : List Int} (h : BlkT T w g xs) (hb : base ≤ g) (hx : xs.length = 3 * n) (hm : n ≤ 2000000) : OwnT T 3 w base (.slice (some ⟨g, 0, none⟩) n n) n xs :=
  ⟨by simp; omega, .inr ⟨g, n, row xs, rfl, hb, h, Nat.le_refl _, by unfold maxLen; omega, by simp [row]; omega, by simp [row]; exact List.take_of_length_le (by simp; omega)⟩⟩
def CopyT (T : TypeId) (n : Nat) (xs : List Int) (w : World) (e : Ending) (w' : World) : Prop :=
  ∃ (A : Option Addr) (c : Nat), e = .returned (.slice A n c) ∧ (n ≤ c ∧ c ≤ n) ∧ Rds .i64 w' w'.heap.size A xs ∧ Below w.heap.size w w' ∧ (∀ a, A = some a → w.heap.size ≤ a.block) ∧ OwnT T 3 w' w.heap.size (.slice A n c) n xs
theorem trio {j n : Nat} (h : j < n) {m : Nat} (hm : m = 3 * n) : j * 3 < m ∧ j * 3 + 1 < m ∧ j * 3 + 2 < m := by omega



end Go.Proofs.Ytjcohmljpokgcaa
namespace Go.Proofs.Ytjcohmljpokgcaa
open Go.RowKit
set_option linter.unusedSimpArgs false
set_option linter.unusedVariables false
set_option maxRecDepth 20000

theorem GS.setB {W0 w : World} {L : List Rg} {Bs : List Bxg} {g : Nat} {T : TypeId} {xs : List Int} (h : GS W0 w L (⟨g, T, row xs⟩ :: Bs)) (i : Nat) (y : Int) : GS W0 (w.setCell ⟨g, i, none⟩ (.int .i64 y)) L (⟨g, T, row (xs.set i y)⟩ :: Bs) := by
  have hb : BlkT T w g xs := h.bx (List.Mem.head _)
  exact h.fill (hb.put i y) ⟨rfl, rfl, rfl, by simp [World.setCell], fun k _ hk => heap_setCell_other w ⟨g, i, none⟩ k _ (fun e => hk (by simp [e]))⟩
theorem GS.blk {W0 w : World} {L : List Rg} {Bs : List Bxg} {g : Nat} {T : TypeId} {xs : List Int} (h : GS W0 w L Bs) (hm : ⟨g, T, row xs⟩ ∈ Bs) : BlkT T w g xs := h.bx hm
theorem BlkT.ownA {T : TypeId} {w : World} {g base : Nat} {xs : List Int} (h : BlkT T w g xs) (hb : base ≤ g) (hm : xs.length ≤ 2000000) : OwnT T 1 w base (.slice (some ⟨g, 0, none⟩) xs.length xs.length) xs.length xs :=
  ⟨by simp, .inr ⟨g, xs.length, row xs, rfl, hb, h, Nat.le_refl _, by unfold maxLen; omega, by simp [row], by simp [row, List.take_of_length_le]⟩⟩
theorem GS.setRow {W0 w : World} {L : List Rg} {Bs : List Bxg} {g : Nat} {T : TypeId} {old : Array Value} (h : GS W0 w L (⟨g, T, old⟩ :: Bs)) (cs : Array Value) : GS W0 (w.setRow g cs) L (⟨g, T, cs⟩ :: Bs) :=
  h.fill (setRow_heap w g old cs T (0, 0) (h.bx (List.Mem.head _))) ⟨rfl, rfl, rfl, by simp, fun k _ hk => setRow_other w g k cs (fun e => hk (by simp [e]))⟩
theorem row_size (xs : List Int) : (row xs).size = xs.length := by simp [row]
theorem row_one (xs : List Int) : (row xs).all (·.oneCell') = true := by
  simp [row, Value.oneCell']
theorem zeros_len (n : Nat) : (zeros n).length = n := by simp [zeros]
theorem run_storeCells_row {w : World} {g : Nat} {t : TypeId} {old : Array Value} {xs : List Int} (hg : Bx w g t old) (ho : old.size = xs.length) : (storeCells ⟨g, 0, none⟩ (row xs).toList).run Try.prog w = .ok () (w.setRow g (row xs)) := by
  have := run_storeCells_from (P := Try.prog) g t (row xs).toList 0 old w hg (by simp [row]; omega) (fun v hv => (Array.all_eq_true_iff_forall_mem.1 (row_one xs)) v (by simpa using hv))
  simpa using this
theorem GS.swap {W0 w : World} {L : List Rg} {a b : Bxg} {Bs : List Bxg} (h : GS W0 w L (a :: b :: Bs)) : GS W0 w L (b :: a :: Bs) := by
  obtain ⟨h1, h2, h3, h4, h5⟩ := h
  have p1 := List.pairwise_cons.1 h5
  have p2 := List.pairwise_cons.1 p1.2
  exact ⟨h1, h2, h3, fun c hc => h4 c (by simp at hc ⊢; rcases hc with h | h | h <;> simp [h]), List.pairwise_cons.2 ⟨fun c hc => by
    rcases List.mem_cons.1 hc with rfl | hc
    · exact fun e => p1.1 b (List.Mem.head _) e.symm
    · exact p2.1 c hc, List.pairwise_cons.2 ⟨fun c hc => p1.1 c (List.mem_cons_of_mem _ hc), p2.2⟩⟩⟩
end Go.Proofs.Ytjcohmljpokgcaa
namespace Go.Proofs.Ytjcohmljpokgcaa
open Go.RowKit
set_option linter.unusedSimpArgs false
set_option linter.unusedVariables false

theorem map_step (f : Int → Int) (xs : List Int) (j : Nat) (hj : j < xs.length) : (xs.map f).take (j + 1) = (xs.map f).take j ++ [f (xs.getD j 0)] := by
  rw [List.take_succ_eq_append_getElem (by rw [List.length_map]; exact hj)]
  simp [hj]
set_option maxHeartbeats 8000000 in
theorem change_any (W H P : Int) (A : Option Addr) (c : Nat) (xs : List Int) (f : Int → Int) (g : Nat) (cs : Array Value) (w : World) (hx : Rds .i64 w w.heap.size A xs) (hl : xs.length ≤ 2000000)
    (eg : ∀ args w, (callFunc g args).run Try.prog w = .ok (.enter g args) w)
    (hc : ∀ (j : Nat) (w' : World), j < xs.length → Below w.heap.size w w' → Calls Try.prog g (#[.int .i64 (xs.getD j 0)] ++ cs) w' fun e w'' => e = .returned (.int .i64 (f (xs.getD j 0))) ∧ Below w'.heap.size w' w'') :
    Calls Try.prog 57 #[.agg #[.int .i64 W, .int .i64 H, .int .i64 P, .slice A xs.length c], .func (.func g) #[] cs] w (MadeI W H P (xs.map f) w) := by
  have HC := Lib.hid hc
  clear hc
  obtain ⟨u0, hu⟩ : ∃ u0, u0 = (w.alloc (.cells #[.int .i64 W, .int .i64 H, .int .i64 P, .slice A xs.length c] 25)).alloc (.cells #[.int .i64 0, .int .i64 0, .int .i64 0, .slice none 0 0] 25) := ⟨_, rfl⟩
  have hsz : u0.heap.size = w.heap.size + 2 := by rw [hu]; simp
  have Hx := Lib.hid (show Rds .i64 u0 w.heap.size A xs by rw [hu]; exact (hx.alloc (Nat.le_refl _) _).alloc (by simp) _)
  have HB0 := Lib.hid (show Below w.heap.size w u0 by rw [hu]; exact ((Below.refl w.heap.size w).alloc (Nat.le_refl _) _).alloc (by simp) _)
  have HM := Lib.hid (show Bx u0 w.heap.size 25 (imC W H P (.slice A xs.length c)) by rw [hu]; exact (Bx.new w 25 _).alloc _)
  have HR := Lib.hid (show Bx u0 (w.heap.size + 1) 25 (imC 0 0 0 (.slice none 0 0)) by rw [hu]; have := Bx.new (w.alloc (.cells #[.int .i64 W, .int .i64 H, .int .i64 P, .slice A xs.length c] 25)) 25 (imC 0 0 0 (.slice none 0 0)); simpa [imC] using this)
  have Hsz := Lib.hid hsz
  have hmk := fun W => make_ints xs.length (by omega) W
  have H0 := Lib.hid (Blk.new u0 (zeros xs.length))
  obtain ⟨b0, b1, b2, b3⟩ := HM.out.im
  clear hx hsz
  subst hu
  go_enter Try.func57, Try.ntmps57
  go_wp2
  generalize (w.alloc (.cells #[.int .i64 W, .int .i64 H, .int .i64 P, .slice A xs.length c] 25)).alloc (.cells #[.int .i64 0, .int .i64 0, .int .i64 0, .slice none 0 0] 25) = u0 at *
  obtain ⟨q, hq⟩ : ∃ q, q = w.heap.size + 1 + 1 := ⟨_, rfl⟩
  rw [← hq]
  have Hq : Hid (u0.heap.size = q ∧ q = w.heap.size + 2) := Lib.hid ⟨by rw [Hsz.out, hq], hq⟩
  rw [Hq.out.1] at H0
  clear hmk hq Hsz
  go_loopw [15] (fun i wr => ∃ j : Nat, j ≤ xs.length ∧ i = .int .i64 j ∧ Blk wr q ((xs.map f).take j ++ zeros (xs.length - j)) ∧ Below q u0 wr) (fun i _ => xs.length - (intOf i).toNat)
  case atStart => exact ⟨0, Nat.zero_le _, rfl, by simpa using H0.out, by have := (Below.refl u0.heap.size u0).alloc (Nat.le_refl _) (.cells (row (zeros xs.length)) 3); rwa [Hq.out.1] at this⟩
  case round =>
    obtain ⟨j, hj, rfl, hB, hbel⟩ := hrel
    clear b0 b1 b2 b3
    by_cases hlt : j < xs.length
    · obtain ⟨b, off, rfl, hb1, hcc⟩ := (Hx.out.belowTo hbel (by have := Hq.out; omega)).cells_ hlt
      obtain ⟨x, hxe⟩ : ∃ x, x = xs.getD j 0 := ⟨_, rfl⟩
      have hcj := hcc j hlt
      have HCj := HC.out j
      have hms := map_step f xs j hlt
      rw [← hxe] at hcj HCj hms
      have HCJ := Lib.hid HCj
      have Hms := Lib.hid hms
      have hlj : ((xs.map f).take j).length = j := by simp; omega
      have HBl := Lib.hid hB
      have Hbel := Lib.hid hbel
      have Hlj := Lib.hid hlj
      clear hcc hB hbel hlj H0 hxe HCj hms
      go_wp2_with fail
      refine (HCJ.out wr hlt (HB0.out.trans (Hbel.out.mono (by have := Hq.out; omega)))).mono ?_
      rintro e w2 ⟨rfl, hB2⟩
      have hB := HBl.out.below hB2 (by have := Hbel.out.size; have := HBl.out.lt; omega)
      have hcw := hB.cell (i := j) (by simp [zeros]; omega)
      have hfw := hB.frozen j
      have hput := hB.put j (f x)
      rw [set_nxt _ _ _ _ (by omega) Hlj.out.symm, ← Hms.out, show xs.length - j - 1 = xs.length - (j + 1) by omega] at hput
      have HN := Lib.hid hput
      have HBel := Lib.hid ((Hbel.out.trans (hB2.mono (by have := Hbel.out.size; have := Hq.out.1; omega))).setCell (p := ⟨q, j, none⟩) (Nat.le_refl _) (.int .i64 (f x)))
      clear hcj hB hput hB2 HBl Hbel Hlj
      generalize f x = y at *
      generalize (List.getD ((xs.map f).take j ++ zeros (xs.length - j)) j 0) = z at *
      go_wp2
      go_roundw
      case rel => exact ⟨j + 1, by omega, by go_num, HN.out, HBel.out⟩
      case measure => simp [intOf]; omega
    · have hj' : j = xs.length := by omega
      have e : (xs.map f).take j ++ zeros (xs.length - j) = xs.map f := by subst hj'; rw [Nat.sub_self, List.take_of_length_le (by rw [List.length_map]; exact Nat.le_refl _)]; simp [zeros]
      have hO := hB.own (Nat.le_refl _) (by rw [e, List.length_map]; unfold maxLen; omega)
      rw [e, List.length_map] at hO
      have hbel' : Below u0.heap.size u0 wr := by rw [Hq.out.1]; exact hbel
      have hM := HM.out.below hbel'
      have hR := HR.out.below hbel'
      obtain ⟨b0, b1, b2, b3⟩ := hM.im
      obtain ⟨r0, r1, r2, r3⟩ := hR.im
      have f0 := hR.fz 0
      have f1 := hR.fz 1
      have f2 := hR.fz 2
      have f3 := hR.fz 3
      have HE := Lib.hid (im_end (w := w) (r := w.heap.size + 1) hO (by have := Hq.out; omega) (by omega) (HB0.out.trans (hbel.mono (by have := Hq.out; omega))) (.int .i64 W) (.int .i64 H) (.int .i64 P) (.slice (some ⟨q, 0, none⟩) xs.length xs.length))
      clear hB hbel hbel' hO hM hR e hj' H0 HC
      go_wp2
      exact bodyPost_ret (v := .agg #[.int .i64 W, .int .i64 H, .int .i64 P, .slice (some ⟨q, 0, none⟩) xs.length xs.length]) (by simp [results, Try.results57, go_sem, r0, r1, r2, r3]) rfl ⟨_, rfl, HE.out.1, HE.out.2⟩
end Go.Proofs.Ytjcohmljpokgcaa
namespace Go.Proofs.Ytjcohmljpokgcaa
open Go.RowKit Go.Shelf
set_option linter.unusedSimpArgs false
set_option linter.unusedVariables false
set_option maxRecDepth 20000

theorem bytes_of {W H P : Int} {xs : List Int} (hv : vim W H P xs = true) : ∀ j, j < xs.length → 0 ≤ xs.getD j 0 ∧ xs.getD j 0 ≤ 255 := fun j hj => by
  have hv' : vim W H P xs = (vsh W H P && (decide ((xs.length : Int) = W * H * P) && allB 0 255 xs)) := rfl
  rw [hv] at hv'
  have ha : allB 0 255 xs = true := by
    cases h : allB 0 255 xs
    · rw [h] at hv'; simp at hv'
    · rfl
  have := of_decide_eq_true ha (xs[j]) (List.getElem_mem hj)
  simpa [hj] using this
def MadeIb (b : Bool) (W H P : Int) (xs : List Int) (w : World) (e : Ending) (w' : World) : Prop :=
  ∃ v, e = .returned (.tuple #[.agg #[.int .i64 (cond b W 0), .int .i64 (cond b H 0), .int .i64 (cond b P 0), v], .bool b]) ∧ Own w' w.heap.size v (cond b xs []) ∧ Below w.heap.size w w'
end Go.Proofs.Ytjcohmljpokgcaa
namespace Go.Proofs.Ytjcohmljpokgcaa
open Go.RowKit Go.Shelf
set_option linter.unusedSimpArgs false
set_option linter.unusedVariables false
set_option maxRecDepth 20000

def vpl (W H P : Int) (xs : List Int) : Bool := vim W H P xs && decide (P = 1)
set_option maxHeartbeats 8000000 in
theorem iVplane_any (W H P : Int) (A : Option Addr) (c : Nat) (xs : List Int) (w : World) (hx : Rds .i64 w w.heap.size A xs) (hl : xs.length ≤ 2000000) :
    Calls Try.prog 27 #[.agg #[.int .i64 W, .int .i64 H, .int .i64 P, .slice A xs.length c]] w fun e w' => e = .returned (.bool (vpl W H P xs)) ∧ Below w.heap.size w w' := by
  have HX := Lib.hid hx
  have HV : Hid (vpl W H P xs = (vim W H P xs && decide (P = 1))) := Lib.hid rfl
  clear hx
  have S0 := (GS.start w).box' 25 #[.int .i64 W, .int .i64 H, .int .i64 P, .slice A xs.length c] w.heap.size (by simp)
  go_enter Try.func27, Try.ntmps27
  go_wp2_with fail
  generalize (w.alloc (.cells #[.int .i64 W, .int .i64 H, .int .i64 P, .slice A xs.length c] 25)) = u0 at *
  refine (iVimg_any W H P A c xs u0 (S0.arg HX.out) hl).mono ?_
  rintro e u1 ⟨rfl, hB⟩
  have S1 := S0.call hB
  clear hB S0
  cases hv : vim W H P xs
  · have HF : Hid (vpl W H P xs = false) := Lib.hid (by rw [HV.out, hv]; rfl)
    clear HV hv
    go_wp2
    go_ret
    exact ⟨ret_bool HF.out.symm, S1.below⟩
  · have HF : Hid (vpl W H P xs = decide (P = 1)) := Lib.hid (by rw [HV.out, hv]; rfl)
    clear HV hv
    obtain ⟨b0, b1, b2, b3⟩ := S1.b0_4
    by_cases h1 : P = 1
    all_goals
      go_wp2
      go_ret
      exact ⟨ret_bool (by rw [HF.out]; (first | rfl | (simp [h1]; done))), S1.below⟩
def HisA (xs : List Int) (w : World) (e : Ending) (w' : World) : Prop := e = .returned (.agg (row (hist xs))) ∧ Below w.heap.size w w'
set_option maxHeartbeats 8000000 in
theorem counts_any (W H P : Int) (A : Option Addr) (c : Nat) (xs : List Int) (w : World) (hx : Rds .i64 w w.heap.size A xs) (hl : xs.length ≤ 2000000) (hb : ∀ j, j < xs.length → 0 ≤ xs.getD j 0 ∧ xs.getD j 0 ≤ 255) :
    Calls Try.prog 55 #[.agg #[.int .i64 W, .int .i64 H, .int .i64 P, .slice A xs.length c]] w (HisA xs w) := by
  have HX := Lib.hid hx
  have HB := Lib.hid hb
  clear hx hb
  obtain ⟨hz, hi⟩ := zero_of_info (P := Try.prog) (t := 83) (v := .agg (row (zeros 256))) (n := 256) (by kernel_rfl)
  obtain ⟨Z, hZ⟩ : ∃ Z, Z = row (zeros 256) := ⟨_, rfl⟩
  rw [← hZ] at hz
  have HZ := Lib.hid hZ
  have HI := Lib.hid hi
  clear hZ hi
  have S0 := (((GS.start w).box' 25 #[.int .i64 W, .int .i64 H, .int .i64 P, .slice A xs.length c] w.heap.size (by simp)).box' 83 Z (w.heap.size + 1) (by simp)).box' 83 Z (w.heap.size + 1 + 1) (by simp)
  have HS := Lib.hid S0
  obtain ⟨b0, b1, b2, b3⟩ := S0.b2_4
  clear S0
  go_enter Try.func55, Try.ntmps55
  go_wp2
  generalize ((w.alloc (.cells #[.int .i64 W, .int .i64 H, .int .i64 P, .slice A xs.length c] 25)).alloc (.cells Z 83)).alloc (.cells Z 83) = u0 at *
  obtain ⟨q, hq⟩ : ∃ q, q = w.heap.size + 1 + 1 := ⟨_, rfl⟩
  rw [← hq] at HS ⊢
  have Hq := Lib.hid hq
  have H0 : Hid (GS w u0 [] (⟨q, 83, row (hist (xs.take 0))⟩ :: ⟨w.heap.size + 1, 83, Z⟩ :: ⟨w.heap.size, 25, #[.int .i64 W, .int .i64 H, .int .i64 P, .slice A xs.length c]⟩ :: [])) := Lib.hid (by rw [List.take_zero, hist_nil]; have := HS.out; rw [HZ.out] at this ⊢; exact this)
  clear HS b0 b1 b2 b3 hz hq
  go_loopw [9] (fun i wr => ∃ j : Nat, j ≤ xs.length ∧ i = .int .i64 j ∧ Hid (GS w wr [] (⟨q, 83, row (hist (xs.take j))⟩ :: ⟨w.heap.size + 1, 83, Z⟩ :: ⟨w.heap.size, 25, #[.int .i64 W, .int .i64 H, .int .i64 P, .slice A xs.length c]⟩ :: []))) (fun i _ => xs.length - (intOf i).toNat)
  case atStart => exact ⟨0, Nat.zero_le _, rfl, H0⟩
  case round =>
    clear H0
    obtain ⟨j, hj, rfl, hI⟩ := hrel
    by_cases hlt : j < xs.length
    · have hbj := HB.out j hlt
      obtain ⟨n, hne⟩ : ∃ n : Nat, xs.getD j 0 = n := ⟨(xs.getD j 0).toNat, by omega⟩
      obtain ⟨b, off, rfl, hb1, hc⟩ := (hI.out.arg HX.out).cells_ hlt
      have hcj := hc j hlt
      rw [hne] at hcj hbj
      have hn6 : n < 256 := by omega
      have hcw := (hI.out.blk (List.Mem.head _)).cell (i := n) (by rw [hist_len]; exact hn6)
      have hfw := (hI.out.blk (List.Mem.head _)).frozen n
      have HN := Lib.hid (hI.out.setB n ((hist (xs.take j)).getD n 0 + 1))
      have hbd := hist_bd (xs.take j) n
      have htl : (xs.take j).length = j := by simp; omega
      rw [htl] at hbd
      have HE : Hid ((hist (xs.take j)).set n ((hist (xs.take j)).getD n 0 + 1) = hist (xs.take (j + 1))) := Lib.hid (by rw [take_snoc xs j hlt, hne]; exact hist_step _ n hn6)
      rw [HE.out] at HN
      clear hc hI htl HE hne
      generalize (hist (xs.take j)).getD n 0 = y at *
      go_wp2
      go_roundw
      case rel => exact ⟨j + 1, by omega, by go_num, HN⟩
      case measure => simp [intOf]; omega
    · have hj' : j = xs.length := by omega
      have e : xs.take j = xs := by subst hj'; exact List.take_length
      rw [e] at hI
      clear e hj'
      have h0 := hI.out.bx (List.Mem.head _)
      have hsz : (row (hist xs)).size = 256 := by rw [row_size, hist_len]
      have hZs : Z.size = 256 := by rw [HZ.out, row_size, zeros_len]
      have H0 := Lib.hid h0
      have Hz := Lib.hid (show (Try.prog.info? 83).map (·.size) = some (row (hist xs)).size by rw [hsz]; exact HI.out)
      have hst := run_storeCells_row (xs := hist xs) (hI.out.bx (List.mem_cons_of_mem _ (List.Mem.head _))) (by rw [hist_len, hZs])
      have HE := Lib.hid (hI.out.swap.setRow (row (hist xs)))
      clear h0 hsz hZs hI
      go_wp2
      refine wp_load_row 83 (.tmp 3) rfl q rfl 83 (row (hist xs)) (0, 0) _ H0.out Try.underlying83 rfl Hz.out ?_
      go_at_K
      go_wp2
      refine bodyPost_ret (v := .agg (row (hist xs))) (results_cell_row Try.results55 _ _ (w.heap.size + 1) 83 _ (0, 0) _ rfl (HE.out.bx (List.Mem.head _)) Try.underlying83 rfl Hz.out) rfl ⟨rfl, HE.out.below⟩
end Go.Proofs.Ytjcohmljpokgcaa
namespace Go.Proofs.Ytjcohmljpokgcaa
set_option linter.unusedSimpArgs false
set_option linter.unusedVariables false

def mx (xs : List Int) : Nat → Int
  | 0 => xs.getD 0 0
  | k + 1 => max (mx xs k) (xs.getD k 0)
theorem mx_one (xs : List Int) : mx xs 1 = xs.getD 0 0 := by show max (xs.getD 0 0) (xs.getD 0 0) = _; omega
theorem mx_ge (xs : List Int) : ∀ k j, j < k → xs.getD j 0 ≤ mx xs k
  | 0, j, h => by omega
  | k + 1, j, h => by
    show _ ≤ max (mx xs k) (xs.getD k 0)
    by_cases e : j = k
    · subst e; omega
    · have := mx_ge xs k j (by omega); omega
theorem mx_in (xs : List Int) (h0 : 0 < xs.length) : ∀ k, k ≤ xs.length → ∃ j, j < xs.length ∧ mx xs k = xs.getD j 0
  | 0, _ => ⟨0, h0, rfl⟩
  | k + 1, h => by
    obtain ⟨j, hj, e⟩ := mx_in xs h0 k (by omega)
    by_cases c : mx xs k ≤ xs.getD k 0
    · exact ⟨k, by omega, by show max (mx xs k) (xs.getD k 0) = _; omega⟩
    · exact ⟨j, hj, by show max (mx xs k) (xs.getD k 0) = _; omega⟩
theorem mx_bd (xs : List Int) (h0 : 0 < xs.length) (hb : ∀ j, j < xs.length → 0 ≤ xs.getD j 0 ∧ xs.getD j 0 ≤ 255) (k : Nat) (h : k ≤ xs.length) : 0 ≤ mx xs k ∧ mx xs k ≤ 255 := by
  obtain ⟨j, hj, e⟩ := mx_in xs h0 k h
  rw [e]; exact hb j hj
def tp (xs : List Int) : Nat := (mx xs xs.length).toNat
theorem mem_getD {xs : List Int} {x : Int} (h : x ∈ xs) : ∃ j, j < xs.length ∧ xs.getD j 0 = x := by
  obtain ⟨j, hj, e⟩ := List.mem_iff_getElem.1 h
  exact ⟨j, hj, by simp [hj, e]⟩
section
variable {xs : List Int} (h0 : 0 < xs.length) (hb : ∀ j, j < xs.length → 0 ≤ xs.getD j 0 ∧ xs.getD j 0 ≤ 255)
include h0 hb
theorem tp_bd : tp xs ≤ 255 := by have := mx_bd xs h0 hb xs.length (Nat.le_refl _); unfold tp; omega
theorem tp_eq : (tp xs : Int) = mx xs xs.length := by have := mx_bd xs h0 hb xs.length (Nat.le_refl _); unfold tp; omega
theorem tp_ge {x : Int} (h : x ∈ xs) : x ≤ tp xs := by
  obtain ⟨j, hj, rfl⟩ := mem_getD h
  rw [tp_eq h0 hb]
  exact mx_ge xs _ j hj
theorem tp_mem : (tp xs : Int) ∈ xs := by
  obtain ⟨j, hj, e⟩ := mx_in xs h0 xs.length (Nat.le_refl _)
  rw [tp_eq h0 hb, e]
  simp [hj]
omit h0 in
theorem pos_mem {x : Int} (h : x ∈ xs) : 0 ≤ x := by
  obtain ⟨j, hj, rfl⟩ := mem_getD h
  exact (hb j hj).1
theorem tp_cnt : 0 < (hist xs).getD (tp xs) 0 := by
  rw [hist_get xs (show tp xs < 256 by have := tp_bd h0 hb; omega)]
  have := List.count_pos_iff.2 (tp_mem h0 hb)
  omega
theorem no_cnt {n : Nat} (h : tp xs < n) (h2 : n < 256) : (hist xs).getD n 0 = 0 := by
  rw [hist_get xs h2, List.count_eq_zero.2]
  · rfl
  · intro hm; have := tp_ge h0 hb hm; omega
def oth (xs : List Int) : Int := sm (hist xs) (tp xs)
theorem oth_eq : oth xs = xs.length - (hist xs).getD (tp xs) 0 := by
  have ht := tp_bd h0 hb
  have h1 := sm_hist xs (fun x => pos_mem hb) (tp xs) (by omega)
  have h2 := countP_next (tp xs) xs (fun x => pos_mem hb)
  have h3 : xs.countP (fun x => decide (x < ((tp xs + 1 : Nat) : Int))) = xs.length := List.countP_eq_length.2 fun x hx => by have := tp_ge h0 hb hx; simp; omega
  rw [hist_get xs (show tp xs < 256 by omega)]
  unfold oth
  omega
omit h0 in
theorem sm_mono {a b : Nat} (h : a ≤ b) (hb' : b ≤ 256) : sm (hist xs) a ≤ sm (hist xs) b := by
  rw [sm_hist xs (fun x => pos_mem hb) a (by omega), sm_hist xs (fun x => pos_mem hb) b hb']
  have := List.countP_mono_left (l := xs) (p := fun x => decide (x < (a : Int))) (q := fun x => decide (x < (b : Int))) (fun x hx => by simp; omega)
  omega
omit h0 in
theorem sm_le {a : Nat} (h : a ≤ 256) : 0 ≤ sm (hist xs) a ∧ sm (hist xs) a ≤ xs.length := by
  rw [sm_hist xs (fun x => pos_mem hb) a h]
  have := List.countP_le_length (l := xs) (p := fun x => decide (x < (a : Int)))
  omega
theorem oth_bd : 0 ≤ oth xs ∧ oth xs ≤ xs.length := sm_le hb (by have := tp_bd h0 hb; omega)
end
def eqF (xs : List Int) (n : Int) : Int := if oth xs = 0 then n else 255 * sm (hist xs) n.toNat / oth xs
def eqL (xs : List Int) : List Int := xs.map (eqF xs)
def tbF (xs : List Int) (n : Nat) : Int := min 255 (255 * sm (hist xs) n / oth xs)
def tbL (xs : List Int) (k : Nat) : List Int := (List.range k).map (tbF xs)
theorem tbL_len (xs : List Int) (k : Nat) : (tbL xs k).length = k := by simp [tbL]
theorem tbL_next (xs : List Int) (k : Nat) : tbL xs (k + 1) = tbL xs k ++ [tbF xs k] := by simp [tbL, List.range_succ]
theorem tbL_get (xs : List Int) {n : Nat} (h : n < 256) : (tbL xs 256).getD n 0 = tbF xs n := by simp [tbL, h]
section
variable {xs : List Int} (h0 : 0 < xs.length) (hb : ∀ j, j < xs.length → 0 ≤ xs.getD j 0 ∧ xs.getD j 0 ≤ 255)
include h0 hb
theorem tb_eq {x : Int} (hx : x ∈ xs) (hn : ¬ oth xs = 0) : tbF xs x.toNat = eqF xs x := by
  unfold tbF eqF
  rw [if_neg hn]
  have ho := oth_bd h0 hb
  have hp := pos_mem hb hx
  have ht := tp_ge h0 hb hx
  have hm := sm_mono hb (a := x.toNat) (b := tp xs) (by omega) (by have := tp_bd h0 hb; omega)
  have : 255 * sm (hist xs) x.toNat / oth xs ≤ 255 := by
    refine Int.ediv_le_of_le_mul (by omega) ?_
    have : 255 * sm (hist xs) x.toNat ≤ 255 * oth xs := Int.mul_le_mul_of_nonneg_left hm (by omega)
    omega
  omega
theorem eqF_bd {x : Int} (hx : x ∈ xs) : 0 ≤ eqF xs x ∧ eqF xs x ≤ 255 := by
  by_cases hn : oth xs = 0
  · unfold eqF
    rw [if_pos hn]
    obtain ⟨j, hj, rfl⟩ := mem_getD hx
    exact hb j hj
  · rw [← tb_eq h0 hb hx hn]
    have ho := oth_bd h0 hb
    have hs := sm_le hb (a := x.toNat) (by obtain ⟨j, hj, rfl⟩ := mem_getD hx; have := hb j hj; omega)
    have : 0 ≤ 255 * sm (hist xs) x.toNat / oth xs := Int.ediv_nonneg (by omega) (by omega)
    unfold tbF
    omega
end
def lastOf (xs : List Int) : Nat → Nat
  | 0 => 0
  | n + 1 => if 0 < (hist xs).getD n 0 then n else lastOf xs n
theorem lastOf_le (xs : List Int) : ∀ n, lastOf xs n ≤ n
  | 0 => Nat.le_refl _
  | n + 1 => by
    show (if 0 < (hist xs).getD n 0 then n else lastOf xs n) ≤ n + 1
    have := lastOf_le xs n
    by_cases h : 0 < (hist xs).getD n 0
    · rw [if_pos h]; omega
    · rw [if_neg h]; omega
theorem lastOf_all {xs : List Int} (h0 : 0 < xs.length) (hb : ∀ j, j < xs.length → 0 ≤ xs.getD j 0 ∧ xs.getD j 0 ≤ 255) : ∀ n, tp xs < n → n ≤ 256 → lastOf xs n = tp xs
  | 0, h, _ => by omega
  | n + 1, h, h2 => by
    show (if 0 < (hist xs).getD n 0 then n else lastOf xs n) = _
    by_cases e : n = tp xs
    · rw [if_pos (by rw [e]; exact tp_cnt h0 hb), e]
    · rw [if_neg (by rw [no_cnt h0 hb (n := n) (by omega) (by omega)]; omega)]
      exact lastOf_all h0 hb n (by omega) (by omega)
def lsL (xs : List Int) (k : Nat) : List Int := (List.range k).map (fun n => sm (hist xs) n)
theorem lsL_len (xs : List Int) (k : Nat) : (lsL xs k).length = k := by simp [lsL]
theorem lsL_get (xs : List Int) {n k : Nat} (h : n < k) : (lsL xs k).getD n 0 = sm (hist xs) n := by simp [lsL, h]
theorem lsL_next (xs : List Int) (k : Nat) : lsL xs (k + 1) = lsL xs k ++ [sm (hist xs) k] := by simp [lsL, List.range_succ]
end Go.Proofs.Ytjcohmljpokgcaa
namespace Go.Proofs.Ytjcohmljpokgcaa
open Go.RowKit Go.Shelf
set_option linter.unusedSimpArgs false
set_option linter.unusedVariables false
set_option maxRecDepth 20000

theorem lsZ_get (xs : List Int) (k m : Nat) : (lsL xs (k + 1) ++ zeros m).getD k 0 = sm (hist xs) k := by
  rw [List.getD_eq_getElem?_getD, List.getElem?_append_left (by rw [lsL_len]; omega), ← List.getD_eq_getElem?_getD, lsL_get xs (by omega)]
theorem lsZ_one (xs : List Int) : lsL xs 1 ++ zeros 255 = zeros 256 := by
  show [sm (hist xs) 0] ++ List.replicate 255 0 = List.replicate 256 0
  rw [show (256 : Nat) = 255 + 1 from rfl, List.replicate_succ]
  rfl
theorem lsZ_set (xs : List Int) (k m : Nat) (hm : 0 < m) : (lsL xs (k + 1) ++ zeros m).set (k + 1) (sm (hist xs) k + (hist xs).getD k 0) = lsL xs (k + 1 + 1) ++ zeros (m - 1) := by
  rw [set_nxt _ _ _ _ hm (lsL_len _ _).symm, lsL_next xs (k + 1)]
  rfl
set_option maxHeartbeats 8000000 in
theorem belowT_any (xs : List Int) (hb : ∀ j, j < xs.length → 0 ≤ xs.getD j 0 ∧ xs.getD j 0 ≤ 255) (hl : xs.length ≤ 2000000) (w : World) :
    Calls Try.prog 56 #[.agg (row (hist xs))] w fun e w' => e = .returned (.agg (row (lsL xs 256))) ∧ Below w.heap.size w w' := by
  have HSM : Hid (∀ a : Nat, a ≤ 256 → 0 ≤ sm (hist xs) a ∧ sm (hist xs) a ≤ xs.length) := Lib.hid (fun a h => sm_le hb h)
  obtain ⟨hz, hi⟩ := zero_of_info (P := Try.prog) (t := 83) (v := .agg (row (zeros 256))) (n := 256) (by kernel_rfl)
  obtain ⟨Z, hZ⟩ : ∃ Z, Z = row (zeros 256) := ⟨_, rfl⟩
  rw [← hZ] at hz
  obtain ⟨C, hC⟩ : ∃ C, C = row (hist xs) := ⟨_, rfl⟩
  rw [← hC]
  have HZ := Lib.hid hZ
  have HI := Lib.hid hi
  have HC := Lib.hid hC
  clear hZ hi hC hb
  have S0 := (((GS.start w).box' 83 C w.heap.size (by simp)).box' 83 Z (w.heap.size + 1) (by simp)).box' 83 Z (w.heap.size + 1 + 1) (by simp)
  have HS := Lib.hid S0
  clear S0
  go_enter Try.func56, Try.ntmps56
  go_wp2
  generalize ((w.alloc (.cells C 83)).alloc (.cells Z 83)).alloc (.cells Z 83) = u0 at *
  obtain ⟨q, hq⟩ : ∃ q, q = w.heap.size + 1 + 1 := ⟨_, rfl⟩
  rw [← hq] at HS ⊢
  have H0 : Hid (GS w u0 [] (⟨q, 83, row (lsL xs (0 + 1) ++ zeros (255 - 0))⟩ :: ⟨w.heap.size + 1, 83, Z⟩ :: ⟨w.heap.size, 83, row (hist xs)⟩ :: [])) := Lib.hid (by
    have := HS.out
    rw [HC.out] at this
    rw [show lsL xs (0 + 1) ++ zeros (255 - 0) = zeros 256 from lsZ_one xs, ← HZ.out]
    exact this)
  clear HS hz hq HC
  go_loopw [5] (fun i wr => ∃ k : Nat, k ≤ 255 ∧ i = .int .i64 k ∧ Hid (GS w wr [] (⟨q, 83, row (lsL xs (k + 1) ++ zeros (255 - k))⟩ :: ⟨w.heap.size + 1, 83, Z⟩ :: ⟨w.heap.size, 83, row (hist xs)⟩ :: []))) (fun i _ => 255 - (intOf i).toNat)
  case atStart => exact ⟨0, Nat.zero_le _, rfl, H0⟩
  case round =>
    clear H0
    obtain ⟨k, hk, rfl, hI⟩ := hrel
    by_cases hlt : k < 255
    · have c1 := (hI.out.blk (List.Mem.head _)).cell (i := k) (by rw [List.length_append, lsL_len]; omega)
      rw [lsZ_get] at c1
      have c2 := (hI.out.blk (List.mem_cons_of_mem _ (List.mem_cons_of_mem _ (List.Mem.head _)))).cell (i := k) (by rw [hist_len]; omega)
      have c3 := (hI.out.blk (List.Mem.head _)).cell (i := k + 1) (by rw [List.length_append, lsL_len]; simp [zeros]; omega)
      have f3 := (hI.out.blk (List.Mem.head _)).frozen (k + 1)
      have HN := Lib.hid (hI.out.drew.setB (k + 1) (sm (hist xs) k + (hist xs).getD k 0))
      rw [lsZ_set xs k _ (by omega), show 255 - k - 1 = 255 - (k + 1) by omega] at HN
      have b1 := HSM.out k (by omega)
      have b2 := HSM.out (k + 1) (by omega)
      rw [show sm (hist xs) (k + 1) = sm (hist xs) k + (hist xs).getD k 0 from rfl] at b2
      have hq0 := hI.out.l0
      have hq2 := hI.out.l2
      clear hI
      generalize sm (hist xs) k = a at *
      generalize (hist xs).getD k 0 = b at *
      generalize List.getD (lsL xs (k + 1) ++ zeros (255 - k)) (k + 1) 0 = z at *
      have hw1 : IntKind.i64.wrap (a + b) = a + b := IntWalk.i64_in _ (by omega)
      go_wp2
      go_region
      all_goals
        (try go_wp2)
        go_roundw
        case rel => exact ⟨k + 1, by omega, by go_num, HN⟩
        case measure => simp [intOf]; omega
    · have hk' : k = 255 := by omega
      have e : lsL xs (k + 1) ++ zeros (255 - k) = lsL xs 256 := by subst hk'; simp [zeros]
      rw [e] at hI
      clear e hk'
      have h0 := hI.out.bx (List.Mem.head _)
      have hsz : (row (lsL xs 256)).size = 256 := by rw [row_size, lsL_len]
      have hZs : Z.size = 256 := by rw [HZ.out, row_size, zeros_len]
      have H0 := Lib.hid h0
      have Hz := Lib.hid (show (Try.prog.info? 83).map (·.size) = some (row (lsL xs 256)).size by rw [hsz]; exact HI.out)
      have hst := run_storeCells_row (xs := lsL xs 256) (hI.out.bx (List.mem_cons_of_mem _ (List.Mem.head _))) (by rw [lsL_len, hZs])
      have HE := Lib.hid (hI.out.swap.setRow (row (lsL xs 256)))
      clear h0 hsz hZs hI
      go_wp2
      refine wp_load_row 83 (.tmp 3) rfl q rfl 83 (row (lsL xs 256)) (0, 0) _ H0.out Try.underlying83 rfl Hz.out ?_
      go_at_K
      go_wp2
      refine bodyPost_ret (v := .agg (row (lsL xs 256))) (results_cell_row Try.results56 _ _ (w.heap.size + 1) 83 _ (0, 0) _ rfl (HE.out.bx (List.Mem.head _)) Try.underlying83 rfl Hz.out) rfl ⟨rfl, HE.out.below⟩
set_option maxHeartbeats 4000000 in
theorem smax_any (A : Option Addr) (c : Nat) (xs : List Int) (w : World) (h0 : 0 < xs.length) (hx : Rds .i64 w w.heap.size A xs) (hl : xs.length ≤ 2000000) (hb : ∀ j, j < xs.length → 0 ≤ xs.getD j 0 ∧ xs.getD j 0 ≤ 255) :
    Calls Try.prog 28 #[.slice A xs.length c] w fun e w' => e = .returned (.int .i64 (mx xs xs.length)) ∧ w' = w := by
  have HX := Lib.hid hx
  have HB := Lib.hid hb
  have H1 : Hid (mx xs 1 = xs.getD 0 0) := Lib.hid (mx_one xs)
  have HMB : Hid (∀ k, k ≤ xs.length → 0 ≤ mx xs k ∧ mx xs k ≤ 255) := Lib.hid (mx_bd xs h0 hb)
  obtain ⟨b, off, rfl, hb1, hc⟩ := hx.cells_ h0
  have hc0 := hc 0 h0
  rw [← H1.out, Nat.add_zero] at hc0
  have hlen : ¬ (xs.length : Int) < 1 := by omega
  have HC := Lib.hid hc
  clear hx hb hc
  go_enter Try.func28, Try.ntmps28
  go_wp2
  clear hc0
  go_loopw [3, 4] (fun m i wr => ∃ k : Nat, 1 ≤ k ∧ k ≤ xs.length ∧ i = .int .i64 k ∧ m = .int .i64 (mx xs k) ∧ wr = w) (fun _ i _ => xs.length - (intOf i).toNat)
  case atStart => exact ⟨1, Nat.le_refl _, h0, rfl, rfl, rfl⟩
  case round =>
    obtain ⟨k, hk1, hk, rfl, rfl, rfl⟩ := hrel
    by_cases hlt : k < xs.length
    · have hck := HC.out k hlt
      have hb1 := HMB.out k hk
      have hb2 := HB.out k hlt
      have HE : Hid (mx xs (k + 1) = max (mx xs k) (xs.getD k 0)) := Lib.hid rfl
      generalize xs.getD k 0 = y at *
      generalize mx xs k = T at *
      by_cases hm : y ≤ T
      · have e : max T y = T := by omega
        rw [e] at HE
        go_wp2
        go_roundw
        case rel => exact ⟨k + 1, by omega, by omega, by go_num, by rw [HE.out] <;> go_num, by trivial⟩
        case measure => simp [intOf]; omega
      · have e : max T y = y := by omega
        rw [e] at HE
        go_wp2
        go_roundw
        case rel => exact ⟨k + 1, by omega, by omega, by go_num, by rw [HE.out] <;> go_num, by trivial⟩
        case measure => simp [intOf]; omega
    · have hk' : k = xs.length := by omega
      have HK : Hid (mx xs k = mx xs xs.length) := Lib.hid (by rw [hk'])
      clear hk'
      go_wp2
      go_ret
      exact ⟨ret_int HK.out, rfl⟩
set_option maxHeartbeats 4000000 in
theorem i_Equ1 (x : Int) (w : World) : Calls Try.prog 58 (#[.int .i64 x] ++ #[]) w fun e w' => e = .returned (.int .i64 x) ∧ Below w.heap.size w w' := by
  show Calls Try.prog 58 #[.int .i64 x] w _
  go_enter Try.func58, Try.ntmps58
  go_wp2
  go_ret
  exact ⟨rfl, Below.refl _ _⟩
set_option maxHeartbeats 4000000 in
theorem i_Equ2 (n : Nat) (xs : List Int) (hn : n < 256) (hl : xs.length ≤ 2000000) (hs : 0 ≤ sm (hist xs) n ∧ sm (hist xs) n ≤ xs.length) (o : Int) (ho : 0 < o) (ho2 : o ≤ xs.length) (p r : Nat) (w : World) (hp : BlkT 83 w p (lsL xs 256)) (hr : w.cell? ⟨r, 0, none⟩ = some (.int .i64 o)) :
    Calls Try.prog 59 (#[.int .i64 (n : Int)] ++ #[.pointer (some ⟨p, 0, none⟩), .pointer (some ⟨r, 0, none⟩)]) w fun e w' => e = .returned (.int .i64 (255 * sm (hist xs) n / o)) ∧ Below w.heap.size w w' := by
  have hc := hp.cell (i := n) (by rw [lsL_len]; exact hn)
  rw [lsL_get xs hn] at hc
  clear hp
  obtain ⟨s0, s1⟩ := hs
  generalize sm (hist xs) n = s at *
  have hw1 : IntKind.i64.wrap (255 * s) = 255 * s := IntWalk.i64_in _ (by omega)
  have hd : (255 * s).tdiv o = 255 * s / o := Int.tdiv_eq_ediv_of_nonneg (by omega)
  have hd0 : 0 ≤ 255 * s / o := Int.ediv_nonneg (by omega) (by omega)
  have hd1 : 255 * s / o ≤ 255 * s := Int.ediv_le_self _ (by omega)
  have hw2 : IntKind.i64.wrap ((255 * s).tdiv o) = 255 * s / o := by rw [hd]; exact IntWalk.i64_in _ (by omega)
  have hne : ¬ o = 0 := by omega
  have hn3 : (n : Int) < 256 := by omega
  show Calls Try.prog 59 #[.int .i64 (n : Int), .pointer (some ⟨p, 0, none⟩), .pointer (some ⟨r, 0, none⟩)] w _
  go_enter Try.func59, Try.ntmps59
  go_wp2
  go_quiet (fail)
  go_wp2
  go_ret
  exact ⟨rfl, below_dm (Below.refl _ _) _⟩
end Go.Proofs.Ytjcohmljpokgcaa
namespace Go.Proofs.Ytjcohmljpokgcaa
open Go.RowKit Go.Shelf
set_option linter.unusedSimpArgs false
set_option linter.unusedVariables false
set_option maxRecDepth 20000

theorem GS.argSS2 {W0 w : World} {L : List Rg} {Bs : List Bxg} (h : GS W0 w L Bs) {A : Option Addr} {xss : List (List Int)} (hr : Rdss W0 W0.heap.size A xss) : Rdss w w.heap.size A xss := (hr.below h.1).more h.1.size
set_option maxHeartbeats 16000000 in
theorem iCo1_any (W H n : Nat) (hn : W * H = n) (hW : W ≤ 16) (hH : H ≤ 16) (A : Option Addr) (c : Nat) (f : Nat → Nat → Int) (hc : n ≤ c) (A6 : Option Addr) (n2 c6 : Nat) (xss : List (List Int)) (x y : Nat) (hx : x < W) (hy : y < H) (vn : Nat) (hvn : f x y = (vn : Int)) (hv2 : vn < n2) (pc pg : Nat) (w : World) (hr : Rds .i64 w w.heap.size A (grN W H f)) (hr6 : Rds .i64 w w.heap.size A6 (clr xss n2))
    (hpc : Bx w pc 50 #[.slice A6 n2 c6]) (hpg : Bx w pg 55 #[.int .i64 (W : Int), .int .i64 (H : Int), .slice A n c]) :
    Calls Try.prog 32 (#[.int .i64 (x : Int), .int .i64 (y : Int)] ++ #[.pointer (some ⟨pc, 0, none⟩), .pointer (some ⟨pg, 0, none⟩)]) w fun e w' => e = .returned (colV (fun p => (xss.getD vn []).getD p 0)) ∧ Below w.heap.size w w' := by
  obtain ⟨b6, off6, rfl, hb6, hc6⟩ := hr6.cells_ (j := vn * 4) (by rw [clr_len]; omega)
  obtain ⟨k0, k1, k2, k3⟩ := clr_cells hc6 hv2
  have Hvn := Lib.hid hvn
  have Hn := Lib.hid hn
  have HY := Lib.hid (show colV (fun p => (xss.getD vn []).getD p 0) = .agg #[.int .i64 ((xss.getD vn []).getD 0 0), .int .i64 ((xss.getD vn []).getD 1 0), .int .i64 ((xss.getD vn []).getD 2 0), .int .i64 ((xss.getD vn []).getD 3 0)] from rfl)
  rw [HY.out]
  generalize (xss.getD vn []).getD 0 0 = y0 at *
  generalize (xss.getD vn []).getD 1 0 = y1 at *
  generalize (xss.getD vn []).getD 2 0 = y2 at *
  generalize (xss.getD vn []).getD 3 0 = y3 at *
  have HR := Lib.hid hr
  have HPC := Lib.hid hpc
  have HPG := Lib.hid hpg
  have HK := Lib.hid (And.intro k0 (And.intro k1 (And.intro k2 k3)))
  have hpcl0 := hpc.lt
  have hpgl0 := hpg.lt
  clear hvn hn hr hr6 hpc hpg hc6 k0 k1 k2 k3 HY
  show Calls Try.prog 32 #[.int .i64 (x : Int), .int .i64 (y : Int), .pointer (some ⟨pc, 0, none⟩), .pointer (some ⟨pg, 0, none⟩)] w _
  go_enter Try.func32, Try.ntmps32
  go_wp2
  have hB0 : Below w.heap.size w (w.alloc (.cells #[.int .i64 0, .int .i64 0, .int .i64 0, .int .i64 0] 62)) := (Below.refl _ _).alloc (Nat.le_refl _) _
  have HXu := Lib.hid (show Bx (w.alloc (.cells #[.int .i64 0, .int .i64 0, .int .i64 0, .int .i64 0] 62)).drew w.heap.size 62 #[.int .i64 0, .int .i64 0, .int .i64 0, .int .i64 0] from Bx.new w _ _)
  have HBu := Lib.hid hB0.drew
  have HRu := Lib.hid ((HR.out.below hB0.drew).more hB0.drew.size)
  have qa := (hB0.drew.cell (p := ⟨pc, 0, none⟩) hpcl0).trans (bx1 HPC.out)
  have qg0 := (hB0.drew.cell (p := ⟨pg, 0, none⟩) hpgl0).trans (bx3 HPG.out).1
  have qg1 := (hB0.drew.cell (p := ⟨pg, 1, none⟩) hpgl0).trans (bx3 HPG.out).2.1
  have qg2 := (hB0.drew.cell (p := ⟨pg, 2, none⟩) hpgl0).trans (bx3 HPG.out).2.2
  have qy0 := (hB0.drew.cell (p := ⟨b6, off6 + vn * 4, none⟩) hb6).trans HK.out.1
  have qy1 := (hB0.drew.cell (p := ⟨b6, off6 + vn * 4 + 1, none⟩) hb6).trans HK.out.2.1
  have qy2 := (hB0.drew.cell (p := ⟨b6, off6 + vn * 4 + 2, none⟩) hb6).trans HK.out.2.2.1
  have qy3 := (hB0.drew.cell (p := ⟨b6, off6 + vn * 4 + 3, none⟩) hb6).trans HK.out.2.2.2
  have hne1 : pc ≠ w.heap.size := Nat.ne_of_lt hpcl0
  have hne2 : pg ≠ w.heap.size := Nat.ne_of_lt hpgl0
  have hne3 : b6 ≠ w.heap.size := Nat.ne_of_lt hb6
  have hpcl : pc < (w.alloc (.cells #[.int .i64 0, .int .i64 0, .int .i64 0, .int .i64 0] 62)).drew.heap.size := Nat.lt_of_lt_of_le hpcl0 hB0.drew.size
  have hpgl : pg < (w.alloc (.cells #[.int .i64 0, .int .i64 0, .int .i64 0, .int .i64 0] 62)).drew.heap.size := Nat.lt_of_lt_of_le hpgl0 hB0.drew.size
  have hb6u : b6 < (w.alloc (.cells #[.int .i64 0, .int .i64 0, .int .i64 0, .int .i64 0] 62)).drew.heap.size := Nat.lt_of_lt_of_le hb6 hB0.drew.size
  clear hB0 HR HPC HPG HK
  generalize w.alloc (.cells #[.int .i64 0, .int .i64 0, .int .i64 0, .int .i64 0] 62) = u at *
  refine wp_region_held_drew (S := (fun w' => w'.cell? ⟨pc, 0, none⟩ = some (.slice (some ⟨b6, off6, none⟩) n2 c6) ∧ w'.cell? ⟨pg, 0, none⟩ = some (.int .i64 (W : Int)) ∧ w'.cell? ⟨pg, 1, none⟩ = some (.int .i64 (H : Int)) ∧ w'.cell? ⟨pg, 2, none⟩ = some (.slice A n c) ∧ w'.cell? ⟨b6, off6 + vn * 4, none⟩ = some (.int .i64 y0) ∧ w'.cell? ⟨b6, off6 + vn * 4 + 1, none⟩ = some (.int .i64 y1) ∧ w'.cell? ⟨b6, off6 + vn * 4 + 2, none⟩ = some (.int .i64 y2) ∧ w'.cell? ⟨b6, off6 + vn * 4 + 3, none⟩ = some (.int .i64 y3))) (by kernel_rfl) (by exact ⟨qa, qg0, qg1, qg2, qy0, qy1, qy2, qy3⟩) (fun hHeld => ?_)
  refine' wpAnyH_take (i := 0) (oi := _) (v := _) ?hi1 (by kernel_rfl) (by kernel_rfl) (by kernel_rfl) ?hq1 (Or.inl ⟨?hw1, ?hy1⟩) (by assumption) ?rest1
  case hi1 => (simp only [List.getElem?_toArray, List.getElem?_cons_succ, List.getElem?_cons_zero]; rfl)
  case hq1 => exact fun _ _ _ h => h
  case hw1 => rfl
  case hy1 => (intro wq hSw; (try dsimp only at hSw); go_simp; (try with_reducible rfl))
  (try simp only [Act.put, List.setIfInBounds_toArray, List.set_cons_zero, List.set_cons_succ])
  refine' wpAnyH_take (i := 1) (oi := _) (v := _) ?hi2 (by kernel_rfl) (by kernel_rfl) (by kernel_rfl) ?hq2 (Or.inl ⟨?hw2, ?hy2⟩) (by assumption) ?rest2
  case hi2 => (simp only [List.getElem?_toArray, List.getElem?_cons_succ, List.getElem?_cons_zero]; rfl)
  case hq2 => exact fun _ _ _ h => h
  case hw2 => rfl
  case hy2 => (intro wq hSw; (try dsimp only at hSw); go_simp; (try with_reducible rfl))
  (try simp only [Act.put, List.setIfInBounds_toArray, List.set_cons_zero, List.set_cons_succ])
  refine' wpAnyH_take (i := 2) (oi := _) (v := _) ?hi3 (by kernel_rfl) (by kernel_rfl) (by kernel_rfl) ?hq3 (Or.inl ⟨?hw3, ?hy3⟩) (by assumption) ?rest3
  case hi3 => (simp only [List.getElem?_toArray, List.getElem?_cons_succ, List.getElem?_cons_zero]; rfl)
  case hq3 => exact fun _ _ _ h => h
  case hw3 => rfl
  case hy3 => (intro wq hSw; (try dsimp only at hSw); go_simp; (try with_reducible rfl))
  (try simp only [Act.put, List.setIfInBounds_toArray, List.set_cons_zero, List.set_cons_succ])
  refine' wpAnyH_take (i := 3) (oi := _) (v := _) ?hi4 (by kernel_rfl) (by kernel_rfl) (by kernel_rfl) ?hq4 (Or.inl ⟨?hw4, ?hy4⟩) (by assumption) ?rest4
  case hi4 => (simp only [List.getElem?_toArray, List.getElem?_cons_succ, List.getElem?_cons_zero]; rfl)
  case hq4 => exact fun _ _ _ h => h
  case hw4 => rfl
  case hy4 => (intro wq hSw; (try dsimp only at hSw); go_simp; (try with_reducible rfl))
  (try simp only [Act.put, List.setIfInBounds_toArray, List.set_cons_zero, List.set_cons_succ])
  refine wpAnyH_ready (rs := [4]) (by kernel_rfl) (by simp) ?_
  refine' AllReadyH.cons (o := _) ?hi5 (fun K hK => ?rest5) AllReadyH.nil
  case hi5 => (simp only [List.getElem?_toArray, List.getElem?_cons_succ, List.getElem?_cons_zero]; rfl)
  go_simp
  go_at_call 33
  refine (atN_any W H n Hn.out hW hH A c f x y hx hy _ HRu.out hc).mono ?_
  rintro e w3 ⟨rfl, hB3⟩
  rw [Hvn.out]
  have za := (hB3.cell (p := ⟨pc, 0, none⟩) (by exact hpcl)).trans qa
  have zg0 := (hB3.cell (p := ⟨pg, 0, none⟩) (by exact hpgl)).trans qg0
  have zg1 := (hB3.cell (p := ⟨pg, 1, none⟩) (by exact hpgl)).trans qg1
  have zg2 := (hB3.cell (p := ⟨pg, 2, none⟩) (by exact hpgl)).trans qg2
  have zy0 := (hB3.cell (p := ⟨b6, off6 + vn * 4, none⟩) (by exact hb6u)).trans qy0
  have zy1 := (hB3.cell (p := ⟨b6, off6 + vn * 4 + 1, none⟩) (by exact hb6u)).trans qy1
  have zy2 := (hB3.cell (p := ⟨b6, off6 + vn * 4 + 2, none⟩) (by exact hb6u)).trans qy2
  have zy3 := (hB3.cell (p := ⟨b6, off6 + vn * 4 + 3, none⟩) (by exact hb6u)).trans qy3
  have HX3 := Lib.hid (HXu.out.below hB3)
  have HB3 := Lib.hid (HBu.out.trans (hB3.mono HBu.out.size))
  obtain ⟨x0, x1, x2, x3⟩ := bx4 HX3.out
  have xf0 := HX3.out.fz' 0
  have xf1 := HX3.out.fz' 1
  have xf2 := HX3.out.fz' 2
  have xf3 := HX3.out.fz' 3
  clear hB3
  go_wp2_with fail
  refine hK.out _ _ (by (try dsimp only); exact ⟨za, zg0, zg1, zg2, zy0, zy1, zy2, zy3⟩) (fun hHeld => ?_)
  clear hK K
  (try simp only [Act.put, List.setIfInBounds_toArray, List.set_cons_zero, List.set_cons_succ])
  refine' wpAnyH_take (i := 5) (oi := _) (v := _) ?hi6 (by kernel_rfl) (by kernel_rfl) (by kernel_rfl) ?hq6 (Or.inl ⟨?hw6, ?hy6⟩) (by assumption) ?rest6
  case hi6 => (simp only [List.getElem?_toArray, List.getElem?_cons_succ, List.getElem?_cons_zero]; rfl)
  case hq6 => exact fun _ _ _ h => h
  case hw6 => rfl
  case hy6 => (intro wq hSw; (try dsimp only at hSw); go_simp; (try with_reducible rfl))
  (try simp only [Act.put, List.setIfInBounds_toArray, List.set_cons_zero, List.set_cons_succ])
  refine' wpAnyH_take (i := 6) (oi := _) (v := _) ?hi7 (by kernel_rfl) (by kernel_rfl) (by kernel_rfl) ?hq7 (Or.inl ⟨?hw7, ?hy7⟩) (by assumption) ?rest7
  case hi7 => (simp only [List.getElem?_toArray, List.getElem?_cons_succ, List.getElem?_cons_zero]; rfl)
  case hq7 => exact fun _ _ _ h => h
  case hw7 => rfl
  case hy7 => (intro wq hSw; (try dsimp only at hSw); go_simp; (try with_reducible rfl))
  (try simp only [Act.put, List.setIfInBounds_toArray, List.set_cons_zero, List.set_cons_succ])
  refine wpAnyH_ready (rs := [7]) (by kernel_rfl) (by simp) ?_
  refine' AllReadyH.cons (o := _) ?hi8 (fun K hK => ?rest8) AllReadyH.nil
  case hi8 => (simp only [List.getElem?_toArray, List.getElem?_cons_succ, List.getElem?_cons_zero]; rfl)
  go_simp
  refine hK.out _ _ (by (try dsimp only); exact ⟨(sc4 hne1 _ _ _ _).trans za, (sc4 hne2 _ _ _ _).trans zg0, (sc4 hne2 _ _ _ _).trans zg1, (sc4 hne2 _ _ _ _).trans zg2, (sc4 hne3 _ _ _ _).trans zy0, (sc4 hne3 _ _ _ _).trans zy1, (sc4 hne3 _ _ _ _).trans zy2, (sc4 hne3 _ _ _ _).trans zy3⟩) (fun hHeld => ?_)
  clear hK K
  (try simp only [Act.put, List.setIfInBounds_toArray, List.set_cons_zero, List.set_cons_succ])
  refine wpAnyH_done (by kernel_rfl) ?_ _
  clear qa qg0 qg1 qg2 qy0 qy1 qy2 qy3 x0 x1 x2 x3
  have HX4 : Hid (Bx ((((w3.setCell ⟨w.heap.size, 0, none⟩ (.int .i64 y0)).setCell ⟨w.heap.size, 1, none⟩ (.int .i64 y1)).setCell ⟨w.heap.size, 2, none⟩ (.int .i64 y2)).setCell ⟨w.heap.size, 3, none⟩ (.int .i64 y3)) w.heap.size 62 #[.int .i64 y0, .int .i64 y1, .int .i64 y2, .int .i64 y3]) := Lib.hid (by
    have h1 := heap_setCell_same w3 w.heap.size 0 _ _ (.int .i64 y0) HX3.out
    have h2 := heap_setCell_same _ w.heap.size 1 _ _ (.int .i64 y1) h1
    have h3 := heap_setCell_same _ w.heap.size 2 _ _ (.int .i64 y2) h2
    have h4 := heap_setCell_same _ w.heap.size 3 _ _ (.int .i64 y3) h3
    simpa [Bx] using h4)
  obtain ⟨x0, x1, x2, x3⟩ := bx4 HX4.out
  go_wp2
  exact bodyPost_ret (v := .agg #[.int .i64 y0, .int .i64 y1, .int .i64 y2, .int .i64 y3]) (by simp [results, Try.results32, go_sem, x0, x1, x2, x3]) rfl ⟨rfl, by (repeat' (first | (exact HB3.out) | (refine Below.setCell ?_ (by first | omega | (simp; done) | (simp; omega)) _) | (refine below_dn ?_ _) | (refine Below.drew ?_) | (refine Below.alloc ?_ (by first | omega | (simp; done) | (simp; omega)) _) | (exact Below.refl _ _)))⟩
theorem mx_lt {xs : List Int} {n : Int} (h0 : 0 < xs.length) (hb : ∀ j, j < xs.length → 0 ≤ xs.getD j 0 ∧ xs.getD j 0 ≤ 255) : allB 0 (n - 1) xs = !decide (mx xs xs.length ≥ n) := by
  by_cases h : mx xs xs.length ≥ n
  · rw [decide_eq_true h]
    obtain ⟨j, hj, e⟩ := mx_in xs h0 xs.length (Nat.le_refl _)
    exact (allB_no (lo := 0) (hi := n - 1) hj) (by omega)
  · rw [decide_eq_false h]
    exact allB_yes (lo := 0) (hi := n - 1) (fun j hj => by have h1 := hb j hj; have h2 := mx_ge xs xs.length j hj; omega)
set_option maxHeartbeats 16000000 in
theorem i_ColorImage (W H P a : Int) (A : Option Addr) (c : Nat) (xs : List Int) (A2 : Option Addr) (n0 c2 : Nat) (xss : List (List Int)) (w : World) (hx : Rds .i64 w w.heap.size A xs) (hl : xs.length ≤ 2000000) (hlc : xs.length ≤ c) (hs : Rdss w w.heap.size A2 xss) (hn2 : n0 = xss.length) (ht : tot xss ≤ 2000000) :
    Calls Try.prog 7 #[.agg #[.int .i64 W, .int .i64 H, .int .i64 P, .slice A xs.length c], .slice A2 n0 c2, .int .i64 a] w (ColR (ciOk W H P xs xss a) W H a (ciL W.toNat H.toNat a.toNat xs xss) w) := by
  have HX := Lib.hid hx
  have HV : Hid (ciOk W H P xs xss a = (vim W H P xs && (decide (P = 1) && (decide (1 ≤ a ∧ a ≤ 4) && (palB xss a && allB 0 ((xss.length : Int) - 1) xs))))) := Lib.hid rfl
  have S0 : GS w ((w.alloc (.cells #[.int .i64 W, .int .i64 H, .int .i64 P, .slice A xs.length c] 25)).alloc (.cells #[.int .i64 0, .int .i64 0, .int .i64 0, .slice none 0 0] 25)) [] [⟨(w.heap.size + 1), 25, #[.int .i64 0, .int .i64 0, .int .i64 0, .slice none 0 0]⟩, ⟨w.heap.size, 25, #[.int .i64 W, .int .i64 H, .int .i64 P, .slice A xs.length c]⟩] := GS.box' (GS.box' (GS.start w) 25 #[.int .i64 W, .int .i64 H, .int .i64 P, .slice A xs.length c] w.heap.size (by simp)) 25 #[.int .i64 0, .int .i64 0, .int .i64 0, .slice none 0 0] (w.heap.size + 1) (by simp)
  have Eg : Hid (∀ args w, (callFunc 32 args).run Try.prog w = .ok (.enter 32 args) w) := Lib.hid (enters_of Try.func32 (by kernel_rfl) rfl)
  have HCO := Lib.hid (iClr_any A2 c2 n0 xss a _ hn2 (S0.argSS2 hs) ht)
  clear hx hs hn2 ht
  go_enter Try.func7, Try.ntmps7
  go_wp2_with fail
  generalize (w.alloc (.cells #[.int .i64 W, .int .i64 H, .int .i64 P, .slice A xs.length c] 25)).alloc (.cells #[.int .i64 0, .int .i64 0, .int .i64 0, .slice none 0 0] 25) = u0 at *
  refine HCO.out.mono ?_
  rintro e u1 ⟨hB, hor⟩
  clear HCO
  rcases hor with ⟨hno, rfl⟩ | ⟨ha, hpal, v, rfl, hO⟩
  · have Hv : Hid (ciOk W H P xs xss a = false) := Lib.hid (by
      rw [HV.out]
      cases h1 : decide (1 ≤ a ∧ a ≤ 4)
      · simp
      · rw [h1, Bool.true_and] at hno
        rw [hno]; simp)
    clear HV hno
    obtain ⟨cb, hcb⟩ : ∃ cb, cb = u1.heap.size := ⟨_, rfl⟩
    have S1 := GS.box' (S0.call hB) 50 #[.slice none 0 0] cb hcb
    clear S0 hB
    go_upto_region 2 with fail
    rw [← hcb]
    generalize u1.alloc (.cells #[.slice none 0 0] 50) = u2 at *
    clear hcb
    have HC := Lib.hid S1.drew
    clear S1
    refine wp_region_held_drew (S := (fun _ => True)) (by kernel_rfl) (by exact trivial) (fun hHeld => ?_)
    refine' wpAnyH_take (i := 0) (oi := _) (v := _) ?hi9 (by kernel_rfl) (by kernel_rfl) (by kernel_rfl) ?hq9 (Or.inl ⟨?hw9, ?hy9⟩) (by assumption) ?rest9
    case hi9 => (simp only [List.getElem?_toArray, List.getElem?_cons_succ, List.getElem?_cons_zero]; rfl)
    case hq9 => exact fun _ _ _ h => h
    case hw9 => rfl
    case hy9 => (intro wq hSw; (try dsimp only at hSw); go_simp; (try with_reducible rfl))
    (try simp only [Act.put, List.setIfInBounds_toArray, List.set_cons_zero, List.set_cons_succ])
    refine' wpAnyH_take (i := 1) (oi := _) (v := Value.bool true) ?hi10 (by kernel_rfl) (by kernel_rfl) (by kernel_rfl) ?hq10 (Or.inl ⟨?hw10, ?hy10⟩) (by assumption) ?rest10
    case hi10 => (simp only [List.getElem?_toArray, List.getElem?_cons_succ, List.getElem?_cons_zero]; rfl)
    case hq10 => exact fun _ _ _ h => h
    case hw10 => rfl
    case hy10 => (intro wq hSw; (try dsimp only at hSw); (try go_simp); (first | done | (with_reducible rfl) | rfl | simp))
    (try simp only [Act.put, List.setIfInBounds_toArray, List.set_cons_zero, List.set_cons_succ])
    refine' wpAnyH_take (i := 2) (oi := _) (v := Value.bool true) ?hi11 (by kernel_rfl) (by kernel_rfl) (by kernel_rfl) ?hq11 (Or.inl ⟨?hw11, ?hy11⟩) (by assumption) ?rest11
    case hi11 => (simp only [List.getElem?_toArray, List.getElem?_cons_succ, List.getElem?_cons_zero]; rfl)
    case hq11 => exact fun _ _ _ h => h
    case hw11 => rfl
    case hy11 => (intro wq hSw; (try dsimp only at hSw); (try go_simp); (first | done | (with_reducible rfl) | rfl | simp))
    (try simp only [Act.put, List.setIfInBounds_toArray, List.set_cons_zero, List.set_cons_succ])
    refine' wpAnyH_take (i := 3) (oi := _) (v := undef) ?hi12 (by kernel_rfl) (by kernel_rfl) (by kernel_rfl) ?hq12 (Or.inr ?hw12) (by assumption) ?rest12
    case hi12 => (simp only [List.getElem?_toArray, List.getElem?_cons_succ, List.getElem?_cons_zero]; rfl)
    case hq12 => exact fun _ _ _ h => h
    case hw12 => exact ⟨rfl, rfl⟩
    (try simp only [Act.put, List.setIfInBounds_toArray, List.set_cons_zero, List.set_cons_succ])
    refine' wpAnyH_take (i := 4) (oi := _) (v := undef) ?hi13 (by kernel_rfl) (by kernel_rfl) (by kernel_rfl) ?hq13 (Or.inr ?hw13) (by assumption) ?rest13
    case hi13 => (simp only [List.getElem?_toArray, List.getElem?_cons_succ, List.getElem?_cons_zero]; rfl)
    case hq13 => exact fun _ _ _ h => h
    case hw13 => exact ⟨rfl, rfl⟩
    (try simp only [Act.put, List.setIfInBounds_toArray, List.set_cons_zero, List.set_cons_succ])
    refine' wpAnyH_take (i := 5) (oi := _) (v := undef) ?hi14 (by kernel_rfl) (by kernel_rfl) (by kernel_rfl) ?hq14 (Or.inr ?hw14) (by assumption) ?rest14
    case hi14 => (simp only [List.getElem?_toArray, List.getElem?_cons_succ, List.getElem?_cons_zero]; rfl)
    case hq14 => exact fun _ _ _ h => h
    case hw14 => exact ⟨rfl, rfl⟩
    (try simp only [Act.put, List.setIfInBounds_toArray, List.set_cons_zero, List.set_cons_succ])
    refine' wpAnyH_take (i := 6) (oi := _) (v := Value.bool true) ?hi15 (by kernel_rfl) (by kernel_rfl) (by kernel_rfl) ?hq15 (Or.inl ⟨?hw15, ?hy15⟩) (by assumption) ?rest15
    case hi15 => (simp only [List.getElem?_toArray, List.getElem?_cons_succ, List.getElem?_cons_zero]; rfl)
    case hq15 => exact fun _ _ _ h => h
    case hw15 => rfl
    case hy15 => (intro wq hSw; (try dsimp only at hSw); (try go_simp); (first | done | (with_reducible rfl) | rfl | simp))
    (try simp only [Act.put, List.setIfInBounds_toArray, List.set_cons_zero, List.set_cons_succ])
    refine' wpAnyH_take (i := 7) (oi := _) (v := Value.bool true) ?hi16 (by kernel_rfl) (by kernel_rfl) (by kernel_rfl) ?hq16 (Or.inl ⟨?hw16, ?hy16⟩) (by assumption) ?rest16
    case hi16 => (simp only [List.getElem?_toArray, List.getElem?_cons_succ, List.getElem?_cons_zero]; rfl)
    case hq16 => exact fun _ _ _ h => h
    case hw16 => rfl
    case hy16 => (intro wq hSw; (try dsimp only at hSw); (try go_simp); (first | done | (with_reducible rfl) | rfl | simp))
    (try simp only [Act.put, List.setIfInBounds_toArray, List.set_cons_zero, List.set_cons_succ])
    refine' wpAnyH_take (i := 8) (oi := _) (v := undef) ?hi17 (by kernel_rfl) (by kernel_rfl) (by kernel_rfl) ?hq17 (Or.inr ?hw17) (by assumption) ?rest17
    case hi17 => (simp only [List.getElem?_toArray, List.getElem?_cons_succ, List.getElem?_cons_zero]; rfl)
    case hq17 => exact fun _ _ _ h => h
    case hw17 => exact ⟨rfl, rfl⟩
    (try simp only [Act.put, List.setIfInBounds_toArray, List.set_cons_zero, List.set_cons_succ])
    refine' wpAnyH_take (i := 9) (oi := _) (v := undef) ?hi18 (by kernel_rfl) (by kernel_rfl) (by kernel_rfl) ?hq18 (Or.inr ?hw18) (by assumption) ?rest18
    case hi18 => (simp only [List.getElem?_toArray, List.getElem?_cons_succ, List.getElem?_cons_zero]; rfl)
    case hq18 => exact fun _ _ _ h => h
    case hw18 => exact ⟨rfl, rfl⟩
    (try simp only [Act.put, List.setIfInBounds_toArray, List.set_cons_zero, List.set_cons_succ])
    refine' wpAnyH_take (i := 10) (oi := _) (v := undef) ?hi19 (by kernel_rfl) (by kernel_rfl) (by kernel_rfl) ?hq19 (Or.inr ?hw19) (by assumption) ?rest19
    case hi19 => (simp only [List.getElem?_toArray, List.getElem?_cons_succ, List.getElem?_cons_zero]; rfl)
    case hq19 => exact fun _ _ _ h => h
    case hw19 => exact ⟨rfl, rfl⟩
    (try simp only [Act.put, List.setIfInBounds_toArray, List.set_cons_zero, List.set_cons_succ])
    refine' wpAnyH_take (i := 11) (oi := _) (v := undef) ?hi20 (by kernel_rfl) (by kernel_rfl) (by kernel_rfl) ?hq20 (Or.inr ?hw20) (by assumption) ?rest20
    case hi20 => (simp only [List.getElem?_toArray, List.getElem?_cons_succ, List.getElem?_cons_zero]; rfl)
    case hq20 => exact fun _ _ _ h => h
    case hw20 => exact ⟨rfl, rfl⟩
    (try simp only [Act.put, List.setIfInBounds_toArray, List.set_cons_zero, List.set_cons_succ])
    refine' wpAnyH_take (i := 12) (oi := _) (v := undef) ?hi21 (by kernel_rfl) (by kernel_rfl) (by kernel_rfl) ?hq21 (Or.inr ?hw21) (by assumption) ?rest21
    case hi21 => (simp only [List.getElem?_toArray, List.getElem?_cons_succ, List.getElem?_cons_zero]; rfl)
    case hq21 => exact fun _ _ _ h => h
    case hw21 => exact ⟨rfl, rfl⟩
    (try simp only [Act.put, List.setIfInBounds_toArray, List.set_cons_zero, List.set_cons_succ])
    refine' wpAnyH_take (i := 13) (oi := _) (v := undef) ?hi22 (by kernel_rfl) (by kernel_rfl) (by kernel_rfl) ?hq22 (Or.inr ?hw22) (by assumption) ?rest22
    case hi22 => (simp only [List.getElem?_toArray, List.getElem?_cons_succ, List.getElem?_cons_zero]; rfl)
    case hq22 => exact fun _ _ _ h => h
    case hw22 => exact ⟨rfl, rfl⟩
    (try simp only [Act.put, List.setIfInBounds_toArray, List.set_cons_zero, List.set_cons_succ])
    refine' wpAnyH_take (i := 14) (oi := _) (v := Value.bool true) ?hi23 (by kernel_rfl) (by kernel_rfl) (by kernel_rfl) ?hq23 (Or.inl ⟨?hw23, ?hy23⟩) (by assumption) ?rest23
    case hi23 => (simp only [List.getElem?_toArray, List.getElem?_cons_succ, List.getElem?_cons_zero]; rfl)
    case hq23 => exact fun _ _ _ h => h
    case hw23 => rfl
    case hy23 => (intro wq hSw; (try dsimp only at hSw); (try go_simp); (first | done | (with_reducible rfl) | rfl | simp))
    (try simp only [Act.put, List.setIfInBounds_toArray, List.set_cons_zero, List.set_cons_succ])
    refine wpAnyH_done (by kernel_rfl) ?_ _
    have HC2 := HC.out
    clear HC hHeld
    generalize u2.drew = u3 at *
    obtain ⟨r0, r1, r2, r3⟩ := HC2.b1_4
    have f0 := HC2.f1 0
    have f1 := HC2.f1 1
    have f2 := HC2.f1 2
    have f3 := HC2.f1 3
    have HE := Lib.hid (HC2.e1_4 (.int .i64 0) (.int .i64 0) (.int .i64 0) (.slice none 0 0))
    clear HC2
    go_wp2
    exact bodyPost_ret (v := .tuple #[.agg #[.int .i64 0, .int .i64 0, .int .i64 0, .slice none 0 0], .bool false]) (by simp [results, Try.results7, go_sem, r0, r1, r2, r3]) rfl (ColR.no Hv.out HE.out.1)
  · have HPal := Lib.hid hpal
    have HA := Lib.hid ha
    have hpo := palB_of hpal
    have S1 := S0.addR hO hB
    obtain ⟨A6, c6, rfl, hc6⟩ := hO.slice
    obtain ⟨lo6, hlo6⟩ : ∃ lo6, lo6 = u0.heap.size := ⟨_, rfl⟩
    obtain ⟨hi6, hhi6⟩ : ∃ hi6, hi6 = u1.heap.size := ⟨_, rfl⟩
    obtain ⟨cb, hcb⟩ : ∃ cb, cb = u1.heap.size := ⟨_, rfl⟩
    obtain ⟨n2, hn2⟩ : ∃ n2, n2 = xss.length := ⟨_, rfl⟩
    rw [← hlo6, ← hhi6, ← hn2] at S1
    rw [← hn2] at hc6 hpo ⊢
    have S2 := GS.box' S1 50 #[.slice A6 n2 c6] cb hcb
    have HS2 : Hid (GS w (u1.alloc (.cells #[.slice A6 n2 c6] 50)) [rt 62 4 lo6 hi6 (.slice A6 n2 c6) n2 (clr xss n2)] [⟨cb, 50, #[.slice A6 n2 c6]⟩, ⟨(w.heap.size + 1), 25, #[.int .i64 0, .int .i64 0, .int .i64 0, .slice none 0 0]⟩, ⟨w.heap.size, 25, #[.int .i64 W, .int .i64 H, .int .i64 P, .slice A xs.length c]⟩]) := Lib.hid S2
    have HCl := Lib.hid hpo.2
    have hn16 := hpo.1
    have Hn2 := Lib.hid hn2
    clear S0 S1 S2 hB hO ha hpal hpo hn2 hlo6 hhi6
    go_upto_region 2 with fail
    rw [← hcb]
    generalize u1.alloc (.cells #[.slice A6 n2 c6] 50) = u2 at *
    clear hcb
    have HC := Lib.hid HS2.out.drew
    clear HS2
    cases hvp : vpl W H P xs
    · have HVP := Lib.hid hvp
      have Hv : Hid (ciOk W H P xs xss a = false) := Lib.hid (by
        rw [HV.out]
        unfold vpl at hvp
        cases h1 : vim W H P xs
        · rfl
        · rw [h1, Bool.true_and] at hvp
          rw [hvp]; rfl)
      clear HV hvp
      refine wp_region_held_drew (S := (fun w' => w'.cell? ⟨w.heap.size, 0, none⟩ = some (.int .i64 W) ∧ w'.cell? ⟨w.heap.size, 1, none⟩ = some (.int .i64 H) ∧ w'.cell? ⟨w.heap.size, 2, none⟩ = some (.int .i64 P) ∧ w'.cell? ⟨w.heap.size, 3, none⟩ = some (.slice A xs.length c) ∧ w'.cell? ⟨cb, 0, none⟩ = some (.slice A6 n2 c6))) (by kernel_rfl) (by exact ⟨HC.out.b2_4.1, HC.out.b2_4.2.1, HC.out.b2_4.2.2.1, HC.out.b2_4.2.2.2, bx1 HC.out.x0⟩) (fun hHeld => ?_)
      refine' wpAnyH_take (i := 0) (oi := _) (v := _) ?hi24 (by kernel_rfl) (by kernel_rfl) (by kernel_rfl) ?hq24 (Or.inl ⟨?hw24, ?hy24⟩) (by assumption) ?rest24
      case hi24 => (simp only [List.getElem?_toArray, List.getElem?_cons_succ, List.getElem?_cons_zero]; rfl)
      case hq24 => exact fun _ _ _ h => h
      case hw24 => rfl
      case hy24 => (intro wq hSw; (try dsimp only at hSw); go_simp; (try with_reducible rfl))
      (try simp only [Act.put, List.setIfInBounds_toArray, List.set_cons_zero, List.set_cons_succ])
      refine' wpAnyH_take (i := 1) (oi := _) (v := Value.bool false) ?hi25 (by kernel_rfl) (by kernel_rfl) (by kernel_rfl) ?hq25 (Or.inl ⟨?hw25, ?hy25⟩) (by assumption) ?rest25
      case hi25 => (simp only [List.getElem?_toArray, List.getElem?_cons_succ, List.getElem?_cons_zero]; rfl)
      case hq25 => exact fun _ _ _ h => h
      case hw25 => rfl
      case hy25 => (intro wq hSw; (try dsimp only at hSw); (try go_simp); (first | done | (with_reducible rfl) | rfl | simp))
      (try simp only [Act.put, List.setIfInBounds_toArray, List.set_cons_zero, List.set_cons_succ])
      refine' wpAnyH_take (i := 2) (oi := _) (v := Value.bool false) ?hi26 (by kernel_rfl) (by kernel_rfl) (by kernel_rfl) ?hq26 (Or.inl ⟨?hw26, ?hy26⟩) (by assumption) ?rest26
      case hi26 => (simp only [List.getElem?_toArray, List.getElem?_cons_succ, List.getElem?_cons_zero]; rfl)
      case hq26 => exact fun _ _ _ h => h
      case hw26 => rfl
      case hy26 => (intro wq hSw; (try dsimp only at hSw); (try go_simp); (first | done | (with_reducible rfl) | rfl | simp))
      (try simp only [Act.put, List.setIfInBounds_toArray, List.set_cons_zero, List.set_cons_succ])
      refine' wpAnyH_take (i := 3) (oi := _) (v := _) ?hi27 (by kernel_rfl) (by kernel_rfl) (by kernel_rfl) ?hq27 (Or.inl ⟨?hw27, ?hy27⟩) (by assumption) ?rest27
      case hi27 => (simp only [List.getElem?_toArray, List.getElem?_cons_succ, List.getElem?_cons_zero]; rfl)
      case hq27 => exact fun _ _ _ h => h
      case hw27 => rfl
      case hy27 => (intro wq hSw; (try dsimp only at hSw); go_simp; (try with_reducible rfl))
      (try simp only [Act.put, List.setIfInBounds_toArray, List.set_cons_zero, List.set_cons_succ])
      refine wpAnyH_ready (rs := [4]) (by kernel_rfl) (by simp) ?_
      refine' AllReadyH.cons (o := _) ?hi28 (fun K hK => ?rest28) AllReadyH.nil
      case hi28 => (simp only [List.getElem?_toArray, List.getElem?_cons_succ, List.getElem?_cons_zero]; rfl)
      go_simp
      go_at_call 27
      refine (iVplane_any W H P A c xs _ (HC.out.arg HX.out) hl).mono ?_
      rintro e u5 ⟨rfl, hB5⟩
      have HD := Lib.hid (HC.out.call hB5)
      clear HC hB5
      have HC := HD
      clear HD
      rw [HVP.out]
      go_wp2_with fail
      refine hK.out _ _ (by (try dsimp only); exact ⟨HC.out.b2_4.1, HC.out.b2_4.2.1, HC.out.b2_4.2.2.1, HC.out.b2_4.2.2.2, bx1 HC.out.x0⟩) (fun hHeld => ?_)
      clear hK K
      (try simp only [Act.put, List.setIfInBounds_toArray, List.set_cons_zero, List.set_cons_succ])
      refine' wpAnyH_take (i := 5) (oi := _) (v := Value.bool true) ?hi29 (by kernel_rfl) (by kernel_rfl) (by kernel_rfl) ?hq29 (Or.inl ⟨?hw29, ?hy29⟩) (by assumption) ?rest29
      case hi29 => (simp only [List.getElem?_toArray, List.getElem?_cons_succ, List.getElem?_cons_zero]; rfl)
      case hq29 => exact fun _ _ _ h => h
      case hw29 => rfl
      case hy29 => (intro wq hSw; (try dsimp only at hSw); (try go_simp); (first | done | (with_reducible rfl) | rfl | simp))
      (try simp only [Act.put, List.setIfInBounds_toArray, List.set_cons_zero, List.set_cons_succ])
      refine' wpAnyH_take (i := 6) (oi := _) (v := Value.bool true) ?hi30 (by kernel_rfl) (by kernel_rfl) (by kernel_rfl) ?hq30 (Or.inl ⟨?hw30, ?hy30⟩) (by assumption) ?rest30
      case hi30 => (simp only [List.getElem?_toArray, List.getElem?_cons_succ, List.getElem?_cons_zero]; rfl)
      case hq30 => exact fun _ _ _ h => h
      case hw30 => rfl
      case hy30 => (intro wq hSw; (try dsimp only at hSw); (try go_simp); (first | done | (with_reducible rfl) | rfl | simp))
      (try simp only [Act.put, List.setIfInBounds_toArray, List.set_cons_zero, List.set_cons_succ])
      refine' wpAnyH_take (i := 7) (oi := _) (v := Value.bool true) ?hi31 (by kernel_rfl) (by kernel_rfl) (by kernel_rfl) ?hq31 (Or.inl ⟨?hw31, ?hy31⟩) (by assumption) ?rest31
      case hi31 => (simp only [List.getElem?_toArray, List.getElem?_cons_succ, List.getElem?_cons_zero]; rfl)
      case hq31 => exact fun _ _ _ h => h
      case hw31 => rfl
      case hy31 => (intro wq hSw; (try dsimp only at hSw); (try go_simp); (first | done | (with_reducible rfl) | rfl | simp))
      (try simp only [Act.put, List.setIfInBounds_toArray, List.set_cons_zero, List.set_cons_succ])
      refine' wpAnyH_take (i := 8) (oi := _) (v := undef) ?hi32 (by kernel_rfl) (by kernel_rfl) (by kernel_rfl) ?hq32 (Or.inr ?hw32) (by assumption) ?rest32
      case hi32 => (simp only [List.getElem?_toArray, List.getElem?_cons_succ, List.getElem?_cons_zero]; rfl)
      case hq32 => exact fun _ _ _ h => h
      case hw32 => exact ⟨rfl, rfl⟩
      (try simp only [Act.put, List.setIfInBounds_toArray, List.set_cons_zero, List.set_cons_succ])
      refine' wpAnyH_take (i := 9) (oi := _) (v := undef) ?hi33 (by kernel_rfl) (by kernel_rfl) (by kernel_rfl) ?hq33 (Or.inr ?hw33) (by assumption) ?rest33
      case hi33 => (simp only [List.getElem?_toArray, List.getElem?_cons_succ, List.getElem?_cons_zero]; rfl)
      case hq33 => exact fun _ _ _ h => h
      case hw33 => exact ⟨rfl, rfl⟩
      (try simp only [Act.put, List.setIfInBounds_toArray, List.set_cons_zero, List.set_cons_succ])
      refine' wpAnyH_take (i := 10) (oi := _) (v := undef) ?hi34 (by kernel_rfl) (by kernel_rfl) (by kernel_rfl) ?hq34 (Or.inr ?hw34) (by assumption) ?rest34
      case hi34 => (simp only [List.getElem?_toArray, List.getElem?_cons_succ, List.getElem?_cons_zero]; rfl)
      case hq34 => exact fun _ _ _ h => h
      case hw34 => exact ⟨rfl, rfl⟩
      (try simp only [Act.put, List.setIfInBounds_toArray, List.set_cons_zero, List.set_cons_succ])
      refine' wpAnyH_take (i := 11) (oi := _) (v := undef) ?hi35 (by kernel_rfl) (by kernel_rfl) (by kernel_rfl) ?hq35 (Or.inr ?hw35) (by assumption) ?rest35
      case hi35 => (simp only [List.getElem?_toArray, List.getElem?_cons_succ, List.getElem?_cons_zero]; rfl)
      case hq35 => exact fun _ _ _ h => h
      case hw35 => exact ⟨rfl, rfl⟩
      (try simp only [Act.put, List.setIfInBounds_toArray, List.set_cons_zero, List.set_cons_succ])
      refine' wpAnyH_take (i := 12) (oi := _) (v := undef) ?hi36 (by kernel_rfl) (by kernel_rfl) (by kernel_rfl) ?hq36 (Or.inr ?hw36) (by assumption) ?rest36
      case hi36 => (simp only [List.getElem?_toArray, List.getElem?_cons_succ, List.getElem?_cons_zero]; rfl)
      case hq36 => exact fun _ _ _ h => h
      case hw36 => exact ⟨rfl, rfl⟩
      (try simp only [Act.put, List.setIfInBounds_toArray, List.set_cons_zero, List.set_cons_succ])
      refine' wpAnyH_take (i := 13) (oi := _) (v := undef) ?hi37 (by kernel_rfl) (by kernel_rfl) (by kernel_rfl) ?hq37 (Or.inr ?hw37) (by assumption) ?rest37
      case hi37 => (simp only [List.getElem?_toArray, List.getElem?_cons_succ, List.getElem?_cons_zero]; rfl)
      case hq37 => exact fun _ _ _ h => h
      case hw37 => exact ⟨rfl, rfl⟩
      (try simp only [Act.put, List.setIfInBounds_toArray, List.set_cons_zero, List.set_cons_succ])
      refine' wpAnyH_take (i := 14) (oi := _) (v := Value.bool true) ?hi38 (by kernel_rfl) (by kernel_rfl) (by kernel_rfl) ?hq38 (Or.inl ⟨?hw38, ?hy38⟩) (by assumption) ?rest38
      case hi38 => (simp only [List.getElem?_toArray, List.getElem?_cons_succ, List.getElem?_cons_zero]; rfl)
      case hq38 => exact fun _ _ _ h => h
      case hw38 => rfl
      case hy38 => (intro wq hSw; (try dsimp only at hSw); (try go_simp); (first | done | (with_reducible rfl) | rfl | simp))
      (try simp only [Act.put, List.setIfInBounds_toArray, List.set_cons_zero, List.set_cons_succ])
      refine wpAnyH_done (by kernel_rfl) ?_ _
      have HC2 := HC.out
      clear HC
      obtain ⟨r0, r1, r2, r3⟩ := HC2.b1_4
      have f0 := HC2.f1 0
      have f1 := HC2.f1 1
      have f2 := HC2.f1 2
      have f3 := HC2.f1 3
      have HE := Lib.hid (HC2.e1_4 (.int .i64 0) (.int .i64 0) (.int .i64 0) (.slice none 0 0))
      clear HC2
      go_wp2
      exact bodyPost_ret (v := .tuple #[.agg #[.int .i64 0, .int .i64 0, .int .i64 0, .slice none 0 0], .bool false]) (by simp [results, Try.results7, go_sem, r0, r1, r2, r3]) rfl (ColR.no Hv.out HE.out.1)
    · have HVP := Lib.hid hvp
      have hvp2 : vim W H P xs = true ∧ P = 1 := by
        unfold vpl at hvp
        rw [Bool.and_eq_true] at hvp
        exact ⟨hvp.1, of_decide_eq_true hvp.2⟩
      have hvim := hvp2.1
      have hP1 := hvp2.2
      obtain ⟨W', H', P', eW, eH, eP, hW1, hW, hH1, hH, _, _, hln, hby⟩ := vim_nat hvim
      have hP'1 : P' = 1 := by omega
      subst hP'1
      rw [Nat.mul_one] at hln
      have Hpos : Hid (0 < xs.length) := Lib.hid (by rw [hln]; exact Nat.mul_pos hW1 hH1)
      have HBy := Lib.hid hby
      have HEq := Lib.hid (And.intro eW (And.intro eH hln))
      clear eW eH eP hln
      obtain ⟨mxv, hmx⟩ : ∃ m, m = mx xs xs.length := ⟨_, rfl⟩
      have HMx := Lib.hid hmx.symm
      have hmxb := mx_bd xs Hpos.out hby xs.length (Nat.le_refl _)
      rw [← hmx] at hmxb
      have hall := mx_lt (n := (xss.length : Int)) Hpos.out hby
      rw [← hmx, ← Hn2.out] at hall
      by_cases hge' : mxv ≥ (n2 : Int)
      · have hge : decide (mxv ≥ (n2 : Int)) = true := decide_eq_true hge'
        have Hv : Hid (ciOk W H P xs xss a = false) := Lib.hid (by rw [HV.out, ← Hn2.out, hall, hge]; simp)
        clear HV hvp hvp2 hvim hall hP1 hmx hby
        refine wp_region_held_drew (S := (fun w' => w'.cell? ⟨w.heap.size, 0, none⟩ = some (.int .i64 W) ∧ w'.cell? ⟨w.heap.size, 1, none⟩ = some (.int .i64 H) ∧ w'.cell? ⟨w.heap.size, 2, none⟩ = some (.int .i64 P) ∧ w'.cell? ⟨w.heap.size, 3, none⟩ = some (.slice A xs.length c) ∧ w'.cell? ⟨cb, 0, none⟩ = some (.slice A6 n2 c6))) (by kernel_rfl) (by exact ⟨HC.out.b2_4.1, HC.out.b2_4.2.1, HC.out.b2_4.2.2.1, HC.out.b2_4.2.2.2, bx1 HC.out.x0⟩) (fun hHeld => ?_)
        refine' wpAnyH_take (i := 0) (oi := _) (v := _) ?hi39 (by kernel_rfl) (by kernel_rfl) (by kernel_rfl) ?hq39 (Or.inl ⟨?hw39, ?hy39⟩) (by assumption) ?rest39
        case hi39 => (simp only [List.getElem?_toArray, List.getElem?_cons_succ, List.getElem?_cons_zero]; rfl)
        case hq39 => exact fun _ _ _ h => h
        case hw39 => rfl
        case hy39 => (intro wq hSw; (try dsimp only at hSw); go_simp; (try with_reducible rfl))
        (try simp only [Act.put, List.setIfInBounds_toArray, List.set_cons_zero, List.set_cons_succ])
        refine' wpAnyH_take (i := 1) (oi := _) (v := Value.bool false) ?hi40 (by kernel_rfl) (by kernel_rfl) (by kernel_rfl) ?hq40 (Or.inl ⟨?hw40, ?hy40⟩) (by assumption) ?rest40
        case hi40 => (simp only [List.getElem?_toArray, List.getElem?_cons_succ, List.getElem?_cons_zero]; rfl)
        case hq40 => exact fun _ _ _ h => h
        case hw40 => rfl
        case hy40 => (intro wq hSw; (try dsimp only at hSw); (try go_simp); (first | done | (with_reducible rfl) | rfl | simp))
        (try simp only [Act.put, List.setIfInBounds_toArray, List.set_cons_zero, List.set_cons_succ])
        refine' wpAnyH_take (i := 2) (oi := _) (v := Value.bool false) ?hi41 (by kernel_rfl) (by kernel_rfl) (by kernel_rfl) ?hq41 (Or.inl ⟨?hw41, ?hy41⟩) (by assumption) ?rest41
        case hi41 => (simp only [List.getElem?_toArray, List.getElem?_cons_succ, List.getElem?_cons_zero]; rfl)
        case hq41 => exact fun _ _ _ h => h
        case hw41 => rfl
        case hy41 => (intro wq hSw; (try dsimp only at hSw); (try go_simp); (first | done | (with_reducible rfl) | rfl | simp))
        (try simp only [Act.put, List.setIfInBounds_toArray, List.set_cons_zero, List.set_cons_succ])
        refine' wpAnyH_take (i := 3) (oi := _) (v := _) ?hi42 (by kernel_rfl) (by kernel_rfl) (by kernel_rfl) ?hq42 (Or.inl ⟨?hw42, ?hy42⟩) (by assumption) ?rest42
        case hi42 => (simp only [List.getElem?_toArray, List.getElem?_cons_succ, List.getElem?_cons_zero]; rfl)
        case hq42 => exact fun _ _ _ h => h
        case hw42 => rfl
        case hy42 => (intro wq hSw; (try dsimp only at hSw); go_simp; (try with_reducible rfl))
        (try simp only [Act.put, List.setIfInBounds_toArray, List.set_cons_zero, List.set_cons_succ])
        refine wpAnyH_ready (rs := [4]) (by kernel_rfl) (by simp) ?_
        refine' AllReadyH.cons (o := _) ?hi43 (fun K hK => ?rest43) AllReadyH.nil
        case hi43 => (simp only [List.getElem?_toArray, List.getElem?_cons_succ, List.getElem?_cons_zero]; rfl)
        go_simp
        go_at_call 27
        refine (iVplane_any W H P A c xs _ (HC.out.arg HX.out) hl).mono ?_
        rintro e u5 ⟨rfl, hB5⟩
        have HD := Lib.hid (HC.out.call hB5)
        clear HC hB5
        have HC := HD
        clear HD
        rw [HVP.out]
        go_wp2_with fail
        refine hK.out _ _ (by (try dsimp only); exact ⟨HC.out.b2_4.1, HC.out.b2_4.2.1, HC.out.b2_4.2.2.1, HC.out.b2_4.2.2.2, bx1 HC.out.x0⟩) (fun hHeld => ?_)
        clear hK K
        (try simp only [Act.put, List.setIfInBounds_toArray, List.set_cons_zero, List.set_cons_succ])
        refine' wpAnyH_take (i := 5) (oi := _) (v := Value.bool false) ?hi44 (by kernel_rfl) (by kernel_rfl) (by kernel_rfl) ?hq44 (Or.inl ⟨?hw44, ?hy44⟩) (by assumption) ?rest44
        case hi44 => (simp only [List.getElem?_toArray, List.getElem?_cons_succ, List.getElem?_cons_zero]; rfl)
        case hq44 => exact fun _ _ _ h => h
        case hw44 => rfl
        case hy44 => (intro wq hSw; (try dsimp only at hSw); (try go_simp); (first | done | (with_reducible rfl) | rfl | simp))
        (try simp only [Act.put, List.setIfInBounds_toArray, List.set_cons_zero, List.set_cons_succ])
        refine' wpAnyH_take (i := 6) (oi := _) (v := Value.bool false) ?hi45 (by kernel_rfl) (by kernel_rfl) (by kernel_rfl) ?hq45 (Or.inl ⟨?hw45, ?hy45⟩) (by assumption) ?rest45
        case hi45 => (simp only [List.getElem?_toArray, List.getElem?_cons_succ, List.getElem?_cons_zero]; rfl)
        case hq45 => exact fun _ _ _ h => h
        case hw45 => rfl
        case hy45 => (intro wq hSw; (try dsimp only at hSw); (try go_simp); (first | done | (with_reducible rfl) | rfl | simp))
        (try simp only [Act.put, List.setIfInBounds_toArray, List.set_cons_zero, List.set_cons_succ])
        refine' wpAnyH_take (i := 7) (oi := _) (v := Value.bool false) ?hi46 (by kernel_rfl) (by kernel_rfl) (by kernel_rfl) ?hq46 (Or.inl ⟨?hw46, ?hy46⟩) (by assumption) ?rest46
        case hi46 => (simp only [List.getElem?_toArray, List.getElem?_cons_succ, List.getElem?_cons_zero]; rfl)
        case hq46 => exact fun _ _ _ h => h
        case hw46 => rfl
        case hy46 => (intro wq hSw; (try dsimp only at hSw); (try go_simp); (first | done | (with_reducible rfl) | rfl | simp))
        (try simp only [Act.put, List.setIfInBounds_toArray, List.set_cons_zero, List.set_cons_succ])
        refine' wpAnyH_take (i := 8) (oi := _) (v := _) ?hi47 (by kernel_rfl) (by kernel_rfl) (by kernel_rfl) ?hq47 (Or.inl ⟨?hw47, ?hy47⟩) (by assumption) ?rest47
        case hi47 => (simp only [List.getElem?_toArray, List.getElem?_cons_succ, List.getElem?_cons_zero]; rfl)
        case hq47 => exact fun _ _ _ h => h
        case hw47 => rfl
        case hy47 => (intro wq hSw; (try dsimp only at hSw); go_simp; (try with_reducible rfl))
        (try simp only [Act.put, List.setIfInBounds_toArray, List.set_cons_zero, List.set_cons_succ])
        refine' wpAnyH_take (i := 9) (oi := _) (v := _) ?hi48 (by kernel_rfl) (by kernel_rfl) (by kernel_rfl) ?hq48 (Or.inl ⟨?hw48, ?hy48⟩) (by assumption) ?rest48
        case hi48 => (simp only [List.getElem?_toArray, List.getElem?_cons_succ, List.getElem?_cons_zero]; rfl)
        case hq48 => exact fun _ _ _ h => h
        case hw48 => rfl
        case hy48 => (intro wq hSw; (try dsimp only at hSw); go_simp; (try with_reducible rfl))
        (try simp only [Act.put, List.setIfInBounds_toArray, List.set_cons_zero, List.set_cons_succ])
        refine' wpAnyH_take (i := 11) (oi := _) (v := _) ?hi49 (by kernel_rfl) (by kernel_rfl) (by kernel_rfl) ?hq49 (Or.inl ⟨?hw49, ?hy49⟩) (by assumption) ?rest49
        case hi49 => (simp only [List.getElem?_toArray, List.getElem?_cons_succ, List.getElem?_cons_zero]; rfl)
        case hq49 => exact fun _ _ _ h => h
        case hw49 => rfl
        case hy49 => (intro wq hSw; (try dsimp only at hSw); go_simp; (try with_reducible rfl))
        (try simp only [Act.put, List.setIfInBounds_toArray, List.set_cons_zero, List.set_cons_succ])
        refine' wpAnyH_take (i := 12) (oi := _) (v := _) ?hi50 (by kernel_rfl) (by kernel_rfl) (by kernel_rfl) ?hq50 (Or.inl ⟨?hw50, ?hy50⟩) (by assumption) ?rest50
        case hi50 => (simp only [List.getElem?_toArray, List.getElem?_cons_succ, List.getElem?_cons_zero]; rfl)
        case hq50 => exact fun _ _ _ h => h
        case hw50 => rfl
        case hy50 => (intro wq hSw; (try dsimp only at hSw); go_simp; (try with_reducible rfl))
        (try simp only [Act.put, List.setIfInBounds_toArray, List.set_cons_zero, List.set_cons_succ])
        refine wpAnyH_ready (rs := [10]) (by kernel_rfl) (by simp) ?_
        refine' AllReadyH.cons (o := _) ?hi51 (fun K hK => ?rest51) AllReadyH.nil
        case hi51 => (simp only [List.getElem?_toArray, List.getElem?_cons_succ, List.getElem?_cons_zero]; rfl)
        go_simp
        go_at_call 28
        refine (smax_any A c xs _ Hpos.out (HC.out.arg HX.out) hl HBy.out).mono ?_
        rintro e u6 ⟨rfl, rfl⟩
        rw [HMx.out]
        go_wp2_with fail
        refine hK.out _ _ (by (try dsimp only); exact ⟨HC.out.b2_4.1, HC.out.b2_4.2.1, HC.out.b2_4.2.2.1, HC.out.b2_4.2.2.2, bx1 HC.out.x0⟩) (fun hHeld => ?_)
        clear hK K
        (try simp only [Act.put, List.setIfInBounds_toArray, List.set_cons_zero, List.set_cons_succ])
        refine' wpAnyH_take (i := 13) (oi := _) (v := Value.bool true) ?hi52 (by kernel_rfl) (by kernel_rfl) (by kernel_rfl) ?hq52 (Or.inl ⟨?hw52, ?hy52⟩) (by assumption) ?rest52
        case hi52 => (simp only [List.getElem?_toArray, List.getElem?_cons_succ, List.getElem?_cons_zero]; rfl)
        case hq52 => exact fun _ _ _ h => h
        case hw52 => rfl
        case hy52 => (intro wq hSw; (try dsimp only at hSw); (try go_simp); (first | done | (with_reducible rfl) | rfl | exact hge | rw [hge] | simp))
        (try simp only [Act.put, List.setIfInBounds_toArray, List.set_cons_zero, List.set_cons_succ])
        refine' wpAnyH_take (i := 14) (oi := _) (v := Value.bool true) ?hi53 (by kernel_rfl) (by kernel_rfl) (by kernel_rfl) ?hq53 (Or.inl ⟨?hw53, ?hy53⟩) (by assumption) ?rest53
        case hi53 => (simp only [List.getElem?_toArray, List.getElem?_cons_succ, List.getElem?_cons_zero]; rfl)
        case hq53 => exact fun _ _ _ h => h
        case hw53 => rfl
        case hy53 => (intro wq hSw; (try dsimp only at hSw); (try go_simp); (first | done | (with_reducible rfl) | rfl | simp))
        (try simp only [Act.put, List.setIfInBounds_toArray, List.set_cons_zero, List.set_cons_succ])
        refine wpAnyH_done (by kernel_rfl) ?_ _
        have HC2 := HC.out
        clear HC
        obtain ⟨r0, r1, r2, r3⟩ := HC2.b1_4
        have f0 := HC2.f1 0
        have f1 := HC2.f1 1
        have f2 := HC2.f1 2
        have f3 := HC2.f1 3
        have HE := Lib.hid (HC2.e1_4 (.int .i64 0) (.int .i64 0) (.int .i64 0) (.slice none 0 0))
        clear HC2
        go_wp2
        exact bodyPost_ret (v := .tuple #[.agg #[.int .i64 0, .int .i64 0, .int .i64 0, .slice none 0 0], .bool false]) (by simp [results, Try.results7, go_sem, r0, r1, r2, r3]) rfl (ColR.no Hv.out HE.out.1)
      · have hge : decide (mxv ≥ (n2 : Int)) = false := decide_eq_false hge'
        have Hv : Hid (ciOk W H P xs xss a = true) := Lib.hid (by rw [HV.out, hvim, decide_eq_true hP1, decide_eq_true HA.out, HPal.out, ← Hn2.out, hall, hge]; rfl)
        have HVn : Hid (∀ k, k < xs.length → ∃ vn : Nat, xs.getD k 0 = (vn : Int) ∧ vn < n2) := Lib.hid (fun k hk => by
          have h1 := hby k hk
          have h2 := mx_ge xs xs.length k hk
          exact ⟨(xs.getD k 0).toNat, by omega, by omega⟩)
        have HP1 := Lib.hid hP1
        clear HV hvp hvp2 hvim hall hmx hP1 hby
        refine wp_region_held_drew (S := (fun w' => w'.cell? ⟨w.heap.size, 0, none⟩ = some (.int .i64 W) ∧ w'.cell? ⟨w.heap.size, 1, none⟩ = some (.int .i64 H) ∧ w'.cell? ⟨w.heap.size, 2, none⟩ = some (.int .i64 P) ∧ w'.cell? ⟨w.heap.size, 3, none⟩ = some (.slice A xs.length c) ∧ w'.cell? ⟨cb, 0, none⟩ = some (.slice A6 n2 c6))) (by kernel_rfl) (by exact ⟨HC.out.b2_4.1, HC.out.b2_4.2.1, HC.out.b2_4.2.2.1, HC.out.b2_4.2.2.2, bx1 HC.out.x0⟩) (fun hHeld => ?_)
        refine' wpAnyH_take (i := 0) (oi := _) (v := _) ?hi54 (by kernel_rfl) (by kernel_rfl) (by kernel_rfl) ?hq54 (Or.inl ⟨?hw54, ?hy54⟩) (by assumption) ?rest54
        case hi54 => (simp only [List.getElem?_toArray, List.getElem?_cons_succ, List.getElem?_cons_zero]; rfl)
        case hq54 => exact fun _ _ _ h => h
        case hw54 => rfl
        case hy54 => (intro wq hSw; (try dsimp only at hSw); go_simp; (try with_reducible rfl))
        (try simp only [Act.put, List.setIfInBounds_toArray, List.set_cons_zero, List.set_cons_succ])
        refine' wpAnyH_take (i := 1) (oi := _) (v := Value.bool false) ?hi55 (by kernel_rfl) (by kernel_rfl) (by kernel_rfl) ?hq55 (Or.inl ⟨?hw55, ?hy55⟩) (by assumption) ?rest55
        case hi55 => (simp only [List.getElem?_toArray, List.getElem?_cons_succ, List.getElem?_cons_zero]; rfl)
        case hq55 => exact fun _ _ _ h => h
        case hw55 => rfl
        case hy55 => (intro wq hSw; (try dsimp only at hSw); (try go_simp); (first | done | (with_reducible rfl) | rfl | simp))
        (try simp only [Act.put, List.setIfInBounds_toArray, List.set_cons_zero, List.set_cons_succ])
        refine' wpAnyH_take (i := 2) (oi := _) (v := Value.bool false) ?hi56 (by kernel_rfl) (by kernel_rfl) (by kernel_rfl) ?hq56 (Or.inl ⟨?hw56, ?hy56⟩) (by assumption) ?rest56
        case hi56 => (simp only [List.getElem?_toArray, List.getElem?_cons_succ, List.getElem?_cons_zero]; rfl)
        case hq56 => exact fun _ _ _ h => h
        case hw56 => rfl
        case hy56 => (intro wq hSw; (try dsimp only at hSw); (try go_simp); (first | done | (with_reducible rfl) | rfl | simp))
        (try simp only [Act.put, List.setIfInBounds_toArray, List.set_cons_zero, List.set_cons_succ])
        refine' wpAnyH_take (i := 3) (oi := _) (v := _) ?hi57 (by kernel_rfl) (by kernel_rfl) (by kernel_rfl) ?hq57 (Or.inl ⟨?hw57, ?hy57⟩) (by assumption) ?rest57
        case hi57 => (simp only [List.getElem?_toArray, List.getElem?_cons_succ, List.getElem?_cons_zero]; rfl)
        case hq57 => exact fun _ _ _ h => h
        case hw57 => rfl
        case hy57 => (intro wq hSw; (try dsimp only at hSw); go_simp; (try with_reducible rfl))
        (try simp only [Act.put, List.setIfInBounds_toArray, List.set_cons_zero, List.set_cons_succ])
        refine wpAnyH_ready (rs := [4]) (by kernel_rfl) (by simp) ?_
        refine' AllReadyH.cons (o := _) ?hi58 (fun K hK => ?rest58) AllReadyH.nil
        case hi58 => (simp only [List.getElem?_toArray, List.getElem?_cons_succ, List.getElem?_cons_zero]; rfl)
        go_simp
        go_at_call 27
        refine (iVplane_any W H P A c xs _ (HC.out.arg HX.out) hl).mono ?_
        rintro e u5 ⟨rfl, hB5⟩
        have HD := Lib.hid (HC.out.call hB5)
        clear HC hB5
        have HC := HD
        clear HD
        rw [HVP.out]
        go_wp2_with fail
        refine hK.out _ _ (by (try dsimp only); exact ⟨HC.out.b2_4.1, HC.out.b2_4.2.1, HC.out.b2_4.2.2.1, HC.out.b2_4.2.2.2, bx1 HC.out.x0⟩) (fun hHeld => ?_)
        clear hK K
        (try simp only [Act.put, List.setIfInBounds_toArray, List.set_cons_zero, List.set_cons_succ])
        refine' wpAnyH_take (i := 5) (oi := _) (v := Value.bool false) ?hi59 (by kernel_rfl) (by kernel_rfl) (by kernel_rfl) ?hq59 (Or.inl ⟨?hw59, ?hy59⟩) (by assumption) ?rest59
        case hi59 => (simp only [List.getElem?_toArray, List.getElem?_cons_succ, List.getElem?_cons_zero]; rfl)
        case hq59 => exact fun _ _ _ h => h
        case hw59 => rfl
        case hy59 => (intro wq hSw; (try dsimp only at hSw); (try go_simp); (first | done | (with_reducible rfl) | rfl | simp))
        (try simp only [Act.put, List.setIfInBounds_toArray, List.set_cons_zero, List.set_cons_succ])
        refine' wpAnyH_take (i := 6) (oi := _) (v := Value.bool false) ?hi60 (by kernel_rfl) (by kernel_rfl) (by kernel_rfl) ?hq60 (Or.inl ⟨?hw60, ?hy60⟩) (by assumption) ?rest60
        case hi60 => (simp only [List.getElem?_toArray, List.getElem?_cons_succ, List.getElem?_cons_zero]; rfl)
        case hq60 => exact fun _ _ _ h => h
        case hw60 => rfl
        case hy60 => (intro wq hSw; (try dsimp only at hSw); (try go_simp); (first | done | (with_reducible rfl) | rfl | simp))
        (try simp only [Act.put, List.setIfInBounds_toArray, List.set_cons_zero, List.set_cons_succ])
        refine' wpAnyH_take (i := 7) (oi := _) (v := Value.bool false) ?hi61 (by kernel_rfl) (by kernel_rfl) (by kernel_rfl) ?hq61 (Or.inl ⟨?hw61, ?hy61⟩) (by assumption) ?rest61
        case hi61 => (simp only [List.getElem?_toArray, List.getElem?_cons_succ, List.getElem?_cons_zero]; rfl)
        case hq61 => exact fun _ _ _ h => h
        case hw61 => rfl
        case hy61 => (intro wq hSw; (try dsimp only at hSw); (try go_simp); (first | done | (with_reducible rfl) | rfl | simp))
        (try simp only [Act.put, List.setIfInBounds_toArray, List.set_cons_zero, List.set_cons_succ])
        refine' wpAnyH_take (i := 8) (oi := _) (v := _) ?hi62 (by kernel_rfl) (by kernel_rfl) (by kernel_rfl) ?hq62 (Or.inl ⟨?hw62, ?hy62⟩) (by assumption) ?rest62
        case hi62 => (simp only [List.getElem?_toArray, List.getElem?_cons_succ, List.getElem?_cons_zero]; rfl)
        case hq62 => exact fun _ _ _ h => h
        case hw62 => rfl
        case hy62 => (intro wq hSw; (try dsimp only at hSw); go_simp; (try with_reducible rfl))
        (try simp only [Act.put, List.setIfInBounds_toArray, List.set_cons_zero, List.set_cons_succ])
        refine' wpAnyH_take (i := 9) (oi := _) (v := _) ?hi63 (by kernel_rfl) (by kernel_rfl) (by kernel_rfl) ?hq63 (Or.inl ⟨?hw63, ?hy63⟩) (by assumption) ?rest63
        case hi63 => (simp only [List.getElem?_toArray, List.getElem?_cons_succ, List.getElem?_cons_zero]; rfl)
        case hq63 => exact fun _ _ _ h => h
        case hw63 => rfl
        case hy63 => (intro wq hSw; (try dsimp only at hSw); go_simp; (try with_reducible rfl))
        (try simp only [Act.put, List.setIfInBounds_toArray, List.set_cons_zero, List.set_cons_succ])
        refine' wpAnyH_take (i := 11) (oi := _) (v := _) ?hi64 (by kernel_rfl) (by kernel_rfl) (by kernel_rfl) ?hq64 (Or.inl ⟨?hw64, ?hy64⟩) (by assumption) ?rest64
        case hi64 => (simp only [List.getElem?_toArray, List.getElem?_cons_succ, List.getElem?_cons_zero]; rfl)
        case hq64 => exact fun _ _ _ h => h
        case hw64 => rfl
        case hy64 => (intro wq hSw; (try dsimp only at hSw); go_simp; (try with_reducible rfl))
        (try simp only [Act.put, List.setIfInBounds_toArray, List.set_cons_zero, List.set_cons_succ])
        refine' wpAnyH_take (i := 12) (oi := _) (v := _) ?hi65 (by kernel_rfl) (by kernel_rfl) (by kernel_rfl) ?hq65 (Or.inl ⟨?hw65, ?hy65⟩) (by assumption) ?rest65
        case hi65 => (simp only [List.getElem?_toArray, List.getElem?_cons_succ, List.getElem?_cons_zero]; rfl)
        case hq65 => exact fun _ _ _ h => h
        case hw65 => rfl
        case hy65 => (intro wq hSw; (try dsimp only at hSw); go_simp; (try with_reducible rfl))
        (try simp only [Act.put, List.setIfInBounds_toArray, List.set_cons_zero, List.set_cons_succ])
        refine wpAnyH_ready (rs := [10]) (by kernel_rfl) (by simp) ?_
        refine' AllReadyH.cons (o := _) ?hi66 (fun K hK => ?rest66) AllReadyH.nil
        case hi66 => (simp only [List.getElem?_toArray, List.getElem?_cons_succ, List.getElem?_cons_zero]; rfl)
        go_simp
        go_at_call 28
        refine (smax_any A c xs _ Hpos.out (HC.out.arg HX.out) hl HBy.out).mono ?_
        rintro e u6 ⟨rfl, rfl⟩
        rw [HMx.out]
        go_wp2_with fail
        refine hK.out _ _ (by (try dsimp only); exact ⟨HC.out.b2_4.1, HC.out.b2_4.2.1, HC.out.b2_4.2.2.1, HC.out.b2_4.2.2.2, bx1 HC.out.x0⟩) (fun hHeld => ?_)
        clear hK K
        (try simp only [Act.put, List.setIfInBounds_toArray, List.set_cons_zero, List.set_cons_succ])
        refine' wpAnyH_take (i := 13) (oi := _) (v := Value.bool false) ?hi67 (by kernel_rfl) (by kernel_rfl) (by kernel_rfl) ?hq67 (Or.inl ⟨?hw67, ?hy67⟩) (by assumption) ?rest67
        case hi67 => (simp only [List.getElem?_toArray, List.getElem?_cons_succ, List.getElem?_cons_zero]; rfl)
        case hq67 => exact fun _ _ _ h => h
        case hw67 => rfl
        case hy67 => (intro wq hSw; (try dsimp only at hSw); (try go_simp); (first | done | (with_reducible rfl) | rfl | exact hge | rw [hge] | simp))
        (try simp only [Act.put, List.setIfInBounds_toArray, List.set_cons_zero, List.set_cons_succ])
        refine' wpAnyH_take (i := 14) (oi := _) (v := Value.bool false) ?hi68 (by kernel_rfl) (by kernel_rfl) (by kernel_rfl) ?hq68 (Or.inl ⟨?hw68, ?hy68⟩) (by assumption) ?rest68
        case hi68 => (simp only [List.getElem?_toArray, List.getElem?_cons_succ, List.getElem?_cons_zero]; rfl)
        case hq68 => exact fun _ _ _ h => h
        case hw68 => rfl
        case hy68 => (intro wq hSw; (try dsimp only at hSw); (try go_simp); (first | done | (with_reducible rfl) | rfl | simp))
        (try simp only [Act.put, List.setIfInBounds_toArray, List.set_cons_zero, List.set_cons_succ])
        refine wpAnyH_done (by kernel_rfl) ?_ _
        clear HMx hHeld hge hge' hmxb
        obtain ⟨rfl, rfl, hln⟩ := HEq.out
        have hP1 := HP1.out
        subst hP1
        obtain ⟨a', rfl⟩ := Int.eq_ofNat_of_zero_le (show 0 ≤ a by have := HA.out; omega)
        have ha4 : 1 ≤ a' ∧ a' ≤ 4 := by have := HA.out; omega
        clear HEq HP1
        have HLn := Lib.hid hln
        obtain ⟨m0, m1, m2, m3⟩ := HC.out.b2_4
        have HPL := Lib.hid (iPlane_any W' H' 1 0 hW hH (by omega) (by omega) A c xs (by rw [hln]; omega) u6 (HC.out.arg HX.out))
        clear hln
        go_wp2_with fail
        refine HPL.out.mono ?_
        rintro e u7 ⟨v7, rfl, hO7, hB7⟩
        clear HPL m0 m1 m2 m3
        have S7 := GS.add HC.out hO7 hB7
        obtain ⟨A7, c7, rfl, hc7⟩ := hO7.slice
        have hl7 : (img W' H' 1 (fun x y _ => px W' 1 xs x y 0)).length = W' * H' := by rw [img_len]; simp
        rw [hl7] at hc7 S7 ⊢
        obtain ⟨gb, hgb⟩ : ∃ gb, gb = u7.heap.size := ⟨_, rfl⟩
        have HGb := Lib.hid hgb
        have S8 := Lib.hid (GS.box' S7 55 #[.int .i64 (W' : Int), .int .i64 (H' : Int), .slice A7 (W' * H') c7] gb hgb)
        obtain ⟨n, hn⟩ : ∃ n, n = W' * H' := ⟨_, rfl⟩
        rw [← hn] at S8 hc7 ⊢
        have Hn := Lib.hid hn
        clear hO7 hB7 S7 HC hgb hl7 hn
        obtain ⟨m0, m1, m2, m3⟩ := S8.out.b3_4
        go_wp2_with fail
        rw [← HGb.out]
        generalize u7.alloc (.cells #[.int .i64 (W' : Int), .int .i64 (H' : Int), .slice A7 n c7] 55) = u8 at *
        have HBU := Lib.hid (build_any W' H' hW hH 32 #[.pointer (some ⟨cb, 0, none⟩), .pointer (some ⟨gb, 0, none⟩)] (ciF W' xs xss) u8 Eg.out (fun x y w' hx hy hbel => by
          obtain ⟨vn, h1, h2⟩ := HVn.out (y * W' + x) (by rw [HLn.out]; exact row_lt hx hy)
          have h3 : px W' 1 xs x y 0 = (vn : Int) := by rw [← h1]; unfold px pix; rw [Nat.mul_one, Nat.add_zero]
          have h4 : (px W' 1 xs x y 0).toNat = vn := by rw [h3]; rfl
          have h := iCo1_any W' H' n Hn.out.symm hW hH A7 c7 (fun x y => px W' 1 xs x y 0) hc7 A6 n2 c6 xss x y hx hy vn h3 h2 cb gb w' ((S8.out.call hbel).r0) ((S8.out.call hbel).rdsT (E := 62) (C := 4) (lo := lo6) (hi := hi6) (A := A6) (n := n2) (m := n2) (c := c6) (xs := clr xss n2) (by simp)) ((S8.out.call hbel).x1) ((S8.out.call hbel).x0)
          have e : colV (ciF W' xs xss x y) = colV (fun p => (xss.getD vn []).getD p 0) := by
            have h5 : ciF W' xs xss x y = fun p => (xss.getD vn []).getD p 0 := by funext p; unfold ciF; rw [h4]
            rw [h5]
          rw [e]; exact h))
        refine HBU.out.mono ?_
        rintro e u9 ⟨v9, rfl, hO9, hB9⟩
        have S9 := GS.addR S8.out hO9 hB9
        obtain ⟨A9, c9, rfl, hc9⟩ := hO9.slice
        have HS9 := Lib.hid (show GS w u9 (rt 62 4 u8.heap.size u9.heap.size (.slice A9 (W' * H') c9) (W' * H') (img W' H' 4 (ciF W' xs xss)) :: _) _ from S9)
        clear hO9 hB9 S8 S9 HBU m0 m1 m2 m3
        have HJg := Lib.hid (imageOf_any W' H' a' hW hH ha4.2 A9 c9 (ciF W' xs xss) u9 (HS9.out.t0) hc9)
        go_wp2_with fail
        refine HJg.out.mono ?_
        rintro e u10 ⟨v10, rfl, hO10, hB10⟩
        have S10 := GS.add HS9.out hO10 hB10
        obtain ⟨A10, c10, rfl, hc10⟩ := hO10.slice
        clear hO10 hB10 HS9 HJg
        obtain ⟨r0, r1, r2, r3⟩ := S10.b2_4
        have f0 := S10.f2 0
        have f1 := S10.f2 1
        have f2 := S10.f2 2
        have f3 := S10.f2 3
        have HE := Lib.hid (S10.e2_4 (.int .i64 (W' : Int)) (.int .i64 (H' : Int)) (.int .i64 (a' : Int)) (.slice A10 (img W' H' a' (ciF W' xs xss)).length c10))
        clear S10
        go_wp2
        exact bodyPost_ret (v := .tuple #[.agg #[.int .i64 (W' : Int), .int .i64 (H' : Int), .int .i64 (a' : Int), .slice A10 (img W' H' a' (ciF W' xs xss)).length c10], .bool true]) (by simp [results, Try.results7, go_sem, r0, r1, r2, r3]) rfl (ColR.yes Hv.out (HE.out.2 _ (List.Mem.head _)) HE.out.1)
end Go.Proofs.Ytjcohmljpokgcaa
