/- Contract of the drawing of sprites. -/
import Derived.Test.YtgieijogopcjnaaSpoil
import Derived.Test.YtgieijogopcjnaaOwnZ
namespace Go.Proofs.Ytgieijogopcjnaa
open Go.RowKit
set_option linter.unusedSimpArgs false
set_option linter.unusedVariables false
set_option maxRecDepth 20000

/-- Drawn: a slice of sizes. -/
def DrawnZ (g N : Nat) (w : World) (e : Ending) (w' : World) : Prop :=
  ∃ v n xs, e = .returned v ∧ n ≤ 13 ∧ OwnT 44 2 w' w.heap.size v n xs ∧ Rdr w' g N ∧ w.grownBy w' (some g)
theorem one_litZ (cs : Array Value) (xs : List Int) (n c p : Nat) (g N : Nat) (w : World) (hp : p = w.heap.size) (h : Rdr w g N) (hN : N ≤ 1000000000) (hx : 0 < xs.length) (hl : xs.length ≤ 1000) (hn : n = xs.length) (hcs : cs.toList = xs.map (.int .i64)) :
    Calls Try.prog 26 #[.pointer (some ⟨g, 0, none⟩), .slice (some ⟨p, 0, none⟩) n c] (w.alloc (.cells cs 3)) fun e w' => ∃ k : Int, e = .returned (.int .i64 k) ∧ k ∈ xs ∧ Rdr w' g (N + 1) ∧ w.grownBy w' (some g) := by
  subst hp
  exact one_lit cs xs n c g N w h hN hx hl hn hcs
theorem OwnT.offG {E : TypeId} {C : Nat} {w w' : World} {base : Nat} {v : Value} {n g : Nat} {xs : List Int} (h : OwnT E C w base v n xs) (hG : w.grownBy w' (some g)) (hg : g < base) : OwnT E C w' base v n xs :=
  h.kept hG (.inr (fun e => by have := (h.lt g e).1; omega))
theorem cells_two (w : World) (a b : Int) : ∀ q : Nat, q < [a, b].length → (w.alloc (.cells #[.int .i64 a, .int .i64 b] 44)).cell? ⟨w.heap.size, q, none⟩ = some (.int .i64 ([a, b].getD q 0)) := fun q hq => by
  have h : (w.alloc (.cells #[.int .i64 a, .int .i64 b] 44)).heap[w.heap.size]? = some (.cells #[.int .i64 a, .int .i64 b] 44 (0, 0)) := heap_alloc_new w _
  rcases q with _ | _ | q
  · exact cell_of_row _ _ 0 _ _ _ h
  · exact cell_of_row _ _ 1 _ _ _ h
  · simp at hq; omega
theorem pst_w {x : Int} (h : x ∈ [10, 16, 8, 20, 64, 65, 0]) : 0 ≤ x ∧ x ≤ 65 := by simp at h; omega
theorem pst_n {x : Int} (h : x ∈ [3, 5, 8, 2, 1, 0, 12, 13]) : 0 ≤ x ∧ x ≤ 13 := by simp at h; omega
set_option maxHeartbeats 8000000 in
theorem anySprites_any (g N : Nat) (w : World) (h : Rdr w g N) (hN : N ≤ 1000000) :
    Calls Try.prog 42 #[.pointer (some ⟨g, 0, none⟩)] w (DrawnZ g (N + 100) w) := by
  have hgl := h.lt
  have HO0 : Hid (OwnT 44 2 (w.alloc (.cells #[] 44)) w.heap.size (.slice (some ⟨w.heap.size, 0, none⟩) 0 0) 0 []) := Lib.hid (OwnT.none _ _ w)
  have HR0 : Hid (Rdr (w.alloc (.cells #[] 44)) g N) := Lib.hid (h.alloc _)
  have HG0 : Hid (w.grownBy (w.alloc (.cells #[] 44)) (some g)) := Lib.hid (World.grownBy_alloc w _ _)
  obtain ⟨u0, hu⟩ : ∃ u0, u0 = w.alloc (.cells #[] 44) := ⟨_, rfl⟩
  have Hz : Hid (w.heap.size + 1 = u0.heap.size) := Lib.hid (by rw [hu]; simp)
  rw [← hu] at HO0 HR0 HG0
  have HU := Lib.hid hu
  clear h hu
  go_enter Try.func42, Try.ntmps42
  go_wp2_with fail
  rw [← HU.out]
  clear HU
  refine (one_litZ _ [3, 5, 8, 2, 1, 0, 12, 13] 8 8 _ g N u0 Hz.out HR0.out (by omega) (by simp) (by simp) rfl rfl).mono ?_
  rintro e u1 ⟨m, rfl, hm, hR1, hG1⟩
  have hmb := pst_n hm
  have HO1 := Lib.hid (HO0.out.offG hG1 hgl)
  have HR1 := Lib.hid hR1
  have HG1 := Lib.hid (gtrans HG0.out hG1)
  clear hm hR1 hG1 HO0 HR0 HG0
  go_wp2
  go_loopw [3, 4] (fun v i wr => ∃ (q k : Nat) (ys : List Int), (q + k : Int) = m ∧ i = .int .i64 (q : Int) ∧ Hid (OwnT 44 2 wr w.heap.size v k ys ∧ Rdr wr g (N + 1 + 2 * k) ∧ w.grownBy wr (some g))) (fun _ i _ => (intOf i).toNat)
  case atStart => exact ⟨m.toNat, 0, [], by omega, by rw [Int.toNat_of_nonneg hmb.1], Lib.hid ⟨HO1.out, HR1.out, HG1.out⟩⟩
  case round =>
    clear HO1 HR1 HG1
    obtain ⟨q, k, ys, hqk, rfl, hI⟩ := hrel
    rename World => wr
    obtain ⟨A1, c1, rfl, hc1⟩ := hI.out.1.slice
    have HO := Lib.hid hI.out.1
    have HR := Lib.hid hI.out.2.1
    have HG := Lib.hid hI.out.2.2
    clear hI
    by_cases hq0 : (0 : Int) < (q : Int)
    · go_wp2_with fail
      refine (pick_any 8 g (N + 1 + 2 * k) wr HR.out (by omega) (by omega)).mono ?_
      intro e w2 hp
      obtain ⟨x, rfl, hx, hR2, hG2, hs2⟩ := picked_nat hp (by omega)
      have HO2 := Lib.hid (HO.out.offG hG2 hgl)
      have HR2 := Lib.hid hR2
      have HG2 := Lib.hid (gtrans HG.out hG2)
      clear hp hR2 hG2 hs2 HO HR HG
      go_wp2_with fail
      refine (pick_any 8 g (N + 1 + 2 * k + 1) w2 HR2.out (by omega) (by omega)).mono ?_
      intro e w3 hp
      obtain ⟨y, rfl, hy, hR3, hG3, hs3⟩ := picked_nat hp (by omega)
      obtain ⟨a, ha⟩ : ∃ a : Int, a = 1 + (x : Int) := ⟨_, rfl⟩
      obtain ⟨b, hb⟩ : ∃ b : Int, b = 1 + (y : Int) := ⟨_, rfl⟩
      have HO3 := Lib.hid ((HO2.out.offG hG3 hgl).alloc (.cells #[.int .i64 a, .int .i64 b] 44))
      have HR3 := Lib.hid (hR3.alloc (.cells #[.int .i64 a, .int .i64 b] 44))
      have HG3 := Lib.hid (gtrans (gtrans HG2.out hG3) (World.grownBy_alloc w3 (.cells #[.int .i64 a, .int .i64 b] 44) (some g)))
      have HC := Lib.hid (cells_two w3 a b)
      have Hz3 := Lib.hid (show w.heap.size ≤ w3.heap.size by have h1 := HG2.out.size; have h2 := hG3.size; exact Nat.le_trans h1 h2)
      rw [ha, hb] at HO3 HR3 HG3 HC
      clear hp hR3 hG3 hs3 HO2 HR2 HG2
      go_wp2_with (at_builtin; refine wpList_appSize rfl (.tmp 13) (.tmp 21) rfl w.heap.size (.slice A1 k c1) k ys rfl HO3.out w3.heap.size 1 1 [1 + (x : Int), 1 + (y : Int)] rfl (by simp) HC.out (by omega) (by have := Hz3.out; simp; omega) ?_; intro v4 w4 hO4 hG4)
      have HN : Hid (OwnT 44 2 w4 w.heap.size v4 (k + 1) (ys ++ [1 + (x : Int), 1 + (y : Int)]) ∧ Rdr w4 g (N + 1 + 2 * (k + 1)) ∧ w.grownBy w4 (some g)) := Lib.hid ⟨hO4, (HR3.out.grown hG4 (fun j hj => by have := (HO3.out.lt j hj).1; omega)).more (by omega), gmix HG3.out hG4 (fun j hj => (HO3.out.lt j hj).1)⟩
      clear hO4 hG4 HO3 HR3 HG3 HC Hz3
      go_wp2
      go_roundw
      case rel => exact ⟨q - 1, k + 1, _, by omega, by rw [show (q : Int) - 1 = ((q - 1 : Nat) : Int) by omega], HN⟩
      case measure => simp [intOf]; omega
    · have hk13 : k ≤ 13 := by omega
      by_cases hk0 : k = 0
      · subst hk0
        have HE : Hid (DrawnZ g (N + 100) w (.returned (.slice A1 0 c1)) wr) := Lib.hid ⟨_, 0, ys, rfl, by omega, HO.out, HR.out.more (by omega), HG.out⟩
        clear HO HR HG
        go_wp2
        go_ret
        exact HE.out
      · have hkp : (0 : Int) < (k : Int) := by omega
        go_wp2_with fail
        refine (pick_any 20 g (N + 1 + 2 * k) wr HR.out (by omega) (by omega)).mono ?_
        intro e w2 hp
        obtain ⟨x, rfl, hx, hR2, hG2, hs2⟩ := picked_nat hp (by omega)
        have HO2 := Lib.hid (HO.out.offG hG2 hgl)
        have HR2 := Lib.hid hR2
        have HG2 := Lib.hid (gtrans HG.out hG2)
        clear hp hR2 hG2 hs2 HO HR HG
        by_cases hx0 : x = 0
        · have hxI : ((x : Int) == 0) = true := by rw [hx0]; rfl
          clear hx0
          go_wp2_with fail
          refine (one_litZ _ [0, 16, 65] 3 3 _ g (N + 1 + 2 * k + 1) w2 rfl HR2.out (by omega) (by simp) (by simp) rfl rfl).mono ?_
          rintro e w3 ⟨a, rfl, _, hR3, hG3⟩
          have HO3 := Lib.hid (HO2.out.offG hG3 hgl)
          have HR3 := Lib.hid hR3
          have HG3 := Lib.hid (gtrans HG2.out hG3)
          clear hR3 hG3 HO2 HR2 HG2
          go_wp2_with fail
          refine (one_litZ _ [0, 16, 17] 3 3 _ g (N + 1 + 2 * k + 1 + 1) w3 rfl HR3.out (by omega) (by simp) (by simp) rfl rfl).mono ?_
          rintro e w4 ⟨b, rfl, _, hR4, hG4⟩
          have hO4 := HO3.out.offG hG4 hgl
          obtain ⟨gb, cap, e9, hgb, hgbl⟩ := hO4.form (by omega)
          simp only [Value.slice.injEq] at e9
          obtain ⟨rfl, _, rfl⟩ := e9
          have hl := hO4.len
          have p0 := hO4.cell (j := 0) (by omega)
          have p1 := hO4.cell (j := 1) (by omega)
          have f0 := hO4.frozen 0
          have f1 := hO4.frozen 1
          have hP1 := hO4.put 0 a
          have hP2 := hP1.1.put 1 b
          have HE : Hid (DrawnZ g (N + 100) w (.returned (.slice (some ⟨gb, 0, none⟩) k c1)) ((w4.setCell ⟨gb, 0, none⟩ (.int .i64 a)).setCell ⟨gb, 1, none⟩ (.int .i64 b))) := Lib.hid
            ⟨_, k, _, rfl, by omega, hP2.1, ((hR4.grown hP1.2 (fun j hj => by cases hj; omega)).grown hP2.2 (fun j hj => by cases hj; omega)).more (by omega), gmix (gmix (gtrans HG3.out hG4) hP1.2 (fun j hj => by cases hj; omega)) hP2.2 (fun j hj => by cases hj; omega)⟩
          clear hR4 hG4 hO4 hP1 hP2 HO3 HR3 HG3
          go_wp2
          go_ret
          exact HE.out
        · have hxI : ((x : Int) == 0) = false := beq_eq_false_iff_ne.2 (by omega)
          have HE : Hid (DrawnZ g (N + 100) w (.returned (.slice A1 k c1)) w2) := Lib.hid ⟨_, k, ys, rfl, by omega, HO2.out, HR2.out.more (by omega), HG2.out⟩
          clear HO2 HR2 HG2
          go_wp2
          go_ret
          exact HE.out
/-- Drawn from a code: sizes and a width. -/
def DrawnW (w : World) (e : Ending) (w' : World) : Prop :=
  ∃ (A : Option Addr) (n c : Nat) (xs : List Int) (W : Int), e = .returned (.tuple #[.slice A n c, .int .i64 W]) ∧ (n ≤ 13 ∧ n ≤ c ∧ xs.length = 2 * n) ∧ (0 ≤ W ∧ W ≤ 65) ∧ Rds .i64 w' w'.heap.size A xs ∧ Below w.heap.size w w'
set_option maxHeartbeats 8000000 in
theorem drawPck_any (A : Option Addr) (c : Nat) (bs : List Int) (w : World) (hc : bs.length ≤ c) (h : Rdw .u8 w w.heap.size A bs) :
    Calls Try.prog 21 #[.slice A bs.length c] w (DrawnW w) := by
  have Hh := Lib.hid h
  clear h
  go_enter Try.func21, Try.ntmps21
  go_wp2_with fail
  refine (newReader_any A c bs w hc Hh.out).mono ?_
  rintro e u1 ⟨rfl, hr1, hb1, hs1⟩
  obtain ⟨g, hg⟩ : ∃ g, g = w.heap.size := ⟨_, rfl⟩
  rw [← hg] at hr1 ⊢
  have HB1 := Lib.hid hb1
  have Hg := Lib.hid hg
  have hz1 := hr1.lt
  clear hb1 hs1 hg Hh
  go_wp2_with fail
  refine (anySprites_any g 0 u1 hr1 (by omega)).mono ?_
  rintro e u2 ⟨v, n, xs, rfl, hn, hO, hR2, hG2⟩
  obtain ⟨A2, c2, rfl, hc2⟩ := hO.slice
  have HO2 := Lib.hid hO
  have HG2 := Lib.hid hG2
  clear hO hG2 hr1
  go_wp2_with fail
  refine (one_litZ _ [10, 16, 8, 20, 64, 65, 0] 7 7 _ g (0 + 100) u2 rfl hR2 (by omega) (by simp) (by simp) rfl rfl).mono ?_
  rintro e u3 ⟨W, rfl, hW, hR3, hG3⟩
  have hWb := pst_w hW
  have HE : Hid (DrawnW w (.returned (.tuple #[.slice A2 n c2, .int .i64 W])) u3) := Lib.hid
    ⟨A2, n, c2, xs, W, rfl, ⟨hn, hc2, by have := HO2.out.len; omega⟩, hWb, (HO2.out.offG hG3 hz1).rds, HB1.out.grown (gtrans HG2.out hG3) HB1.out.size (fun k hk => by injection hk with hk; have := Hg.out; omega)⟩
  clear hW hR2 hR3 hG3 HO2 HG2 HB1
  go_wp2
  exact bodyPost_ret (v := .tuple #[.slice A2 n c2, .int .i64 W]) (by simp [results, Try.results21, go_sem]) rfl HE.out
end Go.Proofs.Ytgieijogopcjnaa
