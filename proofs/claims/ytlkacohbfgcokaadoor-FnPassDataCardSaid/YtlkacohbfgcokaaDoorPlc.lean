/- The places of a pattern, as an iterator. -/
import Derived.RangeFuncNested
import Derived.RangeFuncBound
import Derived.RangeFuncCalls
import Derived.RangeFuncLeaves
import Derived.RangeFuncBox
import Derived.Shelf.Abstract
import Derived.Shelf.RegionOpen
import Derived.WalkKit
import Derived.OwnWalkIn
import Derived.TacticsInMore
import Derived.LoopNIn
import Derived.LoopIn
import Derived.Test.YtlkacohbfgcokaaDoorGen
import Derived.Test.YtlkacohbfgcokaaDoorPix
namespace Go.Proofs.YtlkacohbfgcokaaDoor
open Go.RowKit Go.Shelf
set_option linter.unusedSimpArgs false
set_option linter.unusedVariables false

theorem row_ltp {W H x y : Nat} (hx : x < W) (hy : y < H) : y * W + x < W * H := by
  have := Nat.mul_le_mul_right W (show y + 1 ≤ H by omega)
  rw [Nat.succ_mul, Nat.mul_comm H W] at this
  omega
theorem fin_tk (M k : Nat) (hk : k < M) : (List.finRange M).take (k + 1) = (List.finRange M).take k ++ [⟨k, hk⟩] := by
  have hlen : k < (List.finRange M).length := by simpa using hk
  rw [List.take_succ_eq_append_getElem hlen]
  simp
/-- What the iterator needs of its boxes. -/
def PB (bp bw bh fx dx fy dy X Y : Nat) (W : World) : Prop := Bx W bp 65 #[.int .i64 (fx : Int), .int .i64 (dx : Int), .int .i64 (fy : Int), .int .i64 (dy : Int)] ∧ Boxed W bw 3 (.int .i64 (X : Int)) ∧ Boxed W bh 3 (.int .i64 (Y : Int))
set_option maxRecDepth 100000 in
set_option maxHeartbeats 4000000 in
theorem places1_in (n : Nat) (hn : 1 ≤ n) (l bp bw bh fx dx fy dy X Y N M T : Nat) (hT : T = N * M) (hdx : 1 ≤ dx) (hdy : 1 ≤ dy) (hX : X ≤ 1000) (hY0 : Y ≤ 1000) (hdx2 : dx ≤ 1000) (hdy2 : dy ≤ 1000) (hfx : fx ≤ 1000) (hfy : fy ≤ 1000)
    (hN1 : ∀ i, i < N → fx + dx * i < X) (hN2 : X ≤ fx + dx * N) (hM1 : ∀ i, i < M → fy + dy * i < Y) (hM2 : Y ≤ fy + dy * M) (J Jx : List (Fin T) → World → Prop)
    (hY : ∀ pre x W, J pre W → pre.length < T → YieldAt Fence.wide (n - 1) Tryd.prog l #[.int .i64 ((fx + dx * (x.val % N) : Nat) : Int), .int .i64 ((fy + dy * (x.val / N) : Nat) : Int)] W fun e W' =>
      (e = .returned (.bool true) ∧ J (pre ++ [x]) W' ∧ (PB bp bw bh fx dx fy dy X Y W → PB bp bw bh fx dx fy dy X Y W')) ∨ (e = .returned (.bool false) ∧ Jx (pre ++ [x]) W'))
    (W : World) (hB : PB bp bw bh fx dx fy dy X Y W) (h0 : J [] W) :
    CallsIn Fence.wide n Tryd.prog 63 #[.func (.yield l) #[] #[], .pointer (some ⟨bp, 0, none⟩), .pointer (some ⟨bh, 0, none⟩), .pointer (some ⟨bw, 0, none⟩)] W fun e W' => (∃ v, e = .returned v) ∧
      ((∃ ys, ys = List.finRange T ∧ J ys W') ∨ (∃ pre : List (Fin T), True ∧ Jx pre W')) := by
  obtain ⟨c0, c1, c2, c3⟩ : W.cell? ⟨bp, 0, none⟩ = some (.int .i64 (fx : Int)) ∧ W.cell? ⟨bp, 1, none⟩ = some (.int .i64 (dx : Int)) ∧ W.cell? ⟨bp, 2, none⟩ = some (.int .i64 (fy : Int)) ∧ W.cell? ⟨bp, 3, none⟩ = some (.int .i64 (dy : Int)) := ⟨cell_of_row W bp 0 _ _ _ hB.1, cell_of_row W bp 1 _ _ _ hB.1, cell_of_row W bp 2 _ _ _ hB.1, cell_of_row W bp 3 _ _ _ hB.1⟩
  have HI0 : Hid (J ((List.finRange T).take (0 * N)) W ∧ PB bp bw bh fx dx fy dy X Y W) := Lib.hid ⟨by simpa using h0, hB⟩
  have HY := Lib.hid hY
  have HN1 := Lib.hid hN1
  have HM1 := Lib.hid hM1
  have HN2 := Lib.hid hN2
  have HM2 := Lib.hid hM2
  have HT := Lib.hid hT
  clear hB h0 hY hN1 hM1 hN2 hM2 hT
  refine callsIn_of_wp Tryd.func63 rfl trivial ?_ rfl
  simp only [Tryd.ntmps63, List.size_toArray, List.length_cons, List.length_nil, Nat.reduceAdd, Nat.reduceSub, Array.replicate_succ, Array.replicate_zero, List.push_toArray, List.append_toArray, List.nil_append, List.cons_append]
  gi_wp2
  clear c0 c1 c2 c3
  gi_loopw [5] (fun y wr => ∃ R v : Nat, R ≤ M ∧ y = .int .i64 (v : Int) ∧ Hid (v = fy + dy * R) ∧ v ≤ 2000 ∧ Hid (J ((List.finRange T).take (R * N)) wr ∧ PB bp bw bh fx dx fy dy X Y wr)) (fun y _ => Y - (intOf y).toNat)
  case atStart => exact ⟨0, fy, Nat.zero_le _, rfl, Lib.hid (by omega), by omega, HI0⟩
  case round =>
    obtain ⟨R, v, hR, rfl, Hv, hv2, HI⟩ := hrel
    clear HI0
    obtain ⟨c0, c1, c2, c3⟩ : wr.cell? ⟨bp, 0, none⟩ = some (.int .i64 (fx : Int)) ∧ wr.cell? ⟨bp, 1, none⟩ = some (.int .i64 (dx : Int)) ∧ wr.cell? ⟨bp, 2, none⟩ = some (.int .i64 (fy : Int)) ∧ wr.cell? ⟨bp, 3, none⟩ = some (.int .i64 (dy : Int)) := by have hB := HI.out.2.1; exact ⟨cell_of_row wr bp 0 _ _ _ hB, cell_of_row wr bp 1 _ _ _ hB, cell_of_row wr bp 2 _ _ _ hB, cell_of_row wr bp 3 _ _ _ hB⟩
    have c4 := HI.out.2.2.1.cell
    have c5 := HI.out.2.2.2.cell
    by_cases hlt : v < Y
    · have hRM : R < M := by
        rcases Nat.lt_or_ge R M with h | h
        · exact h
        · have := HM2.out; have e : R = M := by omega
          subst e; have := Hv.out; omega
      gi_wp2
      clear c0 c1 c2 c3 c4 c5
      gi_loopw [6] (fun x wr => ∃ C u : Nat, C ≤ N ∧ x = .int .i64 (u : Int) ∧ Hid (u = fx + dx * C) ∧ u ≤ 2000 ∧ Hid (J ((List.finRange T).take (R * N + C)) wr ∧ PB bp bw bh fx dx fy dy X Y wr)) (fun x _ => X - (intOf x).toNat)
      case atStart => exact ⟨0, fx, Nat.zero_le _, rfl, Lib.hid (by omega), by omega, HI⟩
      case round =>
        clear HI
        obtain ⟨C, u, hC, rfl, Hu, hu2, HI⟩ := hrel
        rename World => wr
        obtain ⟨c0, c1, c2, c3⟩ : wr.cell? ⟨bp, 0, none⟩ = some (.int .i64 (fx : Int)) ∧ wr.cell? ⟨bp, 1, none⟩ = some (.int .i64 (dx : Int)) ∧ wr.cell? ⟨bp, 2, none⟩ = some (.int .i64 (fy : Int)) ∧ wr.cell? ⟨bp, 3, none⟩ = some (.int .i64 (dy : Int)) := by have hB := HI.out.2.1; exact ⟨cell_of_row wr bp 0 _ _ _ hB, cell_of_row wr bp 1 _ _ _ hB, cell_of_row wr bp 2 _ _ _ hB, cell_of_row wr bp 3 _ _ _ hB⟩
        have c4 := HI.out.2.2.1.cell
        have c5 := HI.out.2.2.2.cell
        by_cases hltx : u < X
        · have hCN : C < N := by
            rcases Nat.lt_or_ge C N with h | h
            · exact h
            · have := HN2.out; have e : C = N := by omega
              subst e; have := Hu.out; omega
          have hkT : R * N + C < T := by rw [HT.out]; exact row_ltp hCN hRM
          obtain ⟨fn, tmps, assign, body, hy, hR⟩ := HY.out _ ⟨R * N + C, hkT⟩ wr HI.out.1 (by simp; omega)
          simp only [row_mod hCN, row_div hCN, ← Hu.out, ← Hv.out] at hy
          have hR2 := Lib.hid hR
          have HB := Lib.hid HI.out.2
          clear hR HI
          gi_wp2
          refine hR2.out.mono ?_
          rintro e W3 (⟨rfl, hJ4, hk4⟩ | ⟨rfl, hJx4⟩)
          · have hB4 := hk4 HB.out
            obtain ⟨c0, c1, c2, c3⟩ : W3.cell? ⟨bp, 0, none⟩ = some (.int .i64 (fx : Int)) ∧ W3.cell? ⟨bp, 1, none⟩ = some (.int .i64 (dx : Int)) ∧ W3.cell? ⟨bp, 2, none⟩ = some (.int .i64 (fy : Int)) ∧ W3.cell? ⟨bp, 3, none⟩ = some (.int .i64 (dy : Int)) := ⟨cell_of_row W3 bp 0 _ _ _ hB4.1, cell_of_row W3 bp 1 _ _ _ hB4.1, cell_of_row W3 bp 2 _ _ _ hB4.1, cell_of_row W3 bp 3 _ _ _ hB4.1⟩
            have HN : Hid (J ((List.finRange T).take (R * N + C + 1)) W3 ∧ PB bp bw bh fx dx fy dy X Y W3) := Lib.hid ⟨by rw [fin_tk T _ hkT]; exact hJ4, hB4⟩
            have Hu2 : Hid (u + dx = fx + dx * (C + 1)) := Lib.hid (by rw [Nat.mul_succ, Hu.out]; omega)
            clear hJ4 hk4 hB4
            gi_wp2
            go_roundw
            case rel => exact ⟨C + 1, u + dx, by omega, by go_num, Hu2, by omega, HN⟩
            case measure => simp [intOf]; omega
          · gi_wp2
            refine bodyPost_ret (results_none rfl _ _ _) rfl ?_
            exact ⟨⟨_, rfl⟩, .inr ⟨_, trivial, hJx4⟩⟩
        · have hCN : C = N := by
            rcases Nat.lt_or_ge C N with h | h
            · have := HN1.out C h; have := Hu.out; omega
            · omega
          have HN : Hid (J ((List.finRange T).take ((R + 1) * N)) wr ∧ PB bp bw bh fx dx fy dy X Y wr) := Lib.hid (by rw [Nat.succ_mul, ← hCN]; rw [hCN]; exact (by rw [hCN] at HI; exact HI.out))
          have Hv2 : Hid (v + dy = fy + dy * (R + 1)) := Lib.hid (by rw [Nat.mul_succ, Hv.out]; omega)
          clear HI
          gi_wp2
          go_roundw
          case rel => exact ⟨R + 1, v + dy, by omega, by go_num, Hv2, by omega, HN⟩
          case measure => simp [intOf]; omega
    · have hRM : R = M := by
        rcases Nat.lt_or_ge R M with h | h
        · have := HM1.out R h; have := Hv.out; omega
        · omega
      have HJ : Hid (J (List.finRange T) wr) := Lib.hid (by have := HI.out.1; rw [List.take_of_length_le (by simp; rw [hRM, Nat.mul_comm, ← HT.out]; exact Nat.le_refl _)] at this; exact this)
      gi_wp2
      go_end0
      exact ⟨⟨_, rfl⟩, .inl ⟨_, rfl, HJ.out⟩⟩
theorem PB.kept {bp bw bh fx dx fy dy X Y : Nat} {W W' : World} (h : PB bp bw bh fx dx fy dy X Y W) (hk : ∀ b, b < W.heap.size → b = bp ∨ b = bw ∨ b = bh → W'.heap[b]? = W.heap[b]?) : PB bp bw bh fx dx fy dy X Y W' :=
  ⟨(hk bp h.1.lt (.inl rfl)).trans h.1, (hk bw h.2.1.lt (.inr (.inl rfl))).trans h.2.1, (hk bh h.2.2.lt (.inr (.inr rfl))).trans h.2.2⟩
/-- The value that places hands back, as an iterator. -/
theorem places_stops (n : Nat) (hn : 1 ≤ n) (bp bw bh fx dx fy dy X Y N M T : Nat) (hT : T = N * M) (hdx : 1 ≤ dx) (hdy : 1 ≤ dy) (hX : X ≤ 1000) (hY0 : Y ≤ 1000) (hdx2 : dx ≤ 1000) (hdy2 : dy ≤ 1000) (hfx : fx ≤ 1000) (hfy : fy ≤ 1000)
    (hN1 : ∀ i, i < N → fx + dx * i < X) (hN2 : X ≤ fx + dx * N) (hM1 : ∀ i, i < M → fy + dy * i < Y) (hM2 : Y ≤ fy + dy * M) (w : World) (hB : PB bp bw bh fx dx fy dy X Y w) :
    SeqStopsK Fence.wide n Tryd.prog 63 #[.pointer (some ⟨bp, 0, none⟩), .pointer (some ⟨bh, 0, none⟩), .pointer (some ⟨bw, 0, none⟩)] (fun x : Fin T => #[.int .i64 ((fx + dx * (x.val % N) : Nat) : Int), .int .i64 ((fy + dy * (x.val / N) : Nat) : Int)]) (fun W W' => PB bp bw bh fx dx fy dy X Y W → PB bp bw bh fx dx fy dy X Y W') (fun ys => ys = List.finRange T) (fun _ => True) T w :=
  fun l J Jx W hW hJ _ hY h0 => places1_in n hn l bp bw bh fx dx fy dy X Y N M T hT hdx hdy hX hY0 hdx2 hdy2 hfx hfy hN1 hN2 hM1 hM2 J Jx hY W (hB.kept fun b hb _ => hW.block b hb) h0
set_option maxHeartbeats 4000000 in
theorem places_any (fx dx fy dy X Y : Nat) (w : World) :
    Calls Tryd.prog 36 #[.agg #[.int .i64 (fx : Int), .int .i64 (dx : Int), .int .i64 (fy : Int), .int .i64 (dy : Int)], .int .i64 (X : Int), .int .i64 (Y : Int)] w fun e w' => e = .returned (.func (.func 63) #[] #[.pointer (some ⟨w.heap.size, 0, none⟩), .pointer (some ⟨w.heap.size + 2, 0, none⟩), .pointer (some ⟨w.heap.size + 1, 0, none⟩)]) ∧ PB w.heap.size (w.heap.size + 1) (w.heap.size + 2) fx dx fy dy X Y w' ∧ Below w.heap.size w w' := by
  obtain ⟨u, hu⟩ : ∃ u, u = ((w.alloc (.cells #[.int .i64 (fx : Int), .int .i64 (dx : Int), .int .i64 (fy : Int), .int .i64 (dy : Int)] 65)).alloc (.cells #[.int .i64 (X : Int)] 3)).alloc (.cells #[.int .i64 (Y : Int)] 3) := ⟨_, rfl⟩
  have HP : Hid (PB w.heap.size (w.heap.size + 1) (w.heap.size + 2) fx dx fy dy X Y u ∧ Below w.heap.size w u) := Lib.hid (by
    have S := (((GS.start w).box' 65 #[.int .i64 (fx : Int), .int .i64 (dx : Int), .int .i64 (fy : Int), .int .i64 (dy : Int)] w.heap.size (by simp)).box' 3 #[.int .i64 (X : Int)] (w.heap.size + 1) (by simp)).box' 3 #[.int .i64 (Y : Int)] (w.heap.size + 2) (by simp)
    rw [← hu] at S
    exact ⟨⟨S.bx (by simp), S.bx (by simp), S.bx (by simp)⟩, S.below⟩)
  have HU := Lib.hid hu
  clear hu
  go_enter Tryd.func36, Tryd.ntmps36
  go_wp2
  rw [← HU.out]
  go_ret
  exact ⟨by simp, HP.out.1, HP.out.2⟩
end Go.Proofs.YtlkacohbfgcokaaDoor
