/- Contracts of the drawing of a pixel, and of the arguments of FillImage. -/
import Derived.Test.YtjcohmljpokgcaaSpoil
namespace Go.Proofs.Ytjcohmljpokgcaa
open Go.RowKit
set_option linter.unusedSimpArgs false
set_option linter.unusedVariables false

/-- Drawn: a short list. -/
def DrawnL (n g N : Nat) (w : World) (e : Ending) (w' : World) : Prop :=
  ∃ (A : Option Addr) (c : Nat) (ys : List Int), e = .returned (.slice A ys.length c) ∧ ys.length ≤ c ∧ ys.length ≤ n ∧ Rds .i64 w' w'.heap.size A ys ∧ Rdr w' g N ∧ w.grownBy w' (some g) ∧ ∀ b : Addr, A = some b → w.heap.size ≤ b.block
set_option maxHeartbeats 4000000 in
theorem anyPixel_any (P : Int) (hP : P ≤ 100) (g N : Nat) (w : World) (h : Rdr w g N) (hN : N ≤ 10000000) :
    Calls Try.prog 46 #[.pointer (some ⟨g, 0, none⟩), .int .i64 P] w (DrawnL 101 g (N + 103) w) := by
  have hgl := h.lt
  have HO0 : Hid (Own (w.alloc (.cells #[] 3)) w.heap.size (.slice (some ⟨w.heap.size, 0, none⟩) 0 0) []) := Lib.hid (own_none w)
  have HR0 : Hid (Rdr (w.alloc (.cells #[] 3)) g N) := Lib.hid (h.alloc _)
  have HG0 : Hid (w.grownBy (w.alloc (.cells #[] 3)) (some g)) := Lib.hid (World.grownBy_alloc w _ _)
  clear h
  go_enter Try.func46, Try.ntmps46
  go_wp2
  go_loopw [5, 6] (fun v i wr => ∃ (k : Nat) (ys : List Int), k ≤ 100 ∧ i = .int .i64 (k : Int) ∧ ys.length = k ∧ Hid (Own wr w.heap.size v ys ∧ Rdr wr g (N + k) ∧ w.grownBy wr (some g))) (fun _ i _ => 100 - (intOf i).toNat)
  case atStart => exact ⟨0, [], by omega, rfl, rfl, Lib.hid ⟨HO0.out, HR0.out, HG0.out⟩⟩
  case round =>
    obtain ⟨k, ys, hk, rfl, hyl, hI⟩ := hrel
    obtain ⟨hO, hR, hG⟩ := hI.out
    obtain ⟨A1, c1, rfl, hc1⟩ := hO.slice
    have HYL := Lib.hid hyl
    have hyl2 : ys.length ≤ 100 := by omega
    have HO := Lib.hid hO
    have HR := Lib.hid hR
    have HG := Lib.hid hG
    clear hO hR hG hI hyl HO0 HR0 HG0
    by_cases hlt : (k : Int) < P
    · go_wp2_with fail
      refine (pick_any 256 g (N + k) wr HR.out (by omega) (by omega)).mono ?_
      intro e w2 hp
      obtain ⟨x, rfl, hx, hR2, hG2, hs2⟩ := picked_nat hp (by omega)
      have HO2 := Lib.hid ((HO.out.off hG2 hgl).alloc (.cells #[.int .i64 (x : Int)] 3))
      have HR2 := Lib.hid (hR2.alloc (.cells #[.int .i64 (x : Int)] 3))
      have HG2 := Lib.hid (gtrans (gtrans HG.out hG2) (World.grownBy_alloc w2 (.cells #[.int .i64 (x : Int)] 3) (some g)))
      have HQ := Lib.hid (rds_one w2 (x : Int))
      have hz2 : w.heap.size ≤ w2.heap.size := by have h1 := HG.out.size; have h2 := hG2.size; omega
      clear hp hR2 hG2 hs2 HO HR HG
      go_wp2_with (at_builtin; refine wpList_app rfl (.tmp 13) (.tmp 16) rfl w.heap.size (.slice A1 ys.length c1) ys rfl HO2.out (some ⟨w2.heap.size, 0, none⟩) 1 1 _ [(x : Int)] rfl rfl HQ.out (by simp; omega) (by simp; omega) ?_; intro v3 w3 hO3 hG3)
      have HN : Hid (Own w3 w.heap.size v3 (ys ++ [(x : Int)]) ∧ Rdr w3 g (N + (k + 1)) ∧ w.grownBy w3 (some g)) := Lib.hid ⟨hO3, (HR2.out.grown hG3 (fun j hj => by have := (HO2.out.lt j hj).1; omega)).more (by omega), gmix HG2.out hG3 (fun j hj => (HO2.out.lt j hj).1)⟩
      clear hO3 hG3 HO2 HR2 HG2 HQ
      go_roundw
      case rel => exact ⟨k + 1, _, by omega, by go_num, by simp [HYL.out], HN⟩
      case measure => simp [intOf]; omega
    · go_wp2_with fail
      refine (spoil_any A1 c1 ys 256 g (N + k) wr HR.out (by omega) HO.out.rds.2 (by omega)).mono ?_
      rintro e w2 ⟨A2, c2, zs, rfl, hzc, hzl, hz, hR2, hG2, hA2⟩
      have hsz := HG.out.size
      have HE : Hid (DrawnL 101 g (N + 103) w (.returned (.slice A2 zs.length c2)) w2) := Lib.hid ⟨A2, c2, zs, rfl, hzc, by omega, hz, hR2.more (by omega), gtrans HG.out hG2, fun b hb => by have := hA2 b hb; omega⟩
      clear hz hR2 hG2 hA2 HO HR HG hzc hzl
      go_wp2
      go_ret
      exact HE.out
/-- Drawn from a code: width, height and a pixel. -/
def DrawnFill (w : World) (e : Ending) (w' : World) : Prop :=
  ∃ (W H : Int) (A : Option Addr) (c : Nat) (q : List Int), e = .returned (.tuple #[.int .i64 W, .int .i64 H, .slice A q.length c]) ∧ (0 ≤ W ∧ W ≤ 17) ∧ (0 ≤ H ∧ H ≤ 17) ∧ q.length ≤ 256 ∧ q.length ≤ c ∧ Rds .i64 w' w'.heap.size A q ∧ Below w.heap.size w w'
theorem one_litF (cs : Array Value) (xs : List Int) (n c p : Nat) (g N : Nat) (w : World) (hp : p = w.heap.size) (h : Rdr w g N) (hN : N ≤ 1000000000) (hx : 0 < xs.length) (hl : xs.length ≤ 1000) (hn : n = xs.length) (hcs : cs.toList = xs.map (.int .i64)) :
    Calls Try.prog 45 #[.pointer (some ⟨g, 0, none⟩), .slice (some ⟨p, 0, none⟩) n c] (w.alloc (.cells cs 3)) fun e w' => ∃ k : Int, e = .returned (.int .i64 k) ∧ k ∈ xs ∧ Rdr w' g (N + 1) ∧ w.grownBy w' (some g) := by
  subst hp
  exact one_lit cs xs n c g N w h hN hx hl hn hcs
set_option maxHeartbeats 4000000 in
theorem drawFill_any (A : Option Addr) (c : Nat) (bs : List Int) (w : World) (hc : bs.length ≤ c) (h : Rdw .u8 w w.heap.size A bs) :
    Calls Try.prog 11 #[.slice A bs.length c] w (DrawnFill w) := by
  have Hh := Lib.hid h
  clear h
  go_enter Try.func11, Try.ntmps11
  go_wp2_with fail
  refine (newReader_any A c bs w hc Hh.out).mono ?_
  rintro e u1 ⟨rfl, hr1, hb1, hs1⟩
  have HB1 := Lib.hid hb1
  obtain ⟨g, hg⟩ : ∃ g, g = w.heap.size := ⟨_, rfl⟩
  rw [← hg] at hr1 ⊢
  have Hg := Lib.hid hg
  have hz1 : g < u1.heap.size := by omega
  clear hb1 hs1 hg Hh
  go_wp2_with fail
  refine (one_litF _ [1, 3, 5, 16, 17, 0] 6 6 _ g 0 u1 rfl hr1 (by omega) (by simp) (by simp) rfl rfl).mono ?_
  rintro e u2 ⟨W, rfl, hW, hR2, hG2⟩
  have hWb : 0 ≤ W ∧ W ≤ 17 := by simp at hW; omega
  have HG2 := Lib.hid hG2
  have hz2 : g < u2.heap.size := by have := hG2.size; omega
  clear hW hG2 hr1
  go_wp2_with fail
  refine (one_litF _ [1, 3, 5, 16, 17, 0] 6 6 _ g 1 u2 rfl hR2 (by omega) (by simp) (by simp) rfl rfl).mono ?_
  rintro e u3 ⟨H, rfl, hH, hR3, hG3⟩
  have hHb : 0 ≤ H ∧ H ≤ 17 := by simp at hH; omega
  have HG3 := Lib.hid (gtrans HG2.out hG3)
  have hz3 : g < u3.heap.size := by have := hG3.size; omega
  clear hH hG3 hR2 HG2
  go_wp2_with fail
  refine (one_litF _ [1, 3, 4, 2, 0, 5] 6 6 _ g 2 u3 rfl hR3 (by omega) (by simp) (by simp) rfl rfl).mono ?_
  rintro e u4 ⟨P, rfl, hP, hR4, hG4⟩
  have hPb : P ≤ 100 := by simp at hP; omega
  have HG4 := Lib.hid (gtrans HG3.out hG4)
  have hz4 : g < u4.heap.size := by have := hG4.size; omega
  clear hP hG4 hR3 HG3
  go_wp2_with fail
  refine (anyPixel_any P hPb g 3 u4 hR4 (by omega)).mono ?_
  rintro e u5 ⟨A5, c5, q, rfl, hqc, hql, hq, hR5, hG5, hA5⟩
  have HE : Hid (DrawnFill w (.returned (.tuple #[.int .i64 W, .int .i64 H, .slice A5 q.length c5])) u5) := Lib.hid ⟨W, H, A5, c5, q, rfl, hWb, hHb, by omega, hqc, hq, by
    have hG : u1.grownBy u5 (some g) := gtrans HG4.out hG5
    exact HB1.out.grown hG HB1.out.size (fun k hk => by injection hk with hk; have := Hg.out; omega)⟩
  clear hq hR5 hG5 hA5 hR4 HG4 HB1
  go_wp2
  exact bodyPost_ret (v := .tuple #[.int .i64 W, .int .i64 H, .slice A5 q.length c5]) (by simp [results, Try.results11, go_sem]) rfl HE.out
end Go.Proofs.Ytjcohmljpokgcaa
