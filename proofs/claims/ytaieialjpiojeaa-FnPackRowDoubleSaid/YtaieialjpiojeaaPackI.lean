/- Contracts of PackRow in the program: the writer of bits. -/
import Derived.Test.YtaieialjpiojeaaPackS
import Derived.Laws.BitsAllLaws
import Derived.Laws.BitsLemmas
namespace Go.Proofs.Ytaieialjpiojeaa
open Go.RowKit
set_option linter.unusedSimpArgs false
set_option linter.unusedVariables false

theorem or_nat (a b : Nat) (ha : a < 9223372036854775808) (hb : b < 9223372036854775808) : bits .or .i64 (a : Int) (b : Int) = ((a ||| b : Nat) : Int) := by
  have ofI : ∀ x : Nat, x < 9223372036854775808 → (BitVec.ofInt 64 (x : Int)).toNat = x := fun x hx => by
    rw [BitVec.ofInt_natCast, BitVec.toNat_ofNat]; exact Nat.mod_eq_of_lt (by omega)
  have hx : a ||| b < 2 ^ 63 := Nat.or_lt_two_pow (by omega) (by omega)
  show IntKind.i64.wrap ((BitVec.ofInt 64 (a : Int) ||| BitVec.ofInt 64 (b : Int)).toNat : Int) = _
  rw [BitVec.toNat_or, ofI a ha, ofI b hb, IntKind.wrap_i64]
  omega
theorem or_add (q b : Int) (m : Nat) (hq : 0 ≤ q) (hb : 0 ≤ b) (hb2 : b < 2 ^ m) (hs : q * 2 ^ m + 2 ^ m ≤ 256) : bits .or .i64 (q * 2 ^ m) b = q * 2 ^ m + b := by
  obtain ⟨q, rfl⟩ := Int.eq_ofNat_of_zero_le hq
  obtain ⟨b, rfl⟩ := Int.eq_ofNat_of_zero_le hb
  have e : (q : Int) * 2 ^ m = ((2 ^ m * q : Nat) : Int) := by push_cast; exact Int.mul_comm _ _
  have e2 : ((2 : Int) ^ m) = ((2 ^ m : Nat) : Int) := by push_cast; rfl
  have hb3 : b < 2 ^ m := by rw [e2] at hb2; exact Int.ofNat_lt.1 hb2
  rw [e] at hs ⊢
  rw [e2, ← Int.natCast_add] at hs
  have hlt : 2 ^ m * q + 2 ^ m ≤ 256 := Int.ofNat_le.1 hs
  rw [or_nat _ _ (by omega) (by omega), ← Nat.two_pow_add_eq_or_of_lt hb3]
  push_cast
  rfl

/-- Block g holds a writer with the bytes bs and so many free bits; the bytes lie behind it. -/
def BW (w : World) (g : Nat) (bs : List Int) (f : Nat) : Prop := ∃ (A : Option Addr) (c : Nat),
  w.heap[g]? = some (.cells #[.slice A bs.length c, .int .i64 f] 60 (0, 0)) ∧ Own w (g + 1) (.slice A bs.length c) bs
theorem cellB {w : World} {g : Nat} {cs : Array Value} {t : TypeId} {fz : Nat × Nat} (h : w.heap[g]? = some (.cells cs t fz)) (i : Nat) : w.cell? ⟨g, i, none⟩ = cs[i]? := cell_of_row w g i cs t fz h
theorem frozenB {w : World} {g : Nat} {cs : Array Value} {t : TypeId} (h : w.heap[g]? = some (.cells cs t (0, 0))) (i : Nat) : w.frozen? ⟨g, i, none⟩ = false := frozen_of_row w g i cs t h
theorem setB {w : World} {g : Nat} {cs : Array Value} {t : TypeId} (h : w.heap[g]? = some (.cells cs t (0, 0))) (i : Nat) (u : Value) : (w.setCell ⟨g, i, none⟩ u).heap[g]? = some (.cells (cs.setIfInBounds i u) t (0, 0)) := heap_setCell_same w g i cs t u h
theorem Own.setOff {w : World} {base g i : Nat} {v : Value} {xs : List Int} (h : Own w base v xs) (hb : g < base) (u : Value) : Own (w.setCell ⟨g, i, none⟩ u) base v xs :=
  h.keep fun k hk => heap_setCell_other w ⟨g, i, none⟩ k u (by have := (h.lt k hk).1; simp; omega)
theorem bw_end {W : World} {g gb c m f : Nat} {bs : List Int} {z : Int} (hg : W.heap[g]? = some (.cells #[.slice (some ⟨gb, 0, none⟩) bs.length c, .int .i64 f] 60 (0, 0)))
    (hO : Own W (g + 1) (.slice (some ⟨gb, 0, none⟩) bs.length c) bs) (hgb : g + 1 ≤ gb) : BW (W.setCell ⟨gb, m, none⟩ (.int .i64 z)) g (bs.set m z) f := by
  refine ⟨some ⟨gb, 0, none⟩, c, ?_, ?_⟩
  · rw [List.length_set, heap_setCell_other W ⟨gb, m, none⟩ g _ (by simp; omega)]; exact hg
  · rw [List.length_set]; exact (hO.put rfl m z).1

theorem app_facts {w w3 : World} {g c : Nat} {A : Option Addr} {bs : List Int} {v3 : Value} {o : Obj} (hgl : g < w.heap.size)
    (hg : w.heap[g]? = some (.cells #[.slice A bs.length c, .int .i64 (0 : Nat)] 60 (0, 0))) (hL : ∀ k, (Value.slice A bs.length c).ownBlock = some k → g + 1 ≤ k)
    (hO3 : Own w3 (g + 1) v3 (bs ++ [0])) (hG3 : (w.alloc o).grownBy w3 (Value.slice A bs.length c).ownBlock) :
    ∃ gb cap, v3 = .slice (some ⟨gb, 0, none⟩) (bs.length + 1) cap ∧ g + 1 ≤ gb ∧ w3.cell? ⟨g, 0, none⟩ = some (.slice A bs.length c) ∧ w3.cell? ⟨g, 1, none⟩ = some (.int .i64 0) ∧ w3.frozen? ⟨g, 0, none⟩ = false ∧ w3.frozen? ⟨g, 1, none⟩ = false ∧
      w3.cell? ⟨gb, bs.length, none⟩ = some (.int .i64 0) ∧ w3.frozen? ⟨gb, bs.length, none⟩ = false ∧ Hid (w3.heap[g]? = some (.cells #[.slice A bs.length c, .int .i64 (0 : Nat)] 60 (0, 0)) ∧ Own w3 (g + 1) (.slice (some ⟨gb, 0, none⟩) (bs.length + 1) cap) (bs ++ [0]) ∧ Below g w w3) := by
  obtain ⟨gb, cap, rfl, hgb, hgl3⟩ := hO3.form (by simp)
  have hbk : w3.heap[g]? = some (.cells #[.slice A bs.length c, .int .i64 (0 : Nat)] 60 (0, 0)) := ((hG3.block g (by simp; omega) (fun e => by have := hL g e.symm; omega)).trans (Below.heap_alloc w _ g hgl)).trans hg
  have e : (bs ++ [(0 : Int)]).length = bs.length + 1 := by simp
  have d2 := hO3.cell rfl (j := bs.length) (by simp)
  have g2 := hO3.frozen rfl bs.length
  refine ⟨gb, cap, by rw [e], hgb, by simp [cellB hbk], by simp [cellB hbk], frozenB hbk 0, frozenB hbk 1, by rw [d2]; simp, g2, Lib.hid ⟨hbk, by rw [← e]; exact hO3, ?_⟩⟩
  exact ((Below.refl g w).alloc (by omega) o).grown hG3 (by simp; omega) (fun k hk => by have := hL k hk; omega)
def PW (w W : World) (g gb n cap : Nat) (bs : List Int) (f : Int) : Prop :=
  W.heap[g]? = some (.cells #[.slice (some ⟨gb, 0, none⟩) n cap, .int .i64 f] 60 (0, 0)) ∧ Own W (g + 1) (.slice (some ⟨gb, 0, none⟩) n cap) bs ∧ n = bs.length ∧ g + 1 ≤ gb ∧ Below g w W
theorem PW.facts {w W : World} {g gb n cap : Nat} {bs : List Int} {f : Int} (h : PW w W g gb n cap bs f) {m : Nat} (hm : m < n) :
    W.cell? ⟨g, 0, none⟩ = some (.slice (some ⟨gb, 0, none⟩) n cap) ∧ W.cell? ⟨g, 1, none⟩ = some (.int .i64 f) ∧ W.cell? ⟨gb, m, none⟩ = some (.int .i64 (bs.getD m 0)) ∧ W.frozen? ⟨gb, m, none⟩ = false := by
  obtain ⟨h1, h2, rfl, h3, h4⟩ := h
  exact ⟨by simp [cellB h1], by simp [cellB h1], h2.cell rfl hm, h2.frozen rfl m⟩
theorem PW.done {w W : World} {g gb n cap f m : Nat} {bs : List Int} {fI z : Int} (h : PW w W g gb n cap bs fI) (hf : fI = (f : Int)) : BW ((W.setCell ⟨gb, m, none⟩ (.int .i64 z)).drew) g (bs.set m z) f ∧ Below g w ((W.setCell ⟨gb, m, none⟩ (.int .i64 z)).drew) := by
  obtain ⟨h1, h2, rfl, h3, h4⟩ := h
  subst hf
  exact ⟨bw_end h1 h2 h3, (h4.setCell (p := ⟨gb, m, none⟩) (by simp; omega) _).drew⟩
theorem pw_new {w w3 : World} {g gb cap c : Nat} {A : Option Addr} {n0 : Nat} {bs : List Int} {f : Int} (hgb : g + 1 ≤ gb)
    (h : w3.heap[g]? = some (.cells #[.slice A n0 c, .int .i64 (0 : Nat)] 60 (0, 0)) ∧ Own w3 (g + 1) (.slice (some ⟨gb, 0, none⟩) bs.length cap) bs ∧ Below g w w3) :
    PW w (((w3.setCell ⟨g, 0, none⟩ (.slice (some ⟨gb, 0, none⟩) bs.length cap)).setCell ⟨g, 1, none⟩ (.int .i64 8)).setCell ⟨g, 1, none⟩ (.int .i64 f)) g gb bs.length cap bs f := by
  obtain ⟨h1, h2, h3⟩ := h
  refine ⟨?_, ((h2.setOff (by omega) _).setOff (by omega) _).setOff (by omega) _, rfl, hgb, ((h3.setCell (p := ⟨g, 0, none⟩) (Nat.le_refl _) _).setCell (p := ⟨g, 1, none⟩) (Nat.le_refl _) _).setCell (p := ⟨g, 1, none⟩) (Nat.le_refl _) _⟩
  rw [setB (setB (setB h1 0 _) 1 _) 1 _]
  simp
set_option maxHeartbeats 4000000 in
theorem put_any (g f D m : Nat) (n z : Int) (bs bs' : List Int) (f1 : Nat) (w : World) (h : BW w g bs f) (hgl : g < w.heap.size) (h0 : f = 0 → bs' = bs ++ [0] ∧ f1 = 8) (h1 : f ≠ 0 → bs' = bs ∧ f1 = f) (hlen : bs'.length = m + 1)
    (hl : bs.length ≤ 1000) (hD : D ≤ f1) (hf8 : f1 ≤ 8) (hn0 : 0 ≤ n * 2 ^ (f1 - D)) (hn1 : n * 2 ^ (f1 - D) ≤ 255) (hz : bits .or .i64 (bs'.getD m 0) (n * 2 ^ (f1 - D)) = z) :
    Calls Try.prog 62 #[.pointer (some ⟨g, 0, none⟩), .int .i64 n, .int .i64 D] w fun e w' => e = .returned (.tuple #[]) ∧ BW w' g (bs'.set m z) (f1 - D) ∧ Below g w w' := by
  obtain ⟨A, c, hg, hO⟩ := h
  have hf1 : ((f1 - D : Nat) : Int) = (f1 : Int) - (D : Int) := by omega
  have HF1 := Lib.hid hf1
  clear hf1
  by_cases hf : f = 0
  · obtain ⟨rfl, rfl⟩ := h0 hf
    subst hf
    clear h1 h0
    have hm : m = bs.length := by simp at hlen; omega
    subst hm
    have hz' : bits .or .i64 0 (n * 2 ^ (8 - D)) = z := by simpa using hz
    have HZ := Lib.hid hz'
    have c0 : w.cell? ⟨g, 0, none⟩ = some (.slice A bs.length c) := by simp [cellB hg]
    have c1 : w.cell? ⟨g, 1, none⟩ = some (.int .i64 0) := by simp [cellB hg]
    have HO := Lib.hid (show Own (w.alloc (.cells #[.int .i64 0] 3)) (g + 1) (.slice A bs.length c) bs from hO.below ((Below.refl _ _).alloc (Nat.le_refl _) _) (Nat.le_refl _))
    have HS := Lib.hid (show Rds .i64 (w.alloc (.cells #[.int .i64 0] 3)) (w.heap.size + 1) (some ⟨w.heap.size, 0, none⟩) [0] from .inr ⟨_, _, rfl, by omega, fun j hj => by
      have hj0 : j = 0 := by simp at hj; omega
      subst hj0
      rw [cellB (heap_alloc_new w _)]
      rfl⟩)
    have HG := Lib.hid hg
    have hlt := fun k hk => (hO.lt k hk).1
    have HL := Lib.hid hlt
    clear hz hz' hlen hg hO hlt
    go_enter Try.func62, Try.ntmps62
    go_wp2_with (at_builtin; refine wpList_app rfl (.tmp 15) (.tmp 16) rfl (g + 1) (.slice A bs.length c) bs rfl HO.out (some ⟨w.heap.size, 0, none⟩) 1 1 _ [0] rfl rfl HS.out (by simp; omega) (by simp; omega) ?_; intro v3 w3 hO3 hG3; obtain ⟨gb, cap, rfl, hgb, d0, d1, g0, g1, d2, g2, HA⟩ := app_facts hgl HG.out HL.out hO3 hG3; clear hO3 hG3)
    have e1 : (bs ++ [(0 : Int)]).length = bs.length + 1 := by simp
    have HA' := HA.out
    rw [← e1] at HA'
    have hPW := pw_new (f := 8 - (D : Int)) hgb HA'
    rw [e1] at hPW
    generalize (((w3.setCell ⟨g, 0, none⟩ (.slice (some ⟨gb, 0, none⟩) (bs.length + 1) cap)).setCell ⟨g, 1, none⟩ (.int .i64 8)).setCell ⟨g, 1, none⟩ (.int .i64 (8 - (D : Int)))) = W at *
    obtain ⟨p0, p1, p2, p3⟩ := hPW.facts (m := bs.length) (by omega)
    have e2 : (bs ++ [(0 : Int)]).getD bs.length 0 = 0 := by simp
    rw [e2] at p2
    have HPW := Lib.hid hPW
    clear hPW HA HA' e1 e2 d0 d1 d2 g0 g1 g2 c0 c1 HO HS HG HL
    go_region
    go_end0
    have hd := HPW.out.done (m := bs.length) (z := z) (f := 8 - D) (by omega)
    rw [← HZ.out] at hd ⊢
    exact ⟨rfl, hd⟩
  · obtain ⟨rfl, rfl⟩ := h1 hf
    clear h1 h0
    obtain ⟨gb, cap, hv, hgb, hgl3⟩ := hO.form (by omega)
    injection hv with hA _ hc
    subst hA hc
    have hPW : PW w (w.setCell ⟨g, 1, none⟩ (.int .i64 ((f1 : Int) - (D : Int)))) g gb bs'.length c bs' ((f1 : Int) - (D : Int)) :=
      ⟨by rw [setB hg 1 _]; simp, hO.setOff (by omega) _, rfl, hgb, (Below.refl _ _).setCell (p := ⟨g, 1, none⟩) (Nat.le_refl _) _⟩
    have HPW := Lib.hid hPW
    have HZ := Lib.hid hz
    have c1 : w.cell? ⟨g, 1, none⟩ = some (.int .i64 f1) := by simp [cellB hg]
    have hfz := frozenB hg 1
    have hf0 : ((f1 : Int) == 0) = false := beq_eq_false_iff_ne.2 (by omega)
    clear hPW hz hO hg
    go_enter Try.func62, Try.ntmps62
    go_wp2
    have hPW := HPW.out
    generalize (w.setCell ⟨g, 1, none⟩ (.int .i64 ((f1 : Int) - (D : Int)))) = W at *
    have hm1 : ((bs'.length : Int) - 1) = (m : Int) := by omega
    obtain ⟨p0, p1, p2, p3⟩ := hPW.facts (m := m) (by omega)
    generalize hy : bs'.getD m 0 = y at *
    have Hy := Lib.hid hy
    have Hlen := Lib.hid hlen
    have hl1 : 0 ≤ (bs'.length : Int) - 1 := by omega
    have hl2 : bs'.length - 1 = m := by omega
    have Hl2 := Lib.hid hl2
    rw [← hl2] at p2 p3
    clear hPW c1 hfz hy hm1 hl2 hlen HF1
    go_region
    go_end0
    rw [Hl2.out]
    have hd := HPW.out.done (m := m) (z := z) (f := f1 - D) (by omega)
    rw [← HZ.out] at hd ⊢
    exact ⟨rfl, hd⟩

set_option maxHeartbeats 1000000 in
theorem iTop_any (D : Nat) (w : World) (h : Dep D) : Calls Try.prog 61 #[.int .i64 D] w fun e w' => e = .returned (.int .i64 (2 ^ D - 1)) ∧ w = w' := by
  rcases h with rfl | rfl | rfl | rfl
  all_goals
    go_enter Try.func61, Try.ntmps61
    go_wp2
    go_ret
    exact ⟨ret_int (by decide), rfl⟩
set_option maxHeartbeats 1000000 in
theorem iInRange_any (n lo hi : Int) (w : World) : Calls Try.prog 60 #[.int .i64 n, .int .i64 lo, .int .i64 hi] w fun e w' => e = .returned (.bool (decide (lo ≤ n ∧ n ≤ hi))) ∧ w = w' := by
  by_cases h1 : lo ≤ n <;> by_cases h2 : n ≤ hi
  all_goals
    go_enter Try.func60, Try.ntmps60
    go_wp2
    go_ret
    exact ⟨ret_bool (by simp [h1, h2] <;> omega), rfl⟩
set_option maxHeartbeats 1000000 in
theorem sInRange_any (n lo hi : Int) (w : World) : Calls Try.prog 38 #[.int .i64 n, .int .i64 lo, .int .i64 hi] w fun e w' => e = .returned (.bool (decide (lo ≤ n ∧ n ≤ hi))) ∧ w = w' := by
  by_cases h1 : lo ≤ n <;> by_cases h2 : n ≤ hi
  all_goals
    go_enter Try.func38, Try.ntmps38
    go_wp2
    go_ret
    exact ⟨ret_bool (by simp [h1, h2] <;> omega), rfl⟩
def fr (D k : Nat) : Nat := (8 - k * D % 8) % 8
/-- What 'put' is asked at number k. -/
theorem put_k {D : Nat} (hD : Dep D) {xs : List Int} (k g : Nat) (hk : k < xs.length) (h64 : xs.length ≤ 64) (w : World) (hfit : Fits D (xs.take (k + 1))) (h : BW w g (pkTo D xs k) (fr D k)) (hgl : g < w.heap.size) :
    Calls Try.prog 62 #[.pointer (some ⟨g, 0, none⟩), .int .i64 (xs.getD k 0), .int .i64 D] w fun e w' => e = .returned (.tuple #[]) ∧ BW w' g (pkTo D xs (k + 1)) (fr D (k + 1)) ∧ Below g w w' := by
  have hdd := dep_le hD
  have hroom := dep_room hD k
  have e := succ_mul' k D
  have hx0 : (xs.take (k + 1)).getD k 0 = xs.getD k 0 := by simp [List.getElem?_take]
  have hbt : ∀ j i, i ≤ k + 1 → bt D (xs.take (k + 1)) i j = bt D xs i j := by
    intro j i
    induction i with
    | zero => intro _; rfl
    | succ i ih =>
      intro hi
      simp only [bt]
      rw [ih (by omega)]
      have : (xs.take (k + 1)).getD i 0 = xs.getD i 0 := by simp [List.getElem?_take, show i < k + 1 by omega]
      rw [this]
  obtain ⟨q, q1, q2, q3⟩ := bt_last hD hfit k
  have hs := sh_small hD hfit k
  have hr := bt_range hD hfit k
  rw [hbt _ k (by omega)] at q1 hr
  rw [hx0] at hs hr
  have hfd : 8 - k * D % 8 - D = sh D k := by unfold sh; omega
  have hfr : fr D (k + 1) = sh D k := by unfold fr sh; rw [e]; omega
  have hor : bits .or .i64 ((mid D xs k).getD (k * D / 8) 0) (xs.getD k 0 * 2 ^ sh D k) = bt D xs k (k * D / 8) + xs.getD k 0 * 2 ^ sh D k := by
    rw [mid_get, q1]
    exact or_add q _ _ q2 hs.1 hs.2 q3
  have hput := put_any g (fr D k) D (k * D / 8) (xs.getD k 0) (bt D xs k (k * D / 8) + xs.getD k 0 * 2 ^ sh D k) (pkTo D xs k) (mid D xs k) (8 - k * D % 8) w h hgl
    (fun h0 => ⟨(mid_new hD xs k (by unfold fr at h0; omega)).symm, by unfold fr at h0; omega⟩) (fun h0 => ⟨(mid_old hD xs k (by unfold fr at h0; omega)).symm, by unfold fr at h0 ⊢; omega⟩) (mid_len D xs k)
    (by rw [pkTo_len]; have := mul_bd k D (by omega) hdd.2; unfold sz; omega) (by omega) (by omega) (by rw [hfd]; exact hs.1) (by rw [hfd]; omega) (by rw [hfd]; exact hor)
  rw [mid_set hD, hfd, ← hfr] at hput
  exact hput
theorem fits_take {D : Nat} {xs : List Int} (h : allB 0 (2 ^ D - 1) xs = true) (k : Nat) : Fits D (xs.take k) := fun x hx => fits_of_allB h x (List.mem_of_mem_take hx)
theorem fits_upto {D : Nat} {xs : List Int} {k : Nat} (h : ∀ j, j < k → 0 ≤ xs.getD j 0 ∧ xs.getD j 0 ≤ 2 ^ D - 1) : Fits D (xs.take k) := by
  intro x hx
  obtain ⟨j, hj, rfl⟩ := List.getElem_of_mem hx
  have hj' : j < k ∧ j < xs.length := by simp at hj; omega
  have := h j hj'.1
  simp [hj'.2] at this ⊢
  omega
theorem bw_alloc (w : World) : BW (w.alloc (.cells #[.slice none 0 0, .int .i64 0] 60)) w.heap.size [] 0 := ⟨none, 0, heap_alloc_new w _, own_nil _ _⟩

set_option maxHeartbeats 4000000 in
theorem i_PackRow (A : Option Addr) (c : Nat) (xs : List Int) (d : Int) (w : World) (h : Rds .i64 w w.heap.size A xs) (hl : xs.length ≤ 10000000) :
    Calls Try.prog 33 #[.slice A xs.length c, .int .i64 d] w (Made (pack xs d) w) := by
  have Hh := Lib.hid h
  clear h
  by_cases hv : vd d = true
  · obtain ⟨D, rfl, hD⟩ := vd_nat hv
    have hp := dep_pow hD
    have HD := Lib.hid hD
    have hd8 := dep_le hD
    have Hv := Lib.hid hv
    clear hD
    by_cases h64 : xs.length ≤ 64
    · have HB0 := Lib.hid (bw_alloc w)
      go_enter Try.func33, Try.ntmps33
      go_wp2_with fail
      refine (iValidDepth_any D w).mono ?_
      rintro e w' ⟨rfl, rfl⟩
      go_wp2
      clear hv
      go_loopw [18] (fun i wr => ∃ k : Nat, k ≤ xs.length ∧ i = .int .i64 k ∧ BW wr w.heap.size (pkTo D xs k) (fr D k) ∧ Below w.heap.size w wr ∧ w.heap.size < wr.heap.size ∧ Hid (∀ j, j < k → 0 ≤ xs.getD j 0 ∧ xs.getD j 0 ≤ 2 ^ D - 1)) (fun i _ => xs.length - (intOf i).toNat)
      case atStart => exact ⟨0, Nat.zero_le _, rfl, by rw [pkTo_zero]; simpa [fr] using HB0.out, (Below.refl _ _).alloc (Nat.le_refl _) _, by simp, Lib.hid (fun j hj => by omega)⟩
      case round =>
        obtain ⟨k, hk, rfl, hB, hbel, hsz, hT⟩ := hrel
        by_cases hlt : k < xs.length
        · obtain ⟨b, off, rfl, hb, hc⟩ := Hh.out.cells_ hlt
          have hck := (hbel.cell (p := ⟨b, off + k, none⟩) hb).trans (hc k hlt)
          clear hc
          by_cases hin : 0 ≤ xs.getD k 0 ∧ xs.getD k 0 ≤ 2 ^ D - 1
          · have HT2 : Hid (∀ j, j < k + 1 → 0 ≤ xs.getD j 0 ∧ xs.getD j 0 ≤ 2 ^ D - 1) := Lib.hid (fun j hj => by
              by_cases e : j = k
              · subst e; exact hin
              · exact hT.out j (by omega))
            have Hput := Lib.hid (put_k HD.out k w.heap.size hlt h64 wr (fits_upto HT2.out) hB hsz)
            have hdec : decide (0 ≤ xs.getD k 0 ∧ xs.getD k 0 ≤ 2 ^ D - 1) = true := decide_eq_true hin
            clear hin hT hB
            generalize xs.getD k 0 = x at *
            go_wp2_with fail
            refine (iTop_any D wr HD.out).mono ?_
            rintro e w' ⟨rfl, rfl⟩
            go_wp2_with fail
            refine (iInRange_any x 0 _ wr).mono ?_
            rintro e w' ⟨rfl, rfl⟩
            rw [hdec]
            clear hdec
            go_wp2_with fail
            refine Hput.out.mono ?_
            rintro e w2 ⟨rfl, hB2, hbel2⟩
            have hsz2 := hbel2.size
            go_wp2
            go_roundw
            case rel => exact ⟨k + 1, by omega, by go_num, hB2, hbel.trans hbel2, by omega, HT2⟩
            case measure => simp [intOf]; omega
          · have HP : Hid (pack xs D = []) := Lib.hid (if_neg (fun h => by rw [Int.toNat_natCast] at h; have := allB_no (lo := 0) (hi := 2 ^ D - 1) hlt hin; rw [this] at h; simp at h))
            have hdec : decide (0 ≤ xs.getD k 0 ∧ xs.getD k 0 ≤ 2 ^ D - 1) = false := decide_eq_false hin
            clear hin hT hB
            generalize xs.getD k 0 = x at *
            go_wp2_with fail
            refine (iTop_any D wr HD.out).mono ?_
            rintro e w' ⟨rfl, rfl⟩
            go_wp2_with fail
            refine (iInRange_any x 0 _ wr).mono ?_
            rintro e w' ⟨rfl, rfl⟩
            rw [hdec]
            clear hdec
            go_wp2
            go_ret
            exact ⟨_, rfl, by rw [HP.out]; exact own_nil _ _, hbel⟩
        · have hk' : k = xs.length := by omega
          have HP : Hid (pack xs D = pkTo D xs k) := Lib.hid (by
            have ha := allB_yes (lo := 0) (hi := 2 ^ D - 1) (xs := xs) (fun j hj => hT.out j (by omega))
            unfold pack
            rw [if_pos ⟨Hv.out, h64, by rw [Int.toNat_natCast]; exact ha⟩, hk']
            rfl)
          obtain ⟨A1, c1, hg, hO⟩ := hB
          have c0 : wr.cell? ⟨w.heap.size, 0, none⟩ = some (.slice A1 (pkTo D xs k).length c1) := by simp [cellB hg]
          have HO := Lib.hid (hO.base_le (Nat.le_succ w.heap.size))
          clear hg hO hT hk'
          go_wp2
          go_ret
          exact ⟨_, rfl, by rw [HP.out]; exact HO.out, hbel⟩
    · have HP : Hid (pack xs D = []) := Lib.hid (if_neg (fun h => h64 h.2.1))
      go_enter Try.func33, Try.ntmps33
      go_wp2_with fail
      refine (iValidDepth_any D w).mono ?_
      rintro e w' ⟨rfl, rfl⟩
      go_wp2
      go_ret
      exact ⟨_, rfl, by rw [HP.out]; exact own_nil _ _, Below.refl _ _⟩
  · have HP : Hid (pack xs d = []) := Lib.hid (if_neg (fun h => hv h.1))
    have hv' : vd d = false := by simpa using hv
    clear hv
    go_enter Try.func33, Try.ntmps33
    go_wp2_with fail
    refine (iValidDepth_any d w).mono ?_
    rintro e w' ⟨rfl, rfl⟩
    go_wp2
    go_ret
    exact ⟨_, rfl, by rw [HP.out]; exact own_nil _ _, Below.refl _ _⟩
end Go.Proofs.Ytaieialjpiojeaa
