/- Contracts of the drawing of lists: 'one' of numbers that are written out, 'spoil'. -/
import Derived.Test.YtolifmgkkkclkaaReader
import Derived.Test.YtolifmgkkkclkaaLists
namespace Go.Proofs.Ytolifmgkkkclkaa
open Go.RowKit
set_option linter.unusedSimpArgs false
set_option linter.unusedVariables false

/-- 'one' on a list that was written out. -/
theorem one_lit (cs : Array Value) (xs : List Int) (n c : Nat) (g N : Nat) (w : World) (h : Rdr w g N) (hN : N ≤ 1000000000) (hx : 0 < xs.length) (hl : xs.length ≤ 1000) (hn : n = xs.length) (hcs : cs.toList = xs.map (.int .i64)) :
    Calls Try.prog 35 #[.pointer (some ⟨g, 0, none⟩), .slice (some ⟨w.heap.size, 0, none⟩) n c] (w.alloc (.cells cs 3)) fun e w' => ∃ k : Int, e = .returned (.int .i64 k) ∧ k ∈ xs ∧ Rdr w' g (N + 1) ∧ w.grownBy w' (some g) := by
  subst hn
  refine (one_any w.heap.size 0 c xs g N _ (h.alloc _) hN hx hl (by simp) (by have := h.lt; omega) (fun j hj => ?_)).mono ?_
  · rw [blk_cell (heap_alloc_new w _)]
    have : cs[0 + j]? = cs.toList[j]? := by simp
    rw [this, hcs]
    simp [List.getElem?_eq_getElem hj]
  · rintro e w' ⟨k, he, hk, hr, hg, _⟩
    exact ⟨k, he, hk, hr, gtrans (World.grownBy_alloc w _ _) hg⟩
def Drawn1 (p : Int → Prop) (g N : Nat) (w : World) (e : Ending) (w' : World) : Prop :=
  ∃ k : Int, e = .returned (.int .i64 k) ∧ p k ∧ Rdr w' g N ∧ w.grownBy w' (some g)
theorem Rdr.trans {w w' : World} {g N : Nat} (h : Rdr w g N) (hg : w.grownBy w' (some g)) : Below g w w' := ⟨hg.os, hg.tape, hg.output, hg.size, fun k hk => hg.block k (by have := h.lt; omega) (by simp; omega)⟩


def Spoiled (n0 g N : Nat) (w : World) (e : Ending) (w' : World) : Prop :=
  ∃ (A : Option Addr) (c : Nat) (ys : List Int), e = .returned (.slice A ys.length c) ∧ ys.length ≤ c ∧ ys.length ≤ n0 + 1 ∧ Rds .i64 w' w'.heap.size A ys ∧ Rdr w' g N ∧ w.grownBy w' (some g) ∧ ∀ b : Addr, A = some b → w.heap.size ≤ b.block
theorem Own.ge {w : World} {base : Nat} {A : Option Addr} {n c : Nat} {xs : List Int} (h : Own w base (.slice A n c) xs) (b : Addr) (hb : A = some b) : base ≤ b.block := by
  subst hb
  exact (h.lt b.block rfl).1
theorem Rds.offG {k : IntKind} {w w' : World} {B lo g : Nat} {A : Option Addr} {xs : List Int} (h : Rds k w B A xs) (hB : B ≤ w.heap.size) (hge : ∀ b : Addr, A = some b → lo ≤ b.block) (hg : w.grownBy w' (some g)) (hlt : g < lo) : Rds k w' B A xs := by
  rcases h with h | ⟨b, off, hA, hb, hc⟩
  · exact .inl h
  · refine .inr ⟨b, off, hA, hb, fun j hj => (World.cell?_of_block (hg.block b (by omega) ?_)).trans (hc j hj)⟩
    have := hge _ hA
    simp at this ⊢
    omega
theorem below_grown {w w' : World} (h : Below w.heap.size w w') (row' : Option Nat) : w.grownBy w' row' := ⟨h.os, h.tape, h.output, h.size, fun i hi _ => h.block i hi⟩
theorem Own.off {w w' : World} {base g : Nat} {v : Value} {xs : List Int} (h : Own w base v xs) (hg : w.grownBy w' (some g)) (hb : g < base) : Own w' base v xs :=
  h.keep fun k hk => hg.block k (h.lt k hk).2 (by have := (h.lt k hk).1; simp; omega)
theorem Rds.tail {k : IntKind} {w : World} {B b off : Nat} {x : Int} {xs : List Int} (hb : b < B) (hc : ∀ j, j < (x :: xs).length → w.cell? ⟨b, off + j, none⟩ = some (.int k ((x :: xs).getD j 0))) : Rds k w B (some ⟨b, off + 1, none⟩) xs := by
  refine .inr ⟨b, off + 1, rfl, hb, fun j hj => ?_⟩
  have := hc (j + 1) (by simp; omega)
  rw [show off + 1 + j = off + (j + 1) by omega, this]
  simp
theorem gmix {a b c : World} {row' row2 : Option Nat} (h : a.grownBy b row') (k : b.grownBy c row2) (hr : ∀ j, row2 = some j → a.heap.size ≤ j) : a.grownBy c row' :=
  ⟨k.os.trans h.os, k.tape.trans h.tape, k.output.trans h.output, Nat.le_trans h.size k.size, fun i hi hne => (k.block i (Nat.lt_of_lt_of_le hi h.size) (fun e => by have := hr _ e.symm; omega)).trans (h.block i hi hne)⟩
set_option maxHeartbeats 2000000 in
theorem spoil_any (A : Option Addr) (c : Nat) (xs : List Int) (n : Int) (g N : Nat) (w : World) (h : Rdr w g N) (hN : N ≤ 100000000) (hr : Rds .i64 w w.heap.size A xs) (hl : xs.length ≤ 1000000) :
    Calls Try.prog 36 #[.pointer (some ⟨g, 0, none⟩), .slice A xs.length c, .int .i64 n] w (Spoiled xs.length g (N + 3) w) := by
  have hgl := h.lt
  go_enter Try.func36, Try.ntmps36
  go_wp2_with fail
  refine (copyInts_any A c xs w hr (by omega)).mono ?_
  rintro e w1 ⟨v, rfl, hO, hB⟩
  have hR1 := h.below hB hgl
  have hG1 := below_grown hB (some g)
  clear h hr hB
  obtain ⟨A1, c1, rfl, hc1⟩ := hO.slice
  go_wp2_with fail
  refine (pick_any 20 g N w1 hR1 (by omega) (by omega)).mono ?_
  intro e w2 hp
  obtain ⟨k, rfl, hk, hR2, hG2, hs2⟩ := picked_nat hp (by omega)
  have hO2 := hO.off hG2 hgl
  have hG := gtrans hG1 hG2
  clear hp hs2 hO hR1 hG1 hG2
  have hsz := hG.size
  have hdone : ∀ (e : Ending) (A' : Option Addr) (c' : Nat) (ys : List Int), e = .returned (.slice A' ys.length c') → ys.length ≤ c' → ys.length ≤ xs.length + 1 → Rds .i64 w2 w2.heap.size A' ys → (∀ b : Addr, A' = some b → w.heap.size ≤ b.block) → Spoiled xs.length g (N + 3) w e w2 :=
    fun e A' c' ys h1 h2 h3 h4 h5 => ⟨A', c', ys, h1, h2, h3, h4, hR2.more (by omega), hG, h5⟩
  have HD := Lib.hid hdone
  clear hdone
  by_cases h0 : k = 0
  · subst h0
    have HO := Lib.hid (show Own (w2.alloc (.cells #[.int .i64 n] 3)) w.heap.size (.slice A1 xs.length c1) xs from hO2.below ((Below.refl _ _).alloc (Nat.le_refl _) _) (Nat.le_refl _))
    have HS := Lib.hid (show Rds .i64 (w2.alloc (.cells #[.int .i64 n] 3)) (w2.heap.size + 1) (some ⟨w2.heap.size, 0, none⟩) [n] from .inr ⟨_, _, rfl, by omega, fun j hj => by
      have hj0 : j = 0 := by simp at hj; omega
      subst hj0
      rw [blk_cell (heap_alloc_new w2 _)]
      rfl⟩)
    go_wp2_with (at_builtin; refine wpList_app rfl (.tmp 14) (.tmp 16) rfl w.heap.size (.slice A1 xs.length c1) xs rfl HO.out (some ⟨w2.heap.size, 0, none⟩) 1 1 _ [n] rfl rfl HS.out (by simp; omega) (by simp; omega) ?_; intro v3 w3 hO3 hG3)
    obtain ⟨A3, c3, rfl, hc3⟩ := hO3.slice
    go_ret
    have hG4 : w2.grownBy w3 (Value.slice A1 xs.length c1).ownBlock := gtrans (World.grownBy_alloc w2 _ _) hG3
    have hlow : ∀ k', (Value.slice A1 xs.length c1).ownBlock = some k' → g < k' := fun k' hk' => by have := (hO2.lt k' hk').1; omega
    exact ⟨A3, c3, xs ++ [n], rfl, hc3, by simp, hO3.rds.2, (hR2.grown hG4 hlow).more (by omega), gmix hG hG4 (fun j hj => (hO2.lt j hj).1), fun b hb => hO3.ge b hb⟩
  · have b0 : ((k : Int) == 0) = false := beq_eq_false_iff_ne.2 (by omega)
    by_cases h1 : k = 1
    · subst h1
      rcases hcase : xs with _ | ⟨x, xt⟩
      · subst hcase
        go_wp2
        go_ret
        exact HD.out _ A1 c1 [] rfl (by simp) (by simp) (.inl rfl) (fun b hb => hO2.ge b hb)
      · obtain ⟨gb, cap, hv, hgb, hgl2⟩ := hO2.form (by rw [hcase]; simp)
        injection hv with hA1 _ hcap
        subst hA1 hcap
        have hcell : ∀ j, j < xs.length → w2.cell? ⟨gb, j, none⟩ = some (.int .i64 (xs.getD j 0)) := fun j hj => hO2.cell rfl hj
        subst hcase
        have hle : xt.length + 1 ≤ c1 := by simpa using hc1
        by_cases hc : c1 = 1
        · have hxt : xt = [] := List.eq_nil_of_length_eq_zero (by omega)
          subst hxt hc
          clear hcell
          go_wp2
          go_ret
          exact HD.out _ _ _ [] rfl (by simp) (by simp) (.inl rfl) (fun b hb => by injection hb with hb; subst hb; exact hgb)
        · have HC := Lib.hid hcell
          have hc' : 1 < c1 := by omega
          clear hcell hc
          go_wp2
          go_ret
          refine HD.out _ _ _ xt rfl (by omega) (by simp; omega) (Rds.tail (x := x) (off := 0) hgl2 ?_) (fun b hb => by injection hb with hb; subst hb; exact hgb)
          intro j hj
          rw [Nat.zero_add]
          exact HC.out j hj
    · have b1 : ((k : Int) == 1) = false := beq_eq_false_iff_ne.2 (by omega)
      by_cases h2 : k = 2
      · subst h2
        by_cases hx0 : xs.length = 0
        · have hxs : xs = [] := List.eq_nil_of_length_eq_zero hx0
          subst hxs
          go_wp2
          go_ret
          exact HD.out _ A1 c1 [] rfl (by simp) (by simp) (.inl rfl) (fun b hb => hO2.ge b hb)
        · obtain ⟨gb, cap, hv, hgb, hgl2⟩ := hO2.form (by omega)
          injection hv with hA1 _ hcap
          subst hA1 hcap
          have hpos : 0 < xs.length := by omega
          clear hx0 HD
          go_wp2_with fail
          refine (pick_any _ g (N + 1) w2 hR2 (by omega) (by omega)).mono ?_
          intro e w3 hp
          obtain ⟨j, rfl, hj, hR3, hG3, hs3⟩ := picked_nat hp (by omega)
          have hO3 := hO2.off hG3 hgl
          have hGa := gtrans hG hG3
          have Hj := Lib.hid (show j < xs.length by omega)
          clear hp hs3 hO2 hR2 hG hG3
          have hsz3 := hGa.size
          go_wp2_with fail
          refine (one_lit _ [-1, n, 0, 1] _ _ g (N + 1 + 1) w3 hR3 (by omega) (by simp) (by simp) rfl rfl).mono ?_
          rintro e w4 ⟨m, rfl, _, hR4, hG4⟩
          have hO4 := hO3.off hG4 hgl
          have hGb := gtrans hGa hG4
          clear hO3 hR3 hG4 hGa
          have hjl := Hj.out
          have hcw := hO4.cell rfl hjl
          have hfw := hO4.frozen rfl j
          have hput := hO4.put rfl j m
          have HP := Lib.hid hput
          have Hc1 := Lib.hid hc1
          clear hput hc1
          generalize xs.getD j 0 = y at *
          go_wp2
          go_ret
          have hO5 := HP.out.1
          have hl5 : (xs.set j m).length = xs.length := by simp
          refine ⟨some ⟨gb, 0, none⟩, c1, xs.set j m, by rw [hl5]; rfl, by rw [hl5]; exact Hc1.out, by rw [hl5]; omega, hO5.rds.2, (hR4.grown HP.out.2 (by simp; omega)).more (by omega), gmix hGb HP.out.2 (by simp; omega), fun b hb => by injection hb with hb; subst hb; exact hgb⟩
      · have b2 : ((k : Int) == 2) = false := beq_eq_false_iff_ne.2 (by omega)
        go_wp2
        go_ret
        exact HD.out _ A1 c1 xs rfl hc1 (by omega) hO2.rds.2 (fun b hb => hO2.ge b hb)
end Go.Proofs.Ytolifmgkkkclkaa
