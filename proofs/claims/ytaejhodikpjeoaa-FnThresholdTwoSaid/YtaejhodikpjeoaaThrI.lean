/- Contracts of the program's groups of pixels and fractions. -/
import Derived.Test.YtaejhodikpjeoaaThrM
import Derived.Test.YtaejhodikpjeoaaHisI
import Derived.Test.YtaejhodikpjeoaaGenP
import Derived.Deep.RegionHeld3
namespace Go.Proofs.Ytaejhodikpjeoaa
open Go.RowKit Go.Shelf
set_option linter.unusedSimpArgs false
set_option linter.unusedVariables false
set_option maxRecDepth 20000

theorem bx_put2T {w : World} {b : Nat} {T : TypeId} {a0 a1 : Value} (h : Bx w b T #[a0, a1]) (c0 c1 : Value) : Bx ((w.setCell ⟨b, 0, none⟩ c0).setCell ⟨b, 1, none⟩ c1) b T #[c0, c1] := by
  have h1 := heap_setCell_same w b 0 _ T c0 h
  have h2 := heap_setCell_same _ b 1 _ T c1 h1
  simpa [Bx] using h2
set_option maxHeartbeats 4000000 in
theorem i_add (r : Nat) (a s c n m : Int) (w : World) (h : Bx w r 46 #[.int .i64 a, .int .i64 s]) (hw1 : IntKind.i64.wrap (a + c) = a + c) (hw0 : IntKind.i64.wrap (c * n) = m) (hw2 : IntKind.i64.wrap (s + m) = s + m) :
    Calls Try.prog 21 #[.pointer (some ⟨r, 0, none⟩), .int .i64 c, .int .i64 n] w fun e w' => e = .returned (.tuple #[]) ∧ Bx w' r 46 #[.int .i64 (a + c), .int .i64 (s + m)] ∧ w.grownBy w' (some r) := by
  have c0 : w.cell? ⟨r, 0, none⟩ = some (.int .i64 a) := cell_of_row _ _ 0 _ _ _ h
  have c1 : w.cell? ⟨r, 1, none⟩ = some (.int .i64 s) := cell_of_row _ _ 1 _ _ _ h
  have f0 : w.frozen? ⟨r, 0, none⟩ = false := frozen_of_row w r 0 _ _ h
  have f1 : w.frozen? ⟨r, 1, none⟩ = false := frozen_of_row w r 1 _ _ h
  have hlt := h.lt
  have HN : Hid (Bx ((w.setCell ⟨r, 0, none⟩ (.int .i64 (a + c))).setCell ⟨r, 1, none⟩ (.int .i64 (s + m))) r 46 #[.int .i64 (a + c), .int .i64 (s + m)] ∧ w.grownBy ((w.setCell ⟨r, 0, none⟩ (.int .i64 (a + c))).setCell ⟨r, 1, none⟩ (.int .i64 (s + m))) (some r)) := Lib.hid ⟨bx_put2T h _ _, gtrans (grown_set w r 0 _) (grown_set _ r 1 _)⟩
  clear h
  go_enter Try.func21, Try.ntmps21
  go_wp2
  go_end0
  exact ⟨rfl, HN.out⟩
set_option maxHeartbeats 4000000 in
theorem i_exceeds (a b c d p q : Int) (w : World) (hp : IntKind.i64.wrap (a * d) = p) (hq : IntKind.i64.wrap (c * b) = q) :
    Calls Try.prog 23 #[.agg #[.int .i64 a, .int .i64 b], .agg #[.int .i64 c, .int .i64 d]] w fun e w' => e = .returned (.bool (decide (q < p))) ∧ Below w.heap.size w w' := by
  have S0 := ((GS.start w).box' 49 #[.int .i64 a, .int .i64 b] w.heap.size (by simp)).box' 49 #[.int .i64 c, .int .i64 d] (w.heap.size + 1) (by simp)
  have HB := Lib.hid S0.below
  obtain ⟨b1, b2⟩ := S0.b0_2
  obtain ⟨b3, b4⟩ := S0.b1_2
  clear S0
  go_enter Try.func23, Try.ntmps23
  go_wp2
  go_ret
  exact ⟨rfl, HB.out⟩
theorem i_square (d p : Int) (w : World) (hp : IntKind.i64.wrap (d * d) = p) : Calls Try.prog 32 #[.int .i64 d] w fun e w' => e = .returned (.int .i64 p) ∧ w' = w := by
  go_enter Try.func32, Try.ntmps32
  go_wp2
  go_ret
  exact ⟨rfl, rfl⟩
theorem fr_info : (Try.prog.info? 49).map (·.size) = some 2 := by kernel_rfl
set_option maxHeartbeats 8000000 in
theorem i_contrast (a x b y p q d z e1 : Int) (w : World) (hp : IntKind.i64.wrap (a * y) = p) (hq : IntKind.i64.wrap (b * x) = q) (hd : IntKind.i64.wrap (p - q) = d) (hz : IntKind.i64.wrap (d * d) = z) (he : IntKind.i64.wrap (a * b) = e1) :
    Calls Try.prog 22 #[.agg #[.int .i64 a, .int .i64 x], .agg #[.int .i64 b, .int .i64 y]] w fun e w' => e = .returned (.agg #[.int .i64 z, .int .i64 e1]) ∧ Below w.heap.size w w' := by
  have HSq := Lib.hid (i_square d z)
  have S0 := (((GS.start w).box' 46 #[.int .i64 a, .int .i64 x] w.heap.size (by simp)).box' 46 #[.int .i64 b, .int .i64 y] (w.heap.size + 1) (by simp)).box' 49 #[.int .i64 0, .int .i64 0] (w.heap.size + 1 + 1) (by simp)
  go_enter Try.func22, Try.ntmps22
  go_upto_region 1 with fail
  generalize ((w.alloc (.cells #[.int .i64 a, .int .i64 x] 46)).alloc (.cells #[.int .i64 b, .int .i64 y] 46)).alloc (.cells #[.int .i64 0, .int .i64 0] 49) = u0 at *
  have S1 := S0.drew
  have HS : Hid ((fun w' => w'.cell? ⟨w.heap.size, 0, none⟩ = some (.int .i64 a) ∧ w'.cell? ⟨w.heap.size, 1, none⟩ = some (.int .i64 x) ∧ w'.cell? ⟨w.heap.size + 1, 0, none⟩ = some (.int .i64 b) ∧ w'.cell? ⟨w.heap.size + 1, 1, none⟩ = some (.int .i64 y)) u0.drew) := Lib.hid ⟨S1.b2_2.1, S1.b2_2.2, S1.b1_2.1, S1.b1_2.2⟩
  have f0 : u0.frozen? ⟨w.heap.size + 1 + 1, 0, none⟩ = false := S0.f0 0
  have f1 : u0.frozen? ⟨w.heap.size + 1 + 1, 1, none⟩ = false := S0.f0 1
  have c0 : u0.cell? ⟨w.heap.size + 1 + 1, 0, none⟩ = some (.int .i64 0) := S0.b0_2.1
  have c1 : u0.cell? ⟨w.heap.size + 1 + 1, 1, none⟩ = some (.int .i64 0) := S0.b0_2.2
  have hlt := S0.l0
  have HX : Hid (Bx ((u0.drew.setCell ⟨w.heap.size + 1 + 1, 0, none⟩ (.int .i64 z)).setCell ⟨w.heap.size + 1 + 1, 1, none⟩ (.int .i64 e1)) (w.heap.size + 1 + 1) 49 #[.int .i64 z, .int .i64 e1]) := Lib.hid (bx_put2T S1.x0 _ _)
  have HBf : Hid (Below w.heap.size w ((u0.drew.setCell ⟨w.heap.size + 1 + 1, 0, none⟩ (.int .i64 z)).setCell ⟨w.heap.size + 1 + 1, 1, none⟩ (.int .i64 e1))) := Lib.hid (S1.below.grown (gtrans (grown_set _ (w.heap.size + 1 + 1) 0 _) (grown_set _ (w.heap.size + 1 + 1) 1 _)) S1.below.size (fun k hk => by injection hk with hk; omega))
  have HT : Hid ((fun w' => w'.cell? ⟨w.heap.size, 0, none⟩ = some (.int .i64 a) ∧ w'.cell? ⟨w.heap.size, 1, none⟩ = some (.int .i64 x) ∧ w'.cell? ⟨w.heap.size + 1, 0, none⟩ = some (.int .i64 b) ∧ w'.cell? ⟨w.heap.size + 1, 1, none⟩ = some (.int .i64 y)) ((u0.drew.setCell ⟨w.heap.size + 1 + 1, 0, none⟩ (.int .i64 z)).setCell ⟨w.heap.size + 1 + 1, 1, none⟩ (.int .i64 e1))) := Lib.hid (by
    have hne1 : ¬ w.heap.size = w.heap.size + 1 + 1 := by omega
    have hne2 : ¬ w.heap.size + 1 = w.heap.size + 1 + 1 := by omega
    obtain ⟨h1, h2, h3, h4⟩ := HS.out
    have off : ∀ (k i : Nat) (v : Value), ¬ k = w.heap.size + 1 + 1 → u0.drew.cell? ⟨k, i, none⟩ = some v → ((u0.drew.setCell ⟨w.heap.size + 1 + 1, 0, none⟩ (.int .i64 z)).setCell ⟨w.heap.size + 1 + 1, 1, none⟩ (.int .i64 e1)).cell? ⟨k, i, none⟩ = some v := fun k i v hk hc => by
      rw [← hc]
      have e := (gtrans (grown_set u0.drew (w.heap.size + 1 + 1) 0 (.int .i64 z)) (grown_set _ (w.heap.size + 1 + 1) 1 (.int .i64 e1))).block k (by
        by_cases hl : k < u0.drew.heap.size
        · exact hl
        · exfalso; rw [World.cell?] at hc; simp [Array.getElem?_eq_none (show u0.drew.heap.size ≤ k by omega)] at hc) (by simp; omega)
      simp only [World.cell?, e]
    exact ⟨off _ _ _ hne1 h1, off _ _ _ hne1 h2, off _ _ _ hne2 h3, off _ _ _ hne2 h4⟩)
  clear S0 S1
  refine wp_region_held_drew (S := (fun w' => w'.cell? ⟨w.heap.size, 0, none⟩ = some (.int .i64 a) ∧ w'.cell? ⟨w.heap.size, 1, none⟩ = some (.int .i64 x) ∧ w'.cell? ⟨w.heap.size + 1, 0, none⟩ = some (.int .i64 b) ∧ w'.cell? ⟨w.heap.size + 1, 1, none⟩ = some (.int .i64 y))) (by kernel_rfl) (by exact HS.out) (fun hHeld => ?_)
  refine' wpAnyH_take (i := 0) (oi := _) (v := _) ?hi1 (by kernel_rfl) (by kernel_rfl) (by kernel_rfl) ?hq1 (Or.inl ⟨?hw1, ?hy1⟩) (by assumption) ?rest1
  case hi1 => (simp only [List.getElem?_toArray, List.getElem?_cons_succ, List.getElem?_cons_zero]; rfl)
  case hq1 => exact fun _ _ _ h => h
  case hw1 => rfl
  case hy1 => (intro wq hSw; (try dsimp only at hSw); go_simp; (try with_reducible rfl))
  (try simp only [Act.put, List.setIfInBounds_toArray, List.set_cons_zero, List.set_cons_succ])
  refine' wpAnyH_take (i := 1) (oi := _) (v := _) ?hi2 (by kernel_rfl) (by kernel_rfl) (by kernel_rfl) ?hq2 (Or.inl ⟨?hw2, ?hy2⟩) (by assumption) ?rest2
  case hi2 => (simp only [List.getElem?_toArray, List.getElem?_cons_succ, List.getElem?_cons_zero]; rfl)
  case hq2 => exact fun _ _ _ h => h
  case hw2 => rfl
  case hy2 => (intro wq hSw; (try dsimp only at hSw); go_simp; (try with_reducible rfl))
  (try simp only [Act.put, List.setIfInBounds_toArray, List.set_cons_zero, List.set_cons_succ])
  refine' wpAnyH_take (i := 2) (oi := _) (v := _) ?hi3 (by kernel_rfl) (by kernel_rfl) (by kernel_rfl) ?hq3 (Or.inl ⟨?hw3, ?hy3⟩) (by assumption) ?rest3
  case hi3 => (simp only [List.getElem?_toArray, List.getElem?_cons_succ, List.getElem?_cons_zero]; rfl)
  case hq3 => exact fun _ _ _ h => h
  case hw3 => rfl
  case hy3 => (intro wq hSw; (try dsimp only at hSw); go_simp; (try with_reducible rfl))
  (try simp only [Act.put, List.setIfInBounds_toArray, List.set_cons_zero, List.set_cons_succ])
  refine' wpAnyH_take (i := 3) (oi := _) (v := _) ?hi4 (by kernel_rfl) (by kernel_rfl) (by kernel_rfl) ?hq4 (Or.inl ⟨?hw4, ?hy4⟩) (by assumption) ?rest4
  case hi4 => (simp only [List.getElem?_toArray, List.getElem?_cons_succ, List.getElem?_cons_zero]; rfl)
  case hq4 => exact fun _ _ _ h => h
  case hw4 => rfl
  case hy4 => (intro wq hSw; (try dsimp only at hSw); go_simp; (try with_reducible rfl))
  (try simp only [Act.put, List.setIfInBounds_toArray, List.set_cons_zero, List.set_cons_succ])
  refine' wpAnyH_take (i := 4) (oi := _) (v := _) ?hi5 (by kernel_rfl) (by kernel_rfl) (by kernel_rfl) ?hq5 (Or.inl ⟨?hw5, ?hy5⟩) (by assumption) ?rest5
  case hi5 => (simp only [List.getElem?_toArray, List.getElem?_cons_succ, List.getElem?_cons_zero]; rfl)
  case hq5 => exact fun _ _ _ h => h
  case hw5 => rfl
  case hy5 => (intro wq hSw; (try dsimp only at hSw); go_simp; (try with_reducible rfl))
  (try simp only [Act.put, List.setIfInBounds_toArray, List.set_cons_zero, List.set_cons_succ])
  refine' wpAnyH_take (i := 5) (oi := _) (v := _) ?hi6 (by kernel_rfl) (by kernel_rfl) (by kernel_rfl) ?hq6 (Or.inl ⟨?hw6, ?hy6⟩) (by assumption) ?rest6
  case hi6 => (simp only [List.getElem?_toArray, List.getElem?_cons_succ, List.getElem?_cons_zero]; rfl)
  case hq6 => exact fun _ _ _ h => h
  case hw6 => rfl
  case hy6 => (intro wq hSw; (try dsimp only at hSw); go_simp; (try with_reducible rfl))
  (try simp only [Act.put, List.setIfInBounds_toArray, List.set_cons_zero, List.set_cons_succ])
  refine' wpAnyH_take (i := 6) (oi := _) (v := _) ?hi7 (by kernel_rfl) (by kernel_rfl) (by kernel_rfl) ?hq7 (Or.inl ⟨?hw7, ?hy7⟩) (by assumption) ?rest7
  case hi7 => (simp only [List.getElem?_toArray, List.getElem?_cons_succ, List.getElem?_cons_zero]; rfl)
  case hq7 => exact fun _ _ _ h => h
  case hw7 => rfl
  case hy7 => (intro wq hSw; (try dsimp only at hSw); go_simp; (try with_reducible rfl))
  (try simp only [Act.put, List.setIfInBounds_toArray, List.set_cons_zero, List.set_cons_succ])
  refine' wpAnyH_take (i := 7) (oi := _) (v := _) ?hi8 (by kernel_rfl) (by kernel_rfl) (by kernel_rfl) ?hq8 (Or.inl ⟨?hw8, ?hy8⟩) (by assumption) ?rest8
  case hi8 => (simp only [List.getElem?_toArray, List.getElem?_cons_succ, List.getElem?_cons_zero]; rfl)
  case hq8 => exact fun _ _ _ h => h
  case hw8 => rfl
  case hy8 => (intro wq hSw; (try dsimp only at hSw); go_simp; (try with_reducible rfl))
  (try simp only [Act.put, List.setIfInBounds_toArray, List.set_cons_zero, List.set_cons_succ])
  refine' wpAnyH_take (i := 8) (oi := _) (v := _) ?hi9 (by kernel_rfl) (by kernel_rfl) (by kernel_rfl) ?hq9 (Or.inl ⟨?hw9, ?hy9⟩) (by assumption) ?rest9
  case hi9 => (simp only [List.getElem?_toArray, List.getElem?_cons_succ, List.getElem?_cons_zero]; rfl)
  case hq9 => exact fun _ _ _ h => h
  case hw9 => rfl
  case hy9 => (intro wq hSw; (try dsimp only at hSw); go_simp; (try with_reducible rfl))
  (try simp only [Act.put, List.setIfInBounds_toArray, List.set_cons_zero, List.set_cons_succ])
  refine' wpAnyH_take (i := 9) (oi := _) (v := _) ?hi10 (by kernel_rfl) (by kernel_rfl) (by kernel_rfl) ?hq10 (Or.inl ⟨?hw10, ?hy10⟩) (by assumption) ?rest10
  case hi10 => (simp only [List.getElem?_toArray, List.getElem?_cons_succ, List.getElem?_cons_zero]; rfl)
  case hq10 => exact fun _ _ _ h => h
  case hw10 => rfl
  case hy10 => (intro wq hSw; (try dsimp only at hSw); go_simp; (try with_reducible rfl))
  (try simp only [Act.put, List.setIfInBounds_toArray, List.set_cons_zero, List.set_cons_succ])
  refine' wpAnyH_take (i := 10) (oi := _) (v := _) ?hi11 (by kernel_rfl) (by kernel_rfl) (by kernel_rfl) ?hq11 (Or.inl ⟨?hw11, ?hy11⟩) (by assumption) ?rest11
  case hi11 => (simp only [List.getElem?_toArray, List.getElem?_cons_succ, List.getElem?_cons_zero]; rfl)
  case hq11 => exact fun _ _ _ h => h
  case hw11 => rfl
  case hy11 => (intro wq hSw; (try dsimp only at hSw); go_simp; (try with_reducible rfl))
  (try simp only [Act.put, List.setIfInBounds_toArray, List.set_cons_zero, List.set_cons_succ])
  refine' wpAnyH_take (i := 12) (oi := _) (v := _) ?hi12 (by kernel_rfl) (by kernel_rfl) (by kernel_rfl) ?hq12 (Or.inl ⟨?hw12, ?hy12⟩) (by assumption) ?rest12
  case hi12 => (simp only [List.getElem?_toArray, List.getElem?_cons_succ, List.getElem?_cons_zero]; rfl)
  case hq12 => exact fun _ _ _ h => h
  case hw12 => rfl
  case hy12 => (intro wq hSw; (try dsimp only at hSw); go_simp; (try with_reducible rfl))
  (try simp only [Act.put, List.setIfInBounds_toArray, List.set_cons_zero, List.set_cons_succ])
  refine' wpAnyH_take (i := 13) (oi := _) (v := _) ?hi13 (by kernel_rfl) (by kernel_rfl) (by kernel_rfl) ?hq13 (Or.inl ⟨?hw13, ?hy13⟩) (by assumption) ?rest13
  case hi13 => (simp only [List.getElem?_toArray, List.getElem?_cons_succ, List.getElem?_cons_zero]; rfl)
  case hq13 => exact fun _ _ _ h => h
  case hw13 => rfl
  case hy13 => (intro wq hSw; (try dsimp only at hSw); go_simp; (try with_reducible rfl))
  (try simp only [Act.put, List.setIfInBounds_toArray, List.set_cons_zero, List.set_cons_succ])
  refine' wpAnyH_take (i := 14) (oi := _) (v := _) ?hi14 (by kernel_rfl) (by kernel_rfl) (by kernel_rfl) ?hq14 (Or.inl ⟨?hw14, ?hy14⟩) (by assumption) ?rest14
  case hi14 => (simp only [List.getElem?_toArray, List.getElem?_cons_succ, List.getElem?_cons_zero]; rfl)
  case hq14 => exact fun _ _ _ h => h
  case hw14 => rfl
  case hy14 => (intro wq hSw; (try dsimp only at hSw); go_simp; (try with_reducible rfl))
  (try simp only [Act.put, List.setIfInBounds_toArray, List.set_cons_zero, List.set_cons_succ])
  refine' wpAnyH_take (i := 15) (oi := _) (v := _) ?hi15 (by kernel_rfl) (by kernel_rfl) (by kernel_rfl) ?hq15 (Or.inl ⟨?hw15, ?hy15⟩) (by assumption) ?rest15
  case hi15 => (simp only [List.getElem?_toArray, List.getElem?_cons_succ, List.getElem?_cons_zero]; rfl)
  case hq15 => exact fun _ _ _ h => h
  case hw15 => rfl
  case hy15 => (intro wq hSw; (try dsimp only at hSw); go_simp; (try with_reducible rfl))
  (try simp only [Act.put, List.setIfInBounds_toArray, List.set_cons_zero, List.set_cons_succ])
  refine' wpAnyH_take (i := 16) (oi := _) (v := _) ?hi16 (by kernel_rfl) (by kernel_rfl) (by kernel_rfl) ?hq16 (Or.inl ⟨?hw16, ?hy16⟩) (by assumption) ?rest16
  case hi16 => (simp only [List.getElem?_toArray, List.getElem?_cons_succ, List.getElem?_cons_zero]; rfl)
  case hq16 => exact fun _ _ _ h => h
  case hw16 => rfl
  case hy16 => (intro wq hSw; (try dsimp only at hSw); go_simp; (try with_reducible rfl))
  (try simp only [Act.put, List.setIfInBounds_toArray, List.set_cons_zero, List.set_cons_succ])
  refine wpAnyH_ready (rs := [11]) (by kernel_rfl) (by simp) ?_
  refine' AllReadyH.cons (o := _) ?hi17 (fun K hK => ?rest17) AllReadyH.nil
  case hi17 => (simp only [List.getElem?_toArray, List.getElem?_cons_succ, List.getElem?_cons_zero]; rfl)
  go_simp
  go_at_call 32
  refine (HSq.out _ hz).mono ?_
  rintro e u1 ⟨rfl, hu⟩
  rw [hu]
  clear hu u1
  go_wp2_with fail
  refine hK.out _ _ (by (try dsimp only); exact HS.out) (fun hHeld => ?_)
  clear hK K
  (try simp only [Act.put, List.setIfInBounds_toArray, List.set_cons_zero, List.set_cons_succ])
  refine' wpAnyH_take (i := 17) (oi := _) (v := _) ?hi18 (by kernel_rfl) (by kernel_rfl) (by kernel_rfl) ?hq18 (Or.inl ⟨?hw18, ?hy18⟩) (by assumption) ?rest18
  case hi18 => (simp only [List.getElem?_toArray, List.getElem?_cons_succ, List.getElem?_cons_zero]; rfl)
  case hq18 => exact fun _ _ _ h => h
  case hw18 => rfl
  case hy18 => (intro wq hSw; (try dsimp only at hSw); go_simp; (try with_reducible rfl))
  (try simp only [Act.put, List.setIfInBounds_toArray, List.set_cons_zero, List.set_cons_succ])
  refine wpAnyH_ready (rs := [18]) (by kernel_rfl) (by simp) ?_
  refine' AllReadyH.cons (o := _) ?hi19 (fun K hK => ?rest19) AllReadyH.nil
  case hi19 => (simp only [List.getElem?_toArray, List.getElem?_cons_succ, List.getElem?_cons_zero]; rfl)
  go_simp
  go_wp2_with fail
  refine hK.out _ _ (by (try dsimp only); exact HT.out) (fun hHeld => ?_)
  clear hK K
  (try simp only [Act.put, List.setIfInBounds_toArray, List.set_cons_zero, List.set_cons_succ])
  refine wpAnyH_done (by kernel_rfl) ?_ _
  go_wp2
  exact bodyPost_ret (v := .agg #[.int .i64 z, .int .i64 e1]) (results_cell_row Try.results22 _ _ (w.heap.size + 1 + 1) 49 _ (0, 0) _ rfl HX.out Try.underlying49 rfl fr_info) rfl ⟨rfl, HBf.out⟩
end Go.Proofs.Ytaejhodikpjeoaa
