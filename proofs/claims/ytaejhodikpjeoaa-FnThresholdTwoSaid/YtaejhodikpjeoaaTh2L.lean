/- What the law of thresholds of two colors needs. -/
import Derived.Test.YtaejhodikpjeoaaThrL
import Derived.Test.YtaejhodikpjeoaaMgG
namespace Go.Proofs.Ytaejhodikpjeoaa
open Go.RowKit Go.Shelf
set_option linter.unusedSimpArgs false
set_option linter.unusedVariables false

/-- The two colors of an image of one plane. -/
theorem pal_two2 {W H : Nat} {xs : List Int} (hl : xs.length = W * H) (h2 : (acL 1 xs (W * H)).length = 2) : ∃ i j : Nat, i < xs.length ∧ j < xs.length ∧ acL 1 xs (W * H) = [[xs.getD i 0], [xs.getD j 0]] ∧ ¬ xs.getD i 0 = xs.getD j 0 ∧ (∀ x ∈ xs, x = xs.getD i 0 ∨ x = xs.getD j 0) := by
  have hrow : ∀ k, k < W * H → pxk 1 xs k = [xs.getD k 0] := fun k hk => by
    have hk' : k < xs.length := by omega
    refine list_eq (by rw [pxk_len (by omega)]; rfl) fun j hj => ?_
    rw [pxk_len (by omega)] at hj
    obtain rfl : j = 0 := by omega
    rw [pxk_get (by omega)]
    simp
  obtain ⟨r, s, hrs⟩ : ∃ r s, acL 1 xs (W * H) = [r, s] := by
    match h : acL 1 xs (W * H), h2 with
    | [r, s], _ => exact ⟨r, s, rfl⟩
  have hmr := acL_row (P := 1) (xs := xs) (k := W * H) (by omega) r (by rw [hrs]; simp)
  have hms := acL_row (P := 1) (xs := xs) (k := W * H) (by omega) s (by rw [hrs]; simp)
  obtain ⟨i, hi, er⟩ := hmr
  obtain ⟨k, hk, es⟩ := hms
  have hnd := acL_nodup 1 xs (W * H)
  rw [hrs] at hnd
  have hne : r ≠ s := by simpa using hnd
  rw [hrow i hi] at er
  rw [hrow k hk] at es
  refine ⟨i, k, by omega, by omega, by rw [hrs, er, es], fun e => hne (by rw [er, es, e]), fun x hx => ?_⟩
  obtain ⟨j, hj, rfl⟩ := mem_getD hx
  have hm := acL_mem (P := 1) (xs := xs) (k := W * H) (j := j) (by omega)
  rw [hrs, hrow j (by omega), er, es] at hm
  simpa using hm
theorem sm_flat (cs : List Int) {u : Nat} : ∀ v, u ≤ v → (∀ n, u ≤ n → n < v → cs.getD n 0 = 0) → sm cs v = sm cs u ∧ wsm cs v = wsm cs u
  | 0, h, _ => by obtain rfl : u = 0 := by omega
                  exact ⟨rfl, rfl⟩
  | v + 1, h, hz => by
    by_cases e : u = v + 1
    · subst e; exact ⟨rfl, rfl⟩
    · obtain ⟨h1, h2⟩ := sm_flat cs (u := u) v (by omega) (fun n a b => hz n a (by omega))
      obtain ⟨e1, e2⟩ := sm_next cs v
      rw [hz v (by omega) (by omega)] at e1 e2
      rw [e1, e2, h1, h2]
      exact ⟨by rw [Int.add_zero], by rw [Int.zero_mul, Int.add_zero]⟩
theorem hist_none {xs : List Int} {a b : Int} (hab : ∀ x ∈ xs, x = a ∨ x = b) {n : Nat} (hn : n < 256) (h1 : ¬ (n : Int) = a) (h2 : ¬ (n : Int) = b) : (hist xs).getD n 0 = 0 := by
  rw [hist_get xs hn, List.count_eq_zero.2 (fun hm => by rcases hab _ hm with e | e; exact h1 e; exact h2 e)]
  rfl
/-- Between two numbers, the lowest threshold is the best. -/
theorem thr_two {xs : List Int} (hb : ∀ j, j < xs.length → 0 ≤ xs.getD j 0 ∧ xs.getD j 0 ≤ 255) {i j : Nat} (hi : i < xs.length) (hj : j < xs.length) (hlt : xs.getD i 0 < xs.getD j 0) (hab : ∀ x ∈ xs, x = xs.getD i 0 ∨ x = xs.getD j 0) : ((bst (hist xs) 255 : Nat) : Int) = xs.getD i 0 + 1 := by
  have bi := hb i hi
  have bj := hb j hj
  obtain ⟨lo, hlo⟩ : ∃ n : Nat, xs.getD i 0 = n := ⟨(xs.getD i 0).toNat, by omega⟩
  obtain ⟨hh, hhi⟩ : ∃ n : Nat, xs.getD j 0 = n := ⟨(xs.getD j 0).toNat, by omega⟩
  rw [hlo, hhi] at hab hlt
  have hz : ∀ n : Nat, n < 256 → ¬ n = lo → ¬ n = hh → (hist xs).getD n 0 = 0 := fun n h1 h2 h3 => hist_none hab h1 (by omega) (by omega)
  have f0 : ∀ k, k ≤ lo → thA (hist xs) k = 0 := fun k hk => by
    have := (sm_flat (hist xs) (u := 0) k (by omega) (fun n _ h => hz n (by omega) (by omega) (by omega))).1
    show sm (hist xs) k = 0
    rw [this]; rfl
  have g0 : ∀ k, k ≤ lo → bst (hist xs) k = 0 := fun k => by
    induction k with
    | zero => intro _; rfl
    | succ k ih => intro hk; rw [bst_skip (.inl (f0 (k + 1) hk))]; exact ih (by omega)
  obtain ⟨e1, e2⟩ := blw_hist hb (lo + 1) (by omega)
  have p1 := blw_pos (xs := xs) (t := ((lo + 1 : Nat) : Int)) xs.length i hi (by omega)
  have p2 := blw_lt (xs := xs) (t := ((lo + 1 : Nat) : Int)) xs.length j hj (by omega)
  have ha : ¬ thA (hist xs) (lo + 1) = 0 := by rw [← e1]; omega
  have hb2 : ¬ thB (hist xs) (lo + 1) = 0 := by rw [← e2]; omega
  have g1 : bst (hist xs) (lo + 1) = lo + 1 := by rw [bst_next (fun c => c.elim ha hb2), if_pos (.inl (g0 lo (Nat.le_refl _)))]
  have g2 : ∀ d, lo + 1 + d ≤ 255 → bst (hist xs) (lo + 1 + d) = lo + 1 := fun d => by
    induction d with
    | zero => intro _; exact g1
    | succ d ih =>
      intro hd
      have ih := ih (by omega)
      rw [show lo + 1 + (d + 1) = (lo + 1 + d) + 1 by omega]
      by_cases c : lo + 1 + d + 1 ≤ hh
      · obtain ⟨s1, s2⟩ := sm_flat (hist xs) (u := lo + 1) (lo + 1 + d + 1) (by omega) (fun n h1 h2 => hz n (by omega) (by omega) (by omega))
        have t1 : thA (hist xs) (lo + 1 + d + 1) = thA (hist xs) (lo + 1) := s1
        have t2 : thB (hist xs) (lo + 1 + d + 1) = thB (hist xs) (lo + 1) := congrArg (fun z => sm (hist xs) 256 - z) s1
        have t3 : thX (hist xs) (lo + 1 + d + 1) = thX (hist xs) (lo + 1) := s2
        have t4 : thY (hist xs) (lo + 1 + d + 1) = thY (hist xs) (lo + 1) := congrArg (fun z => wsm (hist xs) 256 - z) s2
        have t5 : thD (hist xs) (lo + 1 + d + 1) = thD (hist xs) (lo + 1) := by rw [thD_eq, thD_eq, t1, t2, t3, t4]
        have t6 : thE (hist xs) (lo + 1 + d + 1) = thE (hist xs) (lo + 1) := by rw [thE_eq, thE_eq, t1, t2]
        rw [bst_next (by rw [t1, t2]; exact fun c => c.elim ha hb2), ih, t5, t6, if_neg (fun c => c.elim (Nat.succ_ne_zero _) (fun c => Int.lt_irrefl _ c))]
      · have s1 := (sm_flat (hist xs) (u := lo + 1 + d + 1) 256 (by omega) (fun n h1 h2 => hz n (by omega) (by omega) (by omega))).1
        rw [bst_skip (.inr (by show sm (hist xs) 256 - sm (hist xs) (lo + 1 + d + 1) = 0; rw [s1]; exact Int.sub_self _)), ih]
  have := g2 (255 - (lo + 1)) (by omega)
  rw [show lo + 1 + (255 - (lo + 1)) = 255 by omega] at this
  rw [this, hlo]
  rfl
/-- The law: the palette has not two colors, or the threshold is one more than the lower one. -/
theorem th2_law (W H P : Int) (xs : List Int) (hx : xs.length ≤ 256) : ∃ t : Int, Hid (ThrC 9 W H P xs t) ∧ Hid (ThrC 7 W H P xs t) ∧
    (t < 0 ∨ (¬ t < 0 ∧ ∃ (L : List (List Int)) (ok : Bool), L.length ≤ 16 ∧ Hid (∀ (A : Option Addr) (c : Nat) (u : World), Rds .i64 u u.heap.size A xs → xs.length ≤ c → Calls Try.prog 12 #[.agg #[.int .i64 W, .int .i64 H, .int .i64 P, .slice A xs.length c]] u fun e w' => ∃ (A2 : Option Addr) (c2 : Nat), e = .returned (.tuple #[.slice A2 L.length c2, .bool ok]) ∧ L.length ≤ c2 ∧ Rdss w' w'.heap.size A2 L ∧ Below u.heap.size u w') ∧
      (ok = false ∨ (ok = true ∧ ¬ L.length = 2) ∨ (ok = true ∧ ∃ a b : Int, L = [[a], [b]] ∧ 0 ≤ a ∧ a ≤ 255 ∧ 0 ≤ b ∧ b ≤ 255 ∧ t = min a b + 1)))) := by
  refine ⟨thV W H P xs, Lib.hid (fun A c w hr => i_ThresholdOf W H P A c xs w hr (by omega)), Lib.hid (fun A c w hr => s_ThresholdOf W H P A c xs w hr (by omega)), ?_⟩
  unfold thV
  cases hv : vpl W H P xs
  · left; show (-1 : Int) < 0; omega
  · right
    have hvm := (vpl_len hv).2.1
    have hP := (vpl_len hv).2.2
    have hb := bytes_of hvm
    show ¬ ((bst (hist xs) 255 : Nat) : Int) < 0 ∧ _
    have hpn : (palL W H P xs).length ≤ 16 := by
      unfold palL
      cases hk : palOk W H P xs
      · exact Nat.zero_le _
      · unfold palOk at hk
        rw [Bool.and_eq_true, decide_eq_true_eq] at hk
        exact hk.2
    refine ⟨by omega, palL W H P xs, palOk W H P xs, hpn, Lib.hid (fun A c u k1 k2 => (i_PaletteOf W H P A c xs u k1 (by omega) k2).mono fun e w' ⟨M, A2, c2, he, hc, hM, hG⟩ => ⟨A2, c2, he, hc, LsM.rds hG hM (fun t ht => ht), hG.below⟩), ?_⟩
    cases hk : palOk W H P xs
    · exact .inl rfl
    · by_cases hn : (palL W H P xs).length = 2
      · refine .inr (.inr ⟨rfl, ?_⟩)
        subst hP
        obtain ⟨W, H, P', F, rfl, rfl, hP', hxs, ok⟩ := vim_okJ hvm
        have hP1 : P' = 1 := by omega
        have e : palL W H 1 xs = acL 1 xs (W * H) := by unfold palL; rw [hk]; rfl
        rw [e] at hn ⊢
        have hln : xs.length = W * H := by rw [hxs, img_len, hP1, Nat.mul_one]
        obtain ⟨i, j, hi, hj, hL, hne, hab⟩ := pal_two2 hln hn
        refine ⟨xs.getD i 0, xs.getD j 0, hL, (hb i hi).1, (hb i hi).2, (hb j hj).1, (hb j hj).2, ?_⟩
        show ((bst (hist xs) 255 : Nat) : Int) = _
        rcases Int.lt_or_gt_of_ne hne with h | h
        · rw [thr_two hb hi hj h hab, Int.min_eq_left (by omega)]
        · rw [thr_two hb hj hi h (fun x hx => (hab x hx).symm), Int.min_eq_right (by omega)]
      · exact .inr (.inl ⟨rfl, hn⟩)
end Go.Proofs.Ytaejhodikpjeoaa
