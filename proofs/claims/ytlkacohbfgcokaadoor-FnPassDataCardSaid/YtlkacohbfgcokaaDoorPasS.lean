/- Contract of PassData in the model. -/
import Derived.Test.YtlkacohbfgcokaaDoorPasM
import Derived.Test.YtlkacohbfgcokaaDoorSpecP
import Derived.Test.YtlkacohbfgcokaaDoorGridF
import Derived.Test.YtlkacohbfgcokaaDoorGen
namespace Go.Proofs.YtlkacohbfgcokaaDoor
open Go.RowKit Go.Shelf
set_option linter.unusedSimpArgs false
set_option linter.unusedVariables false
set_option maxRecDepth 20000

/-- A row that grows, a box, and numbers that are read. -/
structure PdSt (w wr : World) (b base : Nat) (cs : Array Value) (A : Option Addr) (xs : List Int) (v : Value) (L : List Int) : Prop where
  O : Own wr base v L
  X : Bx wr b 25 cs
  R : Rds .i64 wr w.heap.size A xs
  B : Below w.heap.size w wr
  lb : b < base
  lw : w.heap.size ≤ base
  ls : base ≤ wr.heap.size
theorem PdSt.call {w wr w' : World} {b base : Nat} {cs : Array Value} {A : Option Addr} {xs : List Int} {v : Value} {L : List Int} (h : PdSt w wr b base cs A xs v L) (hb : Below wr.heap.size wr w') : PdSt w w' b base cs A xs v L :=
  ⟨h.O.below hb (Nat.le_refl _), h.X.below hb, h.R.belowTo hb (Nat.le_trans h.lw h.ls), h.B.trans (hb.mono h.B.size), h.lb, h.lw, Nat.le_trans h.ls hb.size⟩
theorem PdSt.app {w wr w' : World} {b base : Nat} {cs : Array Value} {A : Option Addr} {xs : List Int} {v v' : Value} {L L' : List Int} (h : PdSt w wr b base cs A xs v L) (hO : Own w' base v' L') (hG : wr.grownBy w' v.ownBlock) : PdSt w w' b base cs A xs v' L' := by
  have hge : ∀ k, v.ownBlock = some k → base ≤ k := fun k hk => (h.O.lt k hk).1
  refine ⟨hO, (hG.block b h.X.lt ?_).trans h.X, h.R.grown hG (Nat.le_trans h.lw h.ls) (fun k hk => Nat.le_trans h.lw (hge k hk)), h.B.grown hG h.B.size (fun k hk => Nat.le_trans h.lw (hge k hk)), h.lb, h.lw, Nat.le_trans h.ls hG.size⟩
  intro e
  have := hge b e.symm
  have := h.lb
  omega
set_option maxHeartbeats 16000000 in
theorem s_passData (W H P p : Nat) (hW1 : 1 ≤ W) (hW : W ≤ 16) (hH1 : 1 ≤ H) (hH : H ≤ 16) (hP1 : 1 ≤ P) (hP : P ≤ 4) (hp : p ≤ 6) (A : Option Addr) (c : Nat) (xs : List Int) (hl : xs.length = W * H * P) (hlc : xs.length ≤ c) (w : World) (hx : Rds .i64 w w.heap.size A xs) :
    Calls Tryd.prog 40 #[.agg #[.int .i64 (W : Int), .int .i64 (H : Int), .int .i64 (P : Int), .slice A xs.length c], .int .i64 (p : Int)] w (Made (pdV W P xs H p) w) := by
  obtain ⟨fx, dx, fy, dy, e1, e2, e3, e4, hfx, hdx, hfy, hdy⟩ := ps_nat p hp
  rw [pdV_eq e1 e2 e3 e4]
  have HN1 : Hid (∀ i, i < cN W fx dx → fx + dx * i < W) := Lib.hid (fun i h => cN_lt hfx hW1 h)
  have HN2 : Hid (W ≤ fx + dx * cN W fx dx) := Lib.hid (cN_ge hfx hW1)
  have HM1 : Hid (∀ i, i < cN H fy dy → fy + dy * i < H) := Lib.hid (fun i h => cN_lt hfy hH1 h)
  have HM2 : Hid (H ≤ fy + dy * cN H fy dy) := Lib.hid (cN_ge hfy hH1)
  have hNl : cN W fx dx ≤ 16 := Nat.le_trans (cN_le hfx hW1) hW
  have hMl : cN H fy dy ≤ 16 := Nat.le_trans (cN_le hfy hH1) hH
  generalize cN W fx dx = N at *
  generalize cN H fy dy = M at *
  have hNM : N * M ≤ 256 := Nat.mul_le_mul hNl hMl
  have HL : Hid (∀ k, k ≤ 256 → (pdL W P xs fx dx fy dy N k).length ≤ 1024) := Lib.hid (fun k hk => pdL_bd hk hP)
  have HST : Hid (∀ R C, C < N → pdL W P xs fx dx fy dy N (R * N + C) ++ pxl W P xs (fx + dx * C) (fy + dy * R) = pdL W P xs fx dx fy dy N (R * N + C + 1)) := Lib.hid (fun R C hC => pdL_step hC)
  obtain ⟨F, hF⟩ : ∃ F, F = pdL W P xs fx dx fy dy N := ⟨_, rfl⟩
  rw [← hF] at HL HST ⊢
  have HF0 : Hid (F 0 = []) := Lib.hid (by rw [hF]; rfl)
  clear hF
  obtain ⟨u0, hu⟩ : ∃ u0, u0 = (w.alloc (.cells #[.int .i64 W, .int .i64 H, .int .i64 P, .slice A xs.length c] 25)).alloc (.cells #[] 3) := ⟨_, rfl⟩
  obtain ⟨b, hb⟩ : ∃ b, b = w.heap.size := ⟨_, rfl⟩
  have HS0 : Hid (PdSt w u0 b (b + 1) (imC W H P (.slice A xs.length c)) A xs (.slice (some ⟨b + 1, 0, none⟩) 0 0) []) := Lib.hid (by
    have hO := own_none (w.alloc (.cells #[.int .i64 W, .int .i64 H, .int .i64 P, .slice A xs.length c] 25))
    rw [← hu] at hO
    refine ⟨by rw [hb]; simpa using hO, by rw [hu, hb]; exact (Bx.new w _ _).alloc _, by rw [hu]; exact (hx.alloc (Nat.le_refl _) _).alloc (by simp) _, by rw [hu]; exact ((Below.refl _ _).alloc (Nat.le_refl _) _).alloc (by simp) _, by omega, by omega, by rw [hu, hb]; simp⟩)
  have HU := Lib.hid hu
  have HBB := Lib.hid hb
  have HLn := Lib.hid hl
  clear hl
  obtain ⟨a0, a1, a2, a3⟩ := HS0.out.X.im
  have al := HS0.out.X.lt
  clear hu hb hx
  go_enter Tryd.func40, Tryd.ntmps40
  go_wp2_with fail
  rw [← HU.out, ← HBB.out]
  refine (s_passStart p hp u0).mono ?_
  rintro e w1 ⟨rfl, hb1⟩
  rw [e1, e2, e3, e4]
  have HS1 := Lib.hid (HS0.out.call hb1)
  clear HS0 hb1 a0 a1 a2 a3 al HU
  go_wp2
  go_loopw [5, 10] (fun s y wr => ∃ (R v : Nat), R ≤ M ∧ y = .int .i64 (v : Int) ∧ Hid (v = fy + dy * R) ∧ v ≤ 2000 ∧ Hid (PdSt w wr b (b + 1) (imC W H P (.slice A xs.length c)) A xs s (F (R * N)))) (fun _ y _ => H - (intOf y).toNat)
  case atStart => exact ⟨0, fy, Nat.zero_le _, rfl, Lib.hid (by omega), by omega, Lib.hid (by rw [Nat.zero_mul, HF0.out]; exact HS1.out)⟩
  case round =>
    clear HS1
    obtain ⟨R, v, hR, rfl, Hv, hv2, HI⟩ := hrel
    rename World => wy
    obtain ⟨a0, a1, a2, a3⟩ := HI.out.X.im
    have al := HI.out.X.lt
    by_cases hlt : (v : Int) < (H : Int)
    · have hRM : R < M := by
        rcases Nat.lt_or_ge R M with h | h
        · exact h
        · have := HM2.out; have e : R = M := by omega
          subst e; have := Hv.out; omega
      go_wp2
      clear a0 a1 a2 a3 al
      go_loopw [5, 11] (fun s x wr => ∃ (C q : Nat), C ≤ N ∧ x = .int .i64 (q : Int) ∧ Hid (q = fx + dx * C) ∧ q ≤ 2000 ∧ Hid (PdSt w wr b (b + 1) (imC W H P (.slice A xs.length c)) A xs s (F (R * N + C)))) (fun _ x _ => W - (intOf x).toNat)
      case atStart => exact ⟨0, fx, Nat.zero_le _, rfl, Lib.hid (by omega), by omega, HI⟩
      case round =>
        clear HI
        obtain ⟨C, q, hC, rfl, Hq, hq2, HI⟩ := hrel
        rename World => wx
        obtain ⟨a0, a1, a2, a3⟩ := HI.out.X.im
        have al := HI.out.X.lt
        by_cases hltx : (q : Int) < (W : Int)
        · have hCN : C < N := by
            rcases Nat.lt_or_ge C N with h | h
            · exact h
            · have := HN2.out; have e : C = N := by omega
              subst e; have := Hq.out; omega
          have hkT : R * N + C + 1 ≤ 256 := by
            have := Nat.mul_le_mul_right N (show R + 1 ≤ M from hRM)
            rw [Nat.add_mul, Nat.one_mul, Nat.mul_comm M] at this
            omega
          have hll := HL.out (R * N + C) (by omega)
          have HSS := Lib.hid (HST.out R C hCN)
          rw [← Hq.out, ← Hv.out] at HSS
          go_wp2_with fail
          refine (pixelAt_any W H P hW hH hP1 hP A c xs HLn.out hlc q v (by omega) (by omega) wx (HI.out.R.more (Nat.le_trans HI.out.lw HI.out.ls))).mono ?_
          rintro e w2 ⟨pv, rfl, hO, hb2⟩
          obtain ⟨pA, pc, rfl, hpc⟩ := hO.slice
          have HS2 := Lib.hid (HI.out.call hb2)
          have HPR := Lib.hid hO.rds.2
          have Hpl : Hid ((pxl W P xs q v).length = P) := Lib.hid (pxl_len _ _ _ _ _)
          clear HI hO hb2 a0 a1 a2 a3 al
          go_wp2_with (at_builtin; refine wpList_app rfl (.tmp 36) (.tmp 40) rfl (b + 1) _ _ rfl HS2.out.O pA _ _ _ _ rfl rfl HPR.out (by have := Hpl.out; omega) HS2.out.ls ?_; intro v3 w3 hO3 hG3)
          have HS3 := Lib.hid (HS2.out.app hO3 hG3)
          rw [HSS.out] at HS3
          clear hO3 hG3 HS2 HPR HSS
          have Hq2 : Hid (q + dx = fx + dx * (C + 1)) := Lib.hid (by rw [Nat.mul_succ, Hq.out]; omega)
          go_wp2
          go_roundw
          case rel => exact ⟨C + 1, q + dx, by omega, by go_num, Hq2, by omega, HS3⟩
          case measure => simp [intOf]; omega
        · have hCN : C = N := by
            rcases Nat.lt_or_ge C N with h | h
            · have := HN1.out C h; have := Hq.out; omega
            · omega
          have HN : Hid (PdSt w wx b (b + 1) (imC W H P (.slice A xs.length c)) A xs u5 (F ((R + 1) * N))) := Lib.hid (by rw [Nat.succ_mul]; rw [hCN] at HI; exact HI.out)
          have Hv2 : Hid (v + dy = fy + dy * (R + 1)) := Lib.hid (by rw [Nat.mul_succ, Hv.out]; omega)
          clear HI
          go_wp2
          go_roundw
          case rel => exact ⟨R + 1, v + dy, by omega, by go_num, Hv2, by omega, HN⟩
          case measure => simp [intOf]; omega
    · have hRM : R = M := by
        rcases Nat.lt_or_ge R M with h | h
        · have := HM1.out R h; have := Hv.out; omega
        · omega
      have HN : Hid (PdSt w wy b (b + 1) (imC W H P (.slice A xs.length c)) A xs u5 (F (N * M))) := Lib.hid (by rw [hRM, Nat.mul_comm] at HI; exact HI.out)
      clear HI
      go_wp2
      exact bodyPost_ret (v := u5) (by simp [results, Tryd.results40, go_sem]) rfl ⟨u5, rfl, HN.out.O.base_le (by have := HBB.out; omega), HN.out.B⟩
set_option maxHeartbeats 16000000 in
theorem s_PassData (W H P p : Int) (A : Option Addr) (c : Nat) (xs : List Int) (w : World) (hx : Rds .i64 w w.heap.size A xs) (hl : xs.length ≤ 2000000) (hlc : xs.length ≤ c) :
    Calls Tryd.prog 11 #[.agg #[.int .i64 W, .int .i64 H, .int .i64 P, .slice A xs.length c], .int .i64 p] w (Made (cond (pdB W H P xs p) (pdV W.toNat P.toNat xs H.toNat p.toNat) []) w) := by
  obtain ⟨u1, hu⟩ : ∃ u, u = w.alloc (.cells #[.int .i64 W, .int .i64 H, .int .i64 P, .slice A xs.length c] 25) := ⟨_, rfl⟩
  obtain ⟨b2, hb2⟩ : ∃ b, b = w.heap.size := ⟨_, rfl⟩
  have HX1 : Hid (Bx u1 b2 25 (imC W H P (.slice A xs.length c))) := Lib.hid (by rw [hu, hb2]; exact Bx.new w _ _)
  have HB1 : Hid (Below w.heap.size w u1) := Lib.hid (by rw [hu]; exact (Below.refl _ _).alloc (Nat.le_refl _) _)
  have HR1 : Hid (Rds .i64 u1 u1.heap.size A xs) := Lib.hid (by rw [hu]; exact (hx.alloc (Nat.le_refl _) _).more (by simp))
  have HU := Lib.hid hu
  have HB2 := Lib.hid hb2
  clear hu hb2 hx
  obtain ⟨m0, m1, m2, m3⟩ := HX1.out.im
  have ml := HX1.out.lt
  go_enter Tryd.func11, Tryd.ntmps11
  go_wp2_with fail
  rw [← HU.out]
  (try rw [← HB2.out])
  refine (sVimg_any W H P A c xs u1 HR1.out hl).mono ?_
  rintro e u2 ⟨rfl, hb⟩
  have HX2 := Lib.hid (HX1.out.below hb)
  have HBl2 := Lib.hid (HB1.out.trans (hb.mono HB1.out.size))
  have HR2 := Lib.hid ((HR1.out.below hb).more hb.size)
  clear hb m0 m1 m2 m3 ml HX1 HB1 HR1 HU
  obtain ⟨m0, m1, m2, m3⟩ := HX2.out.im
  have ml := HX2.out.lt
  cases hv : vim W H P xs
  · have HE : Hid (pdB W H P xs p = false) := Lib.hid (by unfold pdB; rw [hv]; rfl)
    clear m0 m1 m2 m3 ml
    go_wp2
    exact bodyPost_ret (v := .slice none 0 0) (by simp [results, Tryd.results11, go_sem]) rfl (by rw [HE.out]; exact ⟨_, rfl, World.ownsRow_nil _ _ _ _, HBl2.out⟩)
  · go_wp2_with fail
    refine (sIn_any p 0 6 u2).mono ?_
    rintro e u3 ⟨rfl, rfl⟩
    cases hq : decide (0 ≤ p ∧ p ≤ 6)
    · have HE : Hid (pdB W H P xs p = false) := Lib.hid (by unfold pdB; rw [hv, hq]; rfl)
      clear m0 m1 m2 m3 ml
      go_wp2
      exact bodyPost_ret (v := .slice none 0 0) (by simp [results, Tryd.results11, go_sem]) rfl (by rw [HE.out]; exact ⟨_, rfl, World.ownsRow_nil _ _ _ _, HBl2.out⟩)
    · have HE : Hid (pdB W H P xs p = true) := Lib.hid (by unfold pdB; rw [hv, hq]; rfl)
      have hp' := of_decide_eq_true hq
      obtain ⟨p, rfl⟩ := Int.eq_ofNat_of_zero_le hp'.1
      have hp6 : p ≤ 6 := by omega
      obtain ⟨W, H, P, rfl, rfl, rfl, hW1, hW, hH1, hH, hP1, hP, hll, hby⟩ := vim_nat hv
      have HL := Lib.hid hll
      clear hby hll hp' hv
      go_wp2_with fail
      refine (s_passData W H P p hW1 hW hH1 hH hP1 hP hp6 A c xs HL.out hlc u2 HR2.out).mono ?_
      rintro e u3 ⟨v, rfl, hO, hb⟩
      have HF : Hid (Made (cond (pdB W H P xs p) (pdV W P xs H p) []) w (.returned v) u3) := Lib.hid (by rw [HE.out]; exact ⟨v, rfl, hO.base_le HBl2.out.size, HBl2.out.trans (hb.mono HBl2.out.size)⟩)
      clear hO hb m0 m1 m2 m3 ml
      go_wp2
      exact bodyPost_ret (v := v) (by simp [results, Tryd.results11, go_sem]) rfl (by simpa using HF.out)
end Go.Proofs.YtlkacohbfgcokaaDoor
