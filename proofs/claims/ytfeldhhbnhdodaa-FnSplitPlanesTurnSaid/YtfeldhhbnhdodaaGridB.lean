/- Contract of buildGrid over colors: whatever the function tells, the grid has it. -/
import Derived.Test.YtfeldhhbnhdodaaGridA
namespace Go.Proofs.Ytfeldhhbnhdodaa
open Go.RowKit Go.Shelf
set_option linter.unusedSimpArgs false
set_option linter.unusedVariables false

/-- A grid of colors, made by the call. -/
def GridC (W H : Nat) (F : Nat → Nat → Nat → Int) (w : World) (e : Ending) (w' : World) : Prop :=
  ∃ v, e = .returned (.agg #[.int .i64 (W : Int), .int .i64 (H : Int), v]) ∧ OwnC w' w.heap.size v (W * H) (img W H 4 F) ∧ Below w.heap.size w w'
theorem OwnC.alloc {w : World} {base : Nat} {v : Value} {n : Nat} {xs : List Int} (h : OwnC w base v n xs) (o : Obj) : OwnC (w.alloc o) base v n xs := World.ownsRow.alloc h o
theorem OwnC.slice {w : World} {base : Nat} {v : Value} {n : Nat} {xs : List Int} (h : OwnC w base v n xs) : ∃ A c, v = .slice A n c ∧ n ≤ c := by
  rcases h.2 with ⟨rfl, rfl⟩ | ⟨g, cap, cur, rfl, _, _, hnc, _⟩
  · exact ⟨none, 0, rfl, Nat.le_refl _⟩
  · exact ⟨_, cap, rfl, hnc⟩
theorem OwnC.ge {w : World} {base : Nat} {v : Value} {n : Nat} {xs : List Int} (h : OwnC w base v n xs) : ∀ k, v.ownBlock = some k → base ≤ k := fun k hk => (World.ownsRow.lt h k hk).1
theorem box_four (w : World) (c : Nat → Int) : ∀ j, j < 4 → (w.alloc (.cells #[.int .i64 (c 0), .int .i64 (c 1), .int .i64 (c 2), .int .i64 (c 3)] 66)).cell? ⟨w.heap.size, j, none⟩ = some (.int .i64 ([c 0, c 1, c 2, c 3].getD j 0)) := by
  intro j hj
  rw [cell_of_row _ _ _ _ _ _ (heap_alloc_new w _)]
  match j, hj with
  | 0, _ => rfl
  | 1, _ => rfl
  | 2, _ => rfl
  | 3, _ => rfl
theorem OwnC.base_le {w : World} {base base' : Nat} {v : Value} {n : Nat} {xs : List Int} (h : OwnC w base v n xs) (hb : base' ≤ base) : OwnC w base' v n xs := by
  refine ⟨h.1, ?_⟩
  rcases h.2 with h2 | ⟨g', cap, cur, hv, hbg, r⟩
  · exact .inl h2
  · exact .inr ⟨g', cap, cur, hv, by omega, r⟩
theorem OwnC.setB {w : World} {base : Nat} {v : Value} {n : Nat} {xs : List Int} (h : OwnC w base v n xs) {p : Addr} (hp : p.block < base) (u : Value) : OwnC (w.setCell p u) base v n xs := by
  refine ⟨h.1, ?_⟩
  rcases h.2 with h2 | ⟨g', cap, cur, hv, hbg, hg, r⟩
  · exact .inl h2
  · exact .inr ⟨g', cap, cur, hv, hbg, (Below.heap_setCell w p u g' (by omega)).trans hg, r⟩
set_option maxHeartbeats 8000000 in
theorem build_any (W H : Nat) (hW : W ≤ 16) (hH : H ≤ 16) (g : Nat) (cs : Array Value) (F : Nat → Nat → Nat → Int) (w : World)
    (eg : ∀ args w, (callFunc g args).run Try.prog w = .ok (.enter g args) w)
    (hc : ∀ (x y : Nat) (w' : World), x < W → y < H → Below w.heap.size w w' → Calls Try.prog g (#[.int .i64 (x : Int), .int .i64 (y : Int)] ++ cs) w' fun e w'' => e = .returned (colV (F x y)) ∧ Below w'.heap.size w' w'') :
    Calls Try.prog 58 #[.int .i64 (W : Int), .int .i64 (H : Int), .func (.func g) #[] cs] w (GridC W H F w) := by
  have HC := Lib.hid hc
  have hWH : W * H ≤ 256 := by have := Nat.mul_le_mul hW hH; omega
  have hWHi : (W : Int) * (H : Int) = ((W * H : Nat) : Int) := by simp
  obtain ⟨i, hi, hz, hsz, hb⟩ := info_parts info_color
  have Hi := Lib.hid hi
  have Hz := Lib.hid hz
  have Hs := Lib.hid hsz
  have Hb := Lib.hid hb
  have hnn : 0 ≤ (W : Int) * (H : Int) := by rw [hWHi]; omega
  have hnn2 : (W : Int) * (H : Int) ≤ 256 := by rw [hWHi]; omega
  have HWH := Lib.hid hWHi
  clear hc hi hz hsz hb hWHi
  go_enter Try.func58, Try.ntmps58
  go_wp2_with (refine wpList_make_own _ rfl (.const (.int .i64 0)) (.tmp 12) 60 rfl (w.heap.size + 1) 66 i _ 4 Try.underlying60 Hi.out Hz.out Hs.out .i64 .i64 _ (W * H) rfl rfl HWH.out (by rw [Hb.out]; omega) (by unfold maxLen; omega) (by simp) ?_; intro w1 hO1 hG1)
  have H1 : Hid (OwnC w1 (w.heap.size + 1) (.slice (some ⟨w.heap.size + 1, 0, none⟩) 0 (W * H)) 0 []) := Lib.hid (by unfold OwnC; simpa using hO1)
  have HX1 : Hid (Bx w1 w.heap.size 62 #[.int .i64 0, .int .i64 0, .slice none 0 0]) := Lib.hid ((hG1.block _ (by simp) (by simp)).trans (heap_alloc_new w _))
  have HB1 : Hid (Below w.heap.size w w1) := Lib.hid (((Below.refl w.heap.size w).alloc (Nat.le_refl _) _).grown hG1 (by simp) (by simp))
  clear hO1 hG1 hnn hnn2 HWH Hi Hz Hs Hb
  go_loopw [7, 15] (fun v i wr => ∃ y : Nat, y ≤ H ∧ i = .int .i64 y ∧ Hid (OwnC wr (w.heap.size + 1) v (y * W) (imgk W 4 F (y * W)) ∧ Bx wr w.heap.size 62 #[.int .i64 0, .int .i64 0, .slice none 0 0] ∧ Below w.heap.size w wr)) (fun _ i _ => H - (intOf i).toNat)
  case atStart => exact ⟨0, Nat.zero_le _, rfl, Lib.hid ⟨by rw [Nat.zero_mul, imgk_zero]; exact H1.out, HX1.out, HB1.out⟩⟩
  case round =>
    obtain ⟨y, hy, rfl, hI⟩ := hrel
    by_cases hylt : y < H
    · go_wp2
      go_loopw [7, 19] (fun v i wr => ∃ x : Nat, x ≤ W ∧ i = .int .i64 x ∧ Hid (OwnC wr (w.heap.size + 1) v (y * W + x) (imgk W 4 F (y * W + x)) ∧ Bx wr w.heap.size 62 #[.int .i64 0, .int .i64 0, .slice none 0 0] ∧ Below w.heap.size w wr)) (fun _ i _ => W - (intOf i).toNat)
      case atStart => exact ⟨0, Nat.zero_le _, rfl, hI⟩
      case round =>
        obtain ⟨x, hx, rfl, hJ⟩ := hrel
        by_cases hxlt : x < W
        · obtain ⟨hO, hX, hB⟩ := hJ.out
          obtain ⟨A1, c1, rfl, _⟩ := hO.slice
          go_wp2_with fail
          refine (HC.out x y wr hxlt hylt hB).mono ?_
          rintro e w2 ⟨rfl, hB2⟩
          simp only [colV]
          have hsz := hB.size
          have hsz2 := hB2.size
          have hlt := hX.lt
          have HO2 : Hid (OwnC (w2.alloc (.cells #[.int .i64 (F x y 0), .int .i64 (F x y 1), .int .i64 (F x y 2), .int .i64 (F x y 3)] 66)) (w.heap.size + 1) (.slice A1 (y * W + x) c1) (y * W + x) (imgk W 4 F (y * W + x))) := Lib.hid ((hO.below hB2 (Nat.le_refl _)).alloc _)
          have HX2 : Hid (Bx (w2.alloc (.cells #[.int .i64 (F x y 0), .int .i64 (F x y 1), .int .i64 (F x y 2), .int .i64 (F x y 3)] 66)) w.heap.size 62 #[.int .i64 0, .int .i64 0, .slice none 0 0]) := Lib.hid ((hX.below hB2).alloc _)
          have HB2 : Hid (Below w.heap.size w (w2.alloc (.cells #[.int .i64 (F x y 0), .int .i64 (F x y 1), .int .i64 (F x y 2), .int .i64 (F x y 3)] 66))) := Lib.hid ((hB.trans (hB2.mono hsz)).alloc (by omega) _)
          have HQ := Lib.hid (box_four w2 (F x y))
          have hk : y * W + x ≤ 1000000 := by have : y * W ≤ H * W := Nat.mul_le_mul_right W hy; rw [Nat.mul_comm H W] at this; omega
          clear hO hX hB hB2 hJ HC
          go_wp2_with (at_builtin; refine wpList_appC rfl (.tmp 22) (.tmp 27) rfl (w.heap.size + 1) (.slice A1 (y * W + x) c1) (y * W + x) (imgk W 4 F (y * W + x)) rfl HO2.out w2.heap.size 1 [F x y 0, F x y 1, F x y 2, F x y 3] rfl rfl HQ.out hk (by simp; omega) ?_; intro v3 w3 hO3 hG3)
          have HN : Hid (OwnC w3 (w.heap.size + 1) v3 (y * W + (x + 1)) (imgk W 4 F (y * W + (x + 1))) ∧ Bx w3 w.heap.size 62 #[.int .i64 0, .int .i64 0, .slice none 0 0] ∧ Below w.heap.size w w3) := Lib.hid ⟨by rw [← Nat.add_assoc, imgk_step F hxlt, range_four]; exact hO3,
            (hG3.block _ (by simp; omega) (fun e => by have := HO2.out.ge _ e.symm; omega)).trans HX2.out,
            HB2.out.grown hG3 (by simp; omega) (fun k hk' => by have := HO2.out.ge k hk'; omega)⟩
          clear hO3 hG3 HO2 HX2 HB2 HQ hk hsz hsz2 hlt
          go_roundw
          case rel => exact ⟨x + 1, by omega, by go_num, HN⟩
          case measure => simp [intOf]; omega
        · have HJ : Hid (OwnC wr (w.heap.size + 1) _ ((y + 1) * W) (imgk W 4 F ((y + 1) * W)) ∧ Bx wr w.heap.size 62 #[.int .i64 0, .int .i64 0, .slice none 0 0] ∧ Below w.heap.size w wr) := Lib.hid (by rw [imgk_row, Nat.add_mul, Nat.one_mul]; have := hJ.out; rwa [show x = W by omega] at this)
          clear hJ
          go_wp2
          go_roundw
          case rel => exact ⟨y + 1, by omega, by go_num, HJ⟩
          case measure => simp [intOf]; omega
    · have hI2 := hI.out
      rw [show y = H by omega] at hI2
      obtain ⟨hO, hX, hB⟩ := hI2
      obtain ⟨A1, c1, rfl, _⟩ := hO.slice
      have r0 : wr.cell? ⟨w.heap.size, 0, none⟩ = some (.int .i64 0) := cell_of_row wr _ 0 _ _ _ hX
      have r1 : wr.cell? ⟨w.heap.size, 1, none⟩ = some (.int .i64 0) := cell_of_row wr _ 1 _ _ _ hX
      have r2 : wr.cell? ⟨w.heap.size, 2, none⟩ = some (.slice none 0 0) := cell_of_row wr _ 2 _ _ _ hX
      have f0 := frozen_of_row wr w.heap.size 0 _ _ hX
      have f1 := frozen_of_row wr w.heap.size 1 _ _ hX
      have f2 := frozen_of_row wr w.heap.size 2 _ _ hX
      have HO := Lib.hid hO
      have HB := Lib.hid hB
      have HE : Hid (∀ u0 u1 u2 : Value, OwnC (((wr.setCell ⟨w.heap.size, 0, none⟩ u0).setCell ⟨w.heap.size, 1, none⟩ u1).setCell ⟨w.heap.size, 2, none⟩ u2) w.heap.size (.slice A1 (H * W) c1) (W * H) (img W H 4 F)) := Lib.hid fun u0 u1 u2 => by
        rw [Nat.mul_comm W H, ← imgk_all, Nat.mul_comm W H]
        exact ((hO.setB (by simp) u0).setB (by simp) u1).setB (by simp) u2 |>.base_le (by omega)
      clear hO hX hB hI
      go_wp2
      exact bodyPost_ret (v := .agg #[.int .i64 (W : Int), .int .i64 (H : Int), .slice A1 (H * W) c1]) (by simp [results, Try.results58, go_sem, r0, r1, r2]) rfl ⟨_, rfl, HE.out _ _ _, by (repeat' (first | (exact HB.out) | (refine Below.setCell ?_ (by first | omega | (simp; done) | (simp; omega)) _) | (refine below_dn ?_ _) | (refine Below.drew ?_) | (refine Below.alloc ?_ (by first | omega | (simp; done) | (simp; omega)) _) | (exact Below.refl _ _)))⟩
theorem pxl_slice {W H P : Nat} {xs : List Int} {x y : Nat} (hl : xs.length = W * H * P) (hx : x < W) (hy : y < H) : (y * W + x) * P + P ≤ xs.length := by
  rw [hl]
  have h1 : y * W + x + 1 ≤ W * H := by
    have : (y + 1) * W ≤ H * W := Nat.mul_le_mul_right W hy
    rw [Nat.add_mul, Nat.one_mul] at this
    rw [Nat.mul_comm W H]
    omega
  have h2 : (y * W + x + 1) * P ≤ W * H * P := Nat.mul_le_mul_right P h1
  rwa [Nat.add_mul, Nat.one_mul] at h2
theorem colorOf_at (A : Option Addr) (c n : Nat) (q : List Int) (hn : n = q.length) (w : World) (h : Rds .i64 w w.heap.size A q) (hl : n ≤ 4) :
    Calls Try.prog 60 #[.slice A n c] w fun e w' => e = .returned (colV (fun p => q.getD p 0)) ∧ Below w.heap.size w w' := by
  subst hn
  exact colorOf_any A c q w h hl
/-- The number of a plane, 0 for planes that are not there. -/
def pxc (W P : Nat) (xs : List Int) (x y p : Nat) : Int := (pxl W P xs x y).getD p 0
theorem Rds.part {k : IntKind} {w : World} {B b off : Nat} {xs : List Int} (hb : b < B) (hc : ∀ j, j < xs.length → w.cell? ⟨b, off + j, none⟩ = some (.int k (xs.getD j 0))) {W P x y : Nat} (h : (y * W + x) * P + P ≤ xs.length) : Rds k w B (some ⟨b, off + (y * W + x) * P, none⟩) (pxl W P xs x y) := by
  refine .inr ⟨b, off + (y * W + x) * P, rfl, hb, fun j hj => ?_⟩
  rw [pxl_len] at hj
  rw [Nat.add_assoc, hc _ (by omega), pxl_get _ _ _ _ _ _ hj]
  rfl
set_option maxRecDepth 20000 in
set_option maxHeartbeats 8000000 in
theorem gridOf1_any (W H P : Nat) (hW : W ≤ 16) (hH : H ≤ 16) (hP : 1 ≤ P) (hP4 : P ≤ 4) (b off c : Nat) (xs : List Int) (hl : xs.length = W * H * P) (hlc : xs.length ≤ c) (m : Nat) (x y : Nat) (hx : x < W) (hy : y < H) (w : World)
    (hm : Bx w m 25 (imC W H P (.slice (some ⟨b, off, none⟩) xs.length c))) (hr : b < w.heap.size) (hc : ∀ j, j < xs.length → w.cell? ⟨b, off + j, none⟩ = some (.int .i64 (xs.getD j 0))) :
    Calls Try.prog 59 #[.int .i64 (x : Int), .int .i64 (y : Int), .pointer (some ⟨m, 0, none⟩)] w fun e w' => e = .returned (colV (pxc W P xs x y)) ∧ Below w.heap.size w w' := by
  have hs := pxl_slice hl hx hy
  have hlt := hm.lt
  obtain ⟨m0, m1, m2, m3⟩ := hm.im
  have hyW : y * W ≤ 256 := by have := Nat.mul_le_mul (Nat.le_of_lt hy) (Nat.le_refl W); have := Nat.mul_le_mul hH hW; omega
  have hxs : xs.length ≤ 1024 := by rw [hl]; have h1 := Nat.mul_le_mul hW hH; have := Nat.mul_le_mul h1 hP4; omega
  have i1 : 0 ≤ (y : Int) * (W : Int) ∧ (y : Int) * (W : Int) ≤ 256 := by rw [← Int.natCast_mul]; omega
  have i2 : 0 ≤ ((y : Int) * (W : Int) + (x : Int)) * (P : Int) ∧ ((y : Int) * (W : Int) + (x : Int)) * (P : Int) + (P : Int) ≤ (xs.length : Int) := by
    rw [← Int.natCast_mul, ← Int.natCast_add, ← Int.natCast_mul]; omega
  obtain ⟨i1, i1'⟩ := i1
  obtain ⟨i2, i2'⟩ := i2
  have Hc := Lib.hid hc
  clear hc hm hl
  have HR := Lib.hid ((Rds.part (w := w) (B := w.heap.size) hr Hc.out hs).alloc (Nat.le_refl _) (.cells #[.int .i64 0, .int .i64 0, .int .i64 0, .int .i64 0] 66))
  go_enter Try.func59, Try.ntmps59
  go_wp2_with fail
  refine (colorOf_at _ _ _ (pxl W P xs x y) (pxl_len W P xs x y).symm _ (HR.out.more (by simp)) hP4).mono ?_
  rintro e w2 ⟨rfl, hB2⟩
  have hr0 : w2.heap[w.heap.size]? = some (.cells #[.int .i64 0, .int .i64 0, .int .i64 0, .int .i64 0] 66 (0, 0)) := (hB2.block _ (by simp)).trans (heap_alloc_new w _)
  have r0 := cell_of_row w2 w.heap.size 0 _ _ _ hr0
  have r1 := cell_of_row w2 w.heap.size 1 _ _ _ hr0
  have r2 := cell_of_row w2 w.heap.size 2 _ _ _ hr0
  have r3 := cell_of_row w2 w.heap.size 3 _ _ _ hr0
  have f0 := frozen_of_row w2 w.heap.size 0 _ _ hr0
  have f1 := frozen_of_row w2 w.heap.size 1 _ _ hr0
  have f2 := frozen_of_row w2 w.heap.size 2 _ _ hr0
  have f3 := frozen_of_row w2 w.heap.size 3 _ _ hr0
  have HW : Hid (Below w.heap.size w w2) := Lib.hid (((Below.refl w.heap.size w).alloc (Nat.le_refl _) _).trans (hB2.mono (by simp)))
  clear hr0 hB2
  simp only [colV]
  go_wp2
  exact bodyPost_ret (v := colV (pxc W P xs x y)) (by simp [results, Try.results59, go_sem, r0, r1, r2, r3, colV, pxc]) rfl ⟨rfl, by (repeat' (first | (exact HW.out) | (refine Below.setCell ?_ (by first | omega | (simp; done) | (simp; omega)) _) | (refine below_dn ?_ _) | (refine Below.drew ?_) | (refine Below.alloc ?_ (by first | omega | (simp; done) | (simp; omega)) _) | (exact Below.refl _ _)))⟩
/-- The pixels of an image. -/
theorem img_pxc {W H P : Nat} {xs : List Int} {x y p : Nat} (hp : p < P) : pxc W P xs x y p = px W P xs x y p := pxl_get _ _ _ _ _ _ hp
set_option maxHeartbeats 8000000 in
theorem gridOf_any (W H P : Nat) (hW : W ≤ 16) (hH : H ≤ 16) (hP : 1 ≤ P) (hP4 : P ≤ 4) (hW1 : 1 ≤ W) (hH1 : 1 ≤ H) (A : Option Addr) (c : Nat) (xs : List Int) (hl : xs.length = W * H * P) (hlc : xs.length ≤ c) (w : World) (hr : Rds .i64 w w.heap.size A xs) :
    Calls Try.prog 40 #[.agg #[.int .i64 (W : Int), .int .i64 (H : Int), .int .i64 (P : Int), .slice A xs.length c]] w (GridC W H (pxc W P xs) w) := by
  have hpos : 0 < xs.length := by rw [hl]; exact Nat.mul_pos (Nat.mul_pos hW1 hH1) hP
  obtain ⟨b, off, rfl, hb, hc⟩ := hr.cells_ hpos
  have Hc := Lib.hid hc
  have HL := Lib.hid hl
  have Eg := Lib.hid (enters_of Try.func59 (by kernel_rfl) rfl : Enters Try.prog 59)
  clear hc hr hl hpos
  have HM : Hid (Bx ((w.alloc (.cells (imC W H P (.slice (some ⟨b, off, none⟩) xs.length c)) 25)).alloc (.cells #[.int .i64 0, .int .i64 0, .slice none 0 0] 62)) w.heap.size 25 (imC W H P (.slice (some ⟨b, off, none⟩) xs.length c))) := Lib.hid ((Bx.new w _ _).alloc _)
  have HX : Hid (Bx ((w.alloc (.cells (imC W H P (.slice (some ⟨b, off, none⟩) xs.length c)) 25)).alloc (.cells #[.int .i64 0, .int .i64 0, .slice none 0 0] 62)) (w.heap.size + 1) 62 #[.int .i64 0, .int .i64 0, .slice none 0 0]) := Lib.hid (by have := Bx.new (w.alloc (.cells (imC W H P (.slice (some ⟨b, off, none⟩) xs.length c)) 25)) 62 #[.int .i64 0, .int .i64 0, .slice none 0 0]; simpa using this)
  have HBW : Hid (Below w.heap.size w ((w.alloc (.cells (imC W H P (.slice (some ⟨b, off, none⟩) xs.length c)) 25)).alloc (.cells #[.int .i64 0, .int .i64 0, .slice none 0 0] 62))) := Lib.hid (((Below.refl w.heap.size w).alloc (Nat.le_refl _) _).alloc (by simp) _)
  have HSZ : Hid (((w.alloc (.cells (imC W H P (.slice (some ⟨b, off, none⟩) xs.length c)) 25)).alloc (.cells #[.int .i64 0, .int .i64 0, .slice none 0 0] 62)).heap.size = w.heap.size + 2) := Lib.hid (by simp)
  go_enter Try.func40, Try.ntmps40
  go_wp2_with fail
  rw [show #[Value.int .i64 (W : Int), Value.int .i64 (H : Int), Value.int .i64 (P : Int), Value.slice (some ⟨b, off, none⟩) xs.length c] = imC W H P (.slice (some ⟨b, off, none⟩) xs.length c) from rfl]
  generalize (w.alloc (.cells (imC W H P (.slice (some ⟨b, off, none⟩) xs.length c)) 25)).alloc (.cells #[.int .i64 0, .int .i64 0, .slice none 0 0] 62) = w1 at *
  refine (build_any W H hW hH 59 #[.pointer (some ⟨w.heap.size, 0, none⟩)] (pxc W P xs) w1 Eg.out (fun x y w' hx hy hbel => gridOf1_any W H P hW hH hP hP4 b off c xs HL.out hlc w.heap.size x y hx hy w' (HM.out.below hbel) (by have := hbel.size; have := HSZ.out; omega) (fun j hj => ?_))).mono ?_
  · rw [hbel.cell (by have := HSZ.out; show b < _; omega), HBW.out.cell (by show b < _; exact hb)]
    exact Hc.out j hj
  rintro e w2 ⟨v2, rfl, hO2, hB2⟩
  obtain ⟨A2, c2, rfl, _⟩ := hO2.slice
  have hX2 := HX.out.below hB2
  have r0 : w2.cell? ⟨w.heap.size + 1, 0, none⟩ = some (.int .i64 0) := cell_of_row w2 _ 0 _ _ _ hX2
  have r1 : w2.cell? ⟨w.heap.size + 1, 1, none⟩ = some (.int .i64 0) := cell_of_row w2 _ 1 _ _ _ hX2
  have r2 : w2.cell? ⟨w.heap.size + 1, 2, none⟩ = some (.slice none 0 0) := cell_of_row w2 _ 2 _ _ _ hX2
  have f0 := frozen_of_row w2 (w.heap.size + 1) 0 _ _ hX2
  have f1 := frozen_of_row w2 (w.heap.size + 1) 1 _ _ hX2
  have f2 := frozen_of_row w2 (w.heap.size + 1) 2 _ _ hX2
  have HB : Hid (Below w.heap.size w w2) := Lib.hid (HBW.out.trans (hB2.mono (by have := HSZ.out; omega)))
  have HE : Hid (∀ u0 u1 u2 : Value, OwnC (((w2.setCell ⟨w.heap.size + 1, 0, none⟩ u0).setCell ⟨w.heap.size + 1, 1, none⟩ u1).setCell ⟨w.heap.size + 1, 2, none⟩ u2) w.heap.size (.slice A2 (W * H) c2) (W * H) (img W H 4 (pxc W P xs))) := Lib.hid fun u0 u1 u2 =>
    ((hO2.setB (by have := HSZ.out; show _ < _; simp; omega) u0).setB (by have := HSZ.out; show _ < _; simp; omega) u1).setB (by have := HSZ.out; show _ < _; simp; omega) u2 |>.base_le (by have := HSZ.out; omega)
  clear hX2 hO2 hB2 HX HM HBW HSZ Hc HL Eg
  go_wp2
  exact bodyPost_ret (v := .agg #[.int .i64 (W : Int), .int .i64 (H : Int), .slice A2 (W * H) c2]) (by simp [results, Try.results40, go_sem, r0, r1, r2]) rfl ⟨_, rfl, HE.out _ _ _, by (repeat' (first | (exact HB.out) | (refine Below.setCell ?_ (by first | omega | (simp; done) | (simp; omega)) _) | (refine below_dn ?_ _) | (refine Below.drew ?_) | (refine Below.alloc ?_ (by first | omega | (simp; done) | (simp; omega)) _) | (exact Below.refl _ _)))⟩
end Go.Proofs.Ytfeldhhbnhdodaa
