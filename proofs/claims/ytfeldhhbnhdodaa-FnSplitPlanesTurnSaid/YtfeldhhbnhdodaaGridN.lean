/- Grids of numbers: building, planes, joining planes. -/
import Derived.Test.YtfeldhhbnhdodaaGA
import Derived.Test.YtfeldhhbnhdodaaGridF
import Derived.Deep.RegionHeld3
namespace Go.Proofs.Ytfeldhhbnhdodaa
open Go.RowKit Go.Shelf
set_option linter.unusedSimpArgs false
set_option linter.unusedVariables false
set_option maxRecDepth 20000

def GridI (W H : Nat) (f : Nat → Nat → Int) (w : World) (e : Ending) (w' : World) : Prop :=
  ∃ v, e = .returned (.agg #[.int .i64 (W : Int), .int .i64 (H : Int), v]) ∧ Own w' w.heap.size v (img W H 1 (fun x y _ => f x y)) ∧ Below w.heap.size w w'
theorem imgk_one {W x y : Nat} (f : Nat → Nat → Int) (hx : x < W) : imgk W 1 (fun x y _ => f x y) (y * W + (x + 1)) = imgk W 1 (fun x y _ => f x y) (y * W + x) ++ [f x y] := by
  rw [← Nat.add_assoc, imgk_step _ hx]; rfl
set_option maxHeartbeats 8000000 in
theorem buildN_any (W H : Nat) (hW : W ≤ 16) (hH : H ≤ 16) (g : Nat) (cs : Array Value) (f : Nat → Nat → Int) (w : World)
    (eg : ∀ args w, (callFunc g args).run Try.prog w = .ok (.enter g args) w)
    (hc : ∀ (x y : Nat) (w' : World), x < W → y < H → Below w.heap.size w w' → Calls Try.prog g (#[.int .i64 (x : Int), .int .i64 (y : Int)] ++ cs) w' fun e w'' => e = .returned (.int .i64 (f x y)) ∧ Below w'.heap.size w' w'') :
    Calls Try.prog 53 #[.int .i64 (W : Int), .int .i64 (H : Int), .func (.func g) #[] cs] w (GridI W H f w) := by
  have HC := Lib.hid hc
  have hWH : W * H ≤ 256 := by have := Nat.mul_le_mul hW hH; omega
  have hWHi : (W : Int) * (H : Int) = ((W * H : Nat) : Int) := by simp
  obtain ⟨i, hi, hz, hsz, hb⟩ := info_parts info_int
  have Hi := Lib.hid hi
  have Hz := Lib.hid hz
  have Hs := Lib.hid hsz
  have Hb := Lib.hid hb
  have hnn : 0 ≤ (W : Int) * (H : Int) := by rw [hWHi]; omega
  have hnn2 : (W : Int) * (H : Int) ≤ 256 := by rw [hWHi]; omega
  have HWH := Lib.hid hWHi
  have S0 := (GS.start w).box 52 #[.int .i64 0, .int .i64 0, .slice none 0 0]
  clear hc hi hz hsz hb hWHi
  go_enter Try.func53, Try.ntmps53
  go_wp2_with (refine wpList_make_own _ rfl (.const (.int .i64 0)) (.tmp 12) 23 rfl (w.heap.size + 1) 3 i _ 1 Try.underlying23 Hi.out Hz.out Hs.out .i64 .i64 _ (W * H) rfl rfl HWH.out (by rw [Hb.out]; omega) (by unfold maxLen; omega) (by simp) ?_; intro w1 hO1 hG1)
  have HI0 : Hid (GA w w1 (w.heap.size + 1) (.slice (some ⟨w.heap.size + 1, 0, none⟩) 0 (W * H)) [] [] [⟨w.heap.size, 52, #[.int .i64 0, .int .i64 0, .slice none 0 0]⟩]) := Lib.hid (by
    have hs : (w.alloc (.cells #[.int .i64 0, .int .i64 0, .slice none 0 0] 52)).heap.size = w.heap.size + 1 := by simp
    have := GA.start (xs := []) S0 hG1 (by rw [hs]; unfold Own; simpa using hO1)
    rwa [hs] at this)
  clear hO1 hG1 hnn hnn2 HWH Hi Hz Hs Hb S0
  go_loopw [7, 15] (fun v i wr => ∃ y : Nat, y ≤ H ∧ i = .int .i64 y ∧ Hid (GA w wr (w.heap.size + 1) v (imgk W 1 (fun x y _ => f x y) (y * W)) [] [⟨w.heap.size, 52, #[.int .i64 0, .int .i64 0, .slice none 0 0]⟩])) (fun _ i _ => H - (intOf i).toNat)
  case atStart => exact ⟨0, Nat.zero_le _, rfl, by rw [Nat.zero_mul, imgk_zero]; exact HI0⟩
  case round =>
    clear HI0
    obtain ⟨y, hy, rfl, hI⟩ := hrel
    by_cases hylt : y < H
    · go_wp2
      go_loopw [7, 19] (fun v i wr => ∃ x : Nat, x ≤ W ∧ i = .int .i64 x ∧ Hid (GA w wr (w.heap.size + 1) v (imgk W 1 (fun x y _ => f x y) (y * W + x)) [] [⟨w.heap.size, 52, #[.int .i64 0, .int .i64 0, .slice none 0 0]⟩])) (fun _ i _ => W - (intOf i).toNat)
      case atStart => exact ⟨0, Nat.zero_le _, rfl, hI⟩
      case round =>
        clear hI
        obtain ⟨x, hx, rfl, hJ⟩ := hrel
        by_cases hxlt : x < W
        · obtain ⟨A1, c1, rfl, _⟩ := hJ.out.own.slice
          go_wp2_with fail
          refine (HC.out x y wr hxlt hylt (hJ.out.gs.below)).mono ?_
          rintro e w2 ⟨rfl, hB2⟩
          have HK := Lib.hid ((hJ.out.call hB2).alloc (.cells #[.int .i64 (f x y)] 3))
          have HQ := Lib.hid (rds_one w2 (f x y))
          have hk : (imgk W 1 (fun x y _ => f x y) (y * W + x)).length ≤ 1000000 := by rw [imgk_len]; have : y * W ≤ H * W := Nat.mul_le_mul_right W hy; rw [Nat.mul_comm H W] at this; omega
          have HBS := Lib.hid HK.out.bs
          clear hJ hB2
          go_wp2_with (at_builtin; refine wpList_app rfl (.tmp 22) (.tmp 27) rfl (w.heap.size + 1) _ _ rfl HK.out.own (some ⟨w2.heap.size, 0, none⟩) 1 1 _ [f x y] rfl rfl HQ.out (by simp; omega) HBS.out ?_; intro v3 w3 hO3 hG3)
          have HN : Hid (GA w w3 (w.heap.size + 1) v3 (imgk W 1 (fun x y _ => f x y) (y * W + (x + 1))) [] [⟨w.heap.size, 52, #[.int .i64 0, .int .i64 0, .slice none 0 0]⟩]) := Lib.hid (by rw [imgk_one f hxlt]; exact HK.out.app hO3 hG3)
          clear hO3 hG3 HK HQ hk HBS
          go_roundw
          case rel => exact ⟨x + 1, by omega, by go_num, HN⟩
          case measure => simp [intOf]; omega
        · have HN : Hid (GA w wr (w.heap.size + 1) _ (imgk W 1 (fun x y _ => f x y) ((y + 1) * W)) [] [⟨w.heap.size, 52, #[.int .i64 0, .int .i64 0, .slice none 0 0]⟩]) := Lib.hid (by rw [imgk_row]; have := hJ.out; rwa [show x = W by omega] at this)
          clear hJ
          go_wp2
          go_roundw
          case rel => exact ⟨y + 1, by omega, by go_num, HN⟩
          case measure => simp [intOf]; omega
    · have hG := hI.out.done
      rw [show y = H by omega, Nat.mul_comm H W, imgk_all] at hG
      obtain ⟨A1, c1, rfl, _⟩ := hG.o0.slice
      obtain ⟨r0, r1, r2⟩ := hG.b0_3
      have f0 := hG.f0 0
      have f1 := hG.f0 1
      have f2 := hG.f0 2
      have HE := Lib.hid (hG.e0_3 (.int .i64 (W : Int)) (.int .i64 (H : Int)) (.slice A1 (img W H 1 (fun x y _ => f x y)).length c1))
      clear hI hG
      go_wp2
      exact bodyPost_ret (v := .agg #[.int .i64 (W : Int), .int .i64 (H : Int), .slice A1 (img W H 1 (fun x y _ => f x y)).length c1]) (by simp [results, Try.results53, go_sem, r0, r1, r2]) rfl ⟨_, rfl, HE.out.2 _ (List.Mem.head _), HE.out.1⟩
theorem take_img {W H n : Nat} (f : Nat → Nat → Nat → Int) {k i : Nat} (hk : k < W * H) (hi : i < n) : (img W H n f).take (k * n + (i + 1)) = (img W H n f).take (k * n + i) ++ [f (k % W) (k / W) i] := by
  have hl : k * n + i < (img W H n f).length := by
    rw [img_len]
    have := Nat.mul_le_mul_right n (show k + 1 ≤ W * H from hk)
    rw [Nat.add_mul, Nat.one_mul] at this
    omega
  rw [← Nat.add_assoc, List.take_add_one, List.getElem?_eq_getElem hl]
  have := img_at f hk hi
  rw [List.getD_eq_getElem?_getD, List.getElem?_eq_getElem hl] at this
  simp only [Option.getD_some] at this
  rw [this]; rfl
set_option maxHeartbeats 16000000 in
theorem join_any (W H n : Nat) (hW1 : 1 ≤ W) (hW : W ≤ 16) (hH1 : 1 ≤ H) (hH : H ≤ 16) (hn1 : 1 ≤ n) (hn : n ≤ 4) (b off c : Nat) (f : Nat → Nat → Nat → Int) (As : Nat → Option Addr) (cs : Nat → Nat) (w : World) (hb : b < w.heap.size)
    (hcell : ∀ i, i < n → w.cell? ⟨b, off + i * 3, none⟩ = some (.int .i64 (W : Int)) ∧ w.cell? ⟨b, off + i * 3 + 1, none⟩ = some (.int .i64 (H : Int)) ∧ w.cell? ⟨b, off + i * 3 + 2, none⟩ = some (.slice (As i) (W * H) (cs i)))
    (hrow : ∀ i, i < n → Rds .i64 w w.heap.size (As i) (img W H 1 (fun x y _ => f x y i)) ∧ W * H ≤ cs i) :
    Calls Try.prog 30 #[.slice (some ⟨b, off, none⟩) n c] w (MadeI W H n (img W H n f) w) := by
  have HCl := Lib.hid hcell
  have HRw := Lib.hid hrow
  have hWH : W * H ≤ 256 := by have := Nat.mul_le_mul hW hH; omega
  have hWHn : W * H * n ≤ 1024 := by have := Nat.mul_le_mul hWH hn; omega
  have hWHi : (W : Int) * (H : Int) * (n : Int) = ((W * H * n : Nat) : Int) := by simp
  obtain ⟨i, hi, hz, hsz, hbb⟩ := info_parts info_int
  have Hi := Lib.hid hi
  have Hz := Lib.hid hz
  have Hs := Lib.hid hsz
  have Hb := Lib.hid hbb
  have hnn : 0 ≤ (W : Int) * (H : Int) * (n : Int) := by rw [hWHi]; omega
  have hnn2 : (W : Int) * (H : Int) * (n : Int) ≤ 1024 := by rw [hWHi]; omega
  have HWH := Lib.hid hWHi
  obtain ⟨c0, c1, c2⟩ := hcell 0 (by omega)
  rw [Nat.zero_mul, Nat.add_zero] at c0 c1 c2
  have S0 : GS w ((w.alloc (.cells #[.int .i64 0, .int .i64 0, .int .i64 0, .slice none 0 0] 25)).alloc (.cells #[.int .i64 (W : Int), .int .i64 (H : Int), .slice (As 0) (W * H) (cs 0)] 52)) [] [⟨w.heap.size + 1, 52, #[.int .i64 (W : Int), .int .i64 (H : Int), .slice (As 0) (W * H) (cs 0)]⟩, ⟨w.heap.size, 25, #[.int .i64 0, .int .i64 0, .int .i64 0, .slice none 0 0]⟩] :=
    GS.box' (GS.box' (GS.start w) _ _ w.heap.size (by simp)) _ _ (w.heap.size + 1) (by simp)
  have hs2 : ((w.alloc (.cells #[.int .i64 0, .int .i64 0, .int .i64 0, .slice none 0 0] 25)).alloc (.cells #[.int .i64 (W : Int), .int .i64 (H : Int), .slice (As 0) (W * H) (cs 0)] 52)).heap.size = w.heap.size + 2 := by simp
  have HS0 := Lib.hid S0
  have Hs2 := Lib.hid hs2
  clear hcell hrow hi hz hsz hbb hWHi S0 hs2
  go_enter Try.func30, Try.ntmps30
  go_wp2_with (refine wpList_make_own _ rfl (.const (.int .i64 0)) (.tmp 16) 23 rfl (w.heap.size + 2) 3 i _ 1 Try.underlying23 Hi.out Hz.out Hs.out .i64 .i64 _ (W * H * n) rfl rfl HWH.out (by rw [Hb.out]; omega) (by unfold maxLen; omega) (by rw [Hs2.out]; exact Nat.le_refl _) ?_; intro w1 hO1 hG1; obtain ⟨hq0, hq1, hq2⟩ := (HS0.out.call (bel_grown0 hG1)).b0_3)
  have HI0 : Hid (GA w w1 (w.heap.size + 2) (.slice (some ⟨w.heap.size + 2, 0, none⟩) 0 (W * H * n)) ((img W H n f).take (0)) [] [⟨w.heap.size + 1, 52, #[.int .i64 (W : Int), .int .i64 (H : Int), .slice (As 0) (W * H) (cs 0)]⟩, ⟨w.heap.size, 25, #[.int .i64 0, .int .i64 0, .int .i64 0, .slice none 0 0]⟩]) := Lib.hid (by
    have := GA.start (xs := []) HS0.out hG1 (by rw [Hs2.out]; unfold Own; simpa using hO1)
    rw [Hs2.out] at this
    simpa using this)
  clear hO1 hG1 hnn hnn2 HWH Hi Hz Hs Hb HS0 Hs2 c0 c1 c2 hq0 hq1 hq2
  go_loopw [4, 21] (fun v i wr => ∃ k : Nat, k ≤ W * H ∧ i = .int .i64 k ∧ Hid (GA w wr (w.heap.size + 2) v ((img W H n f).take (k * n)) [] [⟨w.heap.size + 1, 52, #[.int .i64 (W : Int), .int .i64 (H : Int), .slice (As 0) (W * H) (cs 0)]⟩, ⟨w.heap.size, 25, #[.int .i64 0, .int .i64 0, .int .i64 0, .slice none 0 0]⟩])) (fun _ i _ => W * H - (intOf i).toNat)
  case atStart => exact ⟨0, Nat.zero_le _, rfl, by rw [Nat.zero_mul]; exact HI0⟩
  case round =>
    clear HI0
    obtain ⟨k, hk, rfl, hI⟩ := hrel
    by_cases hklt : k < W * H
    · have hltd : decide ((k : Int) < (W : Int) * (H : Int)) = true := decide_eq_true (by exact_mod_cast hklt)
      go_wp2
      go_loopw [4, 26] (fun v j wr => ∃ i : Nat, i ≤ n ∧ j = .int .i64 i ∧ Hid (GA w wr (w.heap.size + 2) v ((img W H n f).take (k * n + i)) [] [⟨w.heap.size + 1, 52, #[.int .i64 (W : Int), .int .i64 (H : Int), .slice (As 0) (W * H) (cs 0)]⟩, ⟨w.heap.size, 25, #[.int .i64 0, .int .i64 0, .int .i64 0, .slice none 0 0]⟩])) (fun _ j _ => n - (intOf j).toNat)
      case atStart => exact ⟨0, Nat.zero_le _, rfl, by rw [Nat.add_zero]; exact hI⟩
      case round =>
        clear hI
        obtain ⟨i, hi, rfl, hJ⟩ := hrel
        by_cases hilt : i < n
        · have hB := hJ.out.gs.below
          obtain ⟨d0, d1, d2⟩ := HCl.out i hilt
          have c0 := (hB.cell (p := ⟨b, off + i * 3, none⟩) hb).trans d0
          have c1 := (hB.cell (p := ⟨b, off + i * 3 + 1, none⟩) hb).trans d1
          have c2 := (hB.cell (p := ⟨b, off + i * 3 + 2, none⟩) hb).trans d2
          obtain ⟨hr, hcs⟩ := HRw.out i hilt
          obtain ⟨rb, ro, hA, hrb, hrc⟩ := hr.cells_ (j := k) (by rw [img_len]; omega)
          have e0 := (hB.cell (p := ⟨rb, ro + k, none⟩) hrb).trans (hrc k (by rw [img_len]; omega))
          have hk1 : (img W H 1 (fun x y _ => f x y i)).getD k 0 = f (k % W) (k / W) i := by have := img_at (fun x y _ => f x y i) hklt (show 0 < 1 by omega); simpa using this
          rw [hk1] at e0
          rw [hA] at c2
          obtain ⟨A1, c1', rfl, _⟩ := hJ.out.own.slice
          have HT := Lib.hid (take_img f hklt hilt)
          have hlen : ((img W H n f).take (k * n + i)).length ≤ 1024 := by simp [img_len]; omega
          have hrbw : rb < wr.heap.size := Nat.lt_of_lt_of_le hrb hB.size
          have HJ1 := Lib.hid (hJ.out.alloc (.cells #[.int .i64 (W : Int), .int .i64 (H : Int), .slice (some ⟨rb, ro, none⟩) (W * H) (cs i)] 52))
          clear hr hrc hJ d0 d1 d2 hA hrb hk1 hB
          generalize f (k % W) (k / W) i = z at *
          have HJ2 := Lib.hid (HJ1.out.alloc (.cells #[.int .i64 z] 3))
          have HQ := Lib.hid (show Rds .i64 ((wr.alloc (.cells #[.int .i64 (W : Int), .int .i64 (H : Int), .slice (some ⟨rb, ro, none⟩) (W * H) (cs i)] 52)).alloc (.cells #[.int .i64 z] 3)) (wr.heap.size + 1 + 1) (some ⟨wr.heap.size + 1, 0, none⟩) [z] from by have := rds_one (wr.alloc (.cells #[.int .i64 (W : Int), .int .i64 (H : Int), .slice (some ⟨rb, ro, none⟩) (W * H) (cs i)] 52)) z; simpa using this)
          have HBS := Lib.hid HJ2.out.bs
          clear HJ1
          go_wp2_with (at_builtin; refine wpList_app rfl (.tmp 30) (.tmp 36) rfl (w.heap.size + 2) _ _ rfl HJ2.out.own (some ⟨wr.heap.size + 1, 0, none⟩) 1 1 _ [z] rfl rfl HQ.out (by simp only [List.length_cons, List.length_nil]; omega) HBS.out ?_; intro v3 w3 hO3 hG3)
          have HN : Hid (GA w w3 (w.heap.size + 2) v3 ((img W H n f).take (k * n + (i + 1))) [] [⟨w.heap.size + 1, 52, #[.int .i64 (W : Int), .int .i64 (H : Int), .slice (As 0) (W * H) (cs 0)]⟩, ⟨w.heap.size, 25, #[.int .i64 0, .int .i64 0, .int .i64 0, .slice none 0 0]⟩]) := Lib.hid (by rw [HT.out]; exact HJ2.out.app hO3 hG3)
          clear hO3 hG3 HJ2 HQ HBS
          go_roundw
          case rel => exact ⟨i + 1, by omega, by go_num, HN⟩
          case measure => simp [intOf]; omega
        · have HN : Hid (GA w wr (w.heap.size + 2) _ ((img W H n f).take ((k + 1) * n)) [] [⟨w.heap.size + 1, 52, #[.int .i64 (W : Int), .int .i64 (H : Int), .slice (As 0) (W * H) (cs 0)]⟩, ⟨w.heap.size, 25, #[.int .i64 0, .int .i64 0, .int .i64 0, .slice none 0 0]⟩]) := Lib.hid (by have := hJ.out; rw [show i = n by omega] at this; rwa [Nat.succ_mul])
          clear hJ
          go_wp2
          go_roundw
          case rel => exact ⟨k + 1, by omega, by go_num, HN⟩
          case measure => simp [intOf]; omega
    · have hG := hI.out.done
      rw [show k = W * H by omega, List.take_of_length_le (by rw [img_len]; exact Nat.le_refl _)] at hG
      obtain ⟨A1, c1, rfl, _⟩ := hG.o0.slice
      obtain ⟨r0, r1, r2, r3⟩ := hG.b1_4
      obtain ⟨g0, g1, g2⟩ := hG.b0_3
      have f0 := hG.f1 0
      have f1 := hG.f1 1
      have f2 := hG.f1 2
      have f3 := hG.f1 3
      have HE := Lib.hid (hG.e1_4 (.int .i64 (W : Int)) (.int .i64 (H : Int)) (.int .i64 (n : Int)) (.slice A1 (img W H n f).length c1))
      clear hI hG
      go_wp2
      exact bodyPost_ret (v := .agg #[.int .i64 (W : Int), .int .i64 (H : Int), .int .i64 (n : Int), .slice A1 (img W H n f).length c1]) (by simp [results, Try.results30, go_sem, r0, r1, r2, r3]) rfl ⟨_, rfl, HE.out.2 _ (List.Mem.head _), HE.out.1⟩
end Go.Proofs.Ytfeldhhbnhdodaa
