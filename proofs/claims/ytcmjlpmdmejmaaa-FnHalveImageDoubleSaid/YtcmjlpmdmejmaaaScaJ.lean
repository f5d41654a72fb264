/- Scaling by areas in the program: one plane. -/
import Derived.Test.YtcmjlpmdmejmaaaScaI
namespace Go.Proofs.Ytcmjlpmdmejmaaa
open Go.RowKit Go.Shelf
set_option linter.unusedSimpArgs false
set_option linter.unusedVariables false
set_option maxRecDepth 20000

def arN (W H a b : Nat) (f : Nat → Nat → Int) (x y : Nat) : Int := mnA (saF W H a b f x y) (W * H)
set_option maxHeartbeats 8000000 in
theorem iAr1_any (W H a b : Nat) (hW1 : 1 ≤ W) (hW : W ≤ 16) (hH1 : 1 ≤ H) (hH : H ≤ 16) (ha : a ≤ 16) (hb : b ≤ 16) (A : Option Addr) (c n : Nat) (hn : a * b = n) (hc : n ≤ c) (s : Nat → Nat → Int) (hs : ∀ x y, x < a → y < b → 0 ≤ s x y ∧ s x y ≤ 16711680) (v : Value) (x y : Nat) (hx : x < a) (hy : y < b) (ps pg : Nat) (w : World) (hr : Rds .i64 w w.heap.size A (grN a b s))
    (h1 : Bx w ps 59 #[.int .i64 (a : Int), .int .i64 (b : Int), .slice A n c]) (h2 : Bx w pg 59 #[.int .i64 (W : Int), .int .i64 (H : Int), v]) :
    Calls Try.prog 54 (#[.int .i64 (x : Int), .int .i64 (y : Int)] ++ #[.pointer (some ⟨ps, 0, none⟩), .pointer (some ⟨pg, 0, none⟩)]) w fun e w' => e = .returned (.int .i64 (mnA (s x y) (W * H))) ∧ Below w.heap.size w w' := by
  have Hr := Lib.hid hr
  have Hn := Lib.hid hn
  obtain ⟨g0, g1, g2⟩ := bx3 h1
  obtain ⟨k0, k1, k2⟩ := bx3 h2
  have hsl := h1.lt
  have hgl := h2.lt
  obtain ⟨N, hN⟩ : ∃ N, N = W * H := ⟨_, rfl⟩
  have hN1 : 1 ≤ N := by rw [hN]; exact Nat.mul_pos hW1 hH1
  have hN2 : N ≤ 256 := by rw [hN]; have := Nat.mul_le_mul hW hH; omega
  have eN : (W : Int) * (H : Int) = (N : Int) := by rw [hN]; simp
  have eNw : IntKind.i64.wrap (N : Int) = (N : Int) := IntWalk.i64_in _ (by omega)
  have hb2 := hs x y hx hy
  obtain ⟨z, hz⟩ : ∃ z, z = s x y := ⟨_, rfl⟩
  have Hz := Lib.hid hz
  rw [← hz] at hb2
  rw [← hz, ← hN]
  obtain ⟨z0, z1⟩ := hb2
  obtain ⟨q, hq⟩ : ∃ q, q = mnA z N := ⟨_, rfl⟩
  have HNst : Hid (∀ u, Calls Try.prog 55 #[.int .i64 z, .int .i64 (N : Int)] u fun e w' => e = .returned (.int .i64 q) ∧ u = w') := Lib.hid (fun u => by rw [hq]; exact iNst_any z (N : Int) u (by omega) (by omega) (by omega) (by omega))
  rw [← hq]
  clear hr hn h1 h2 hN hz hs hq
  show Calls Try.prog 54 #[.int .i64 (x : Int), .int .i64 (y : Int), .pointer (some ⟨ps, 0, none⟩), .pointer (some ⟨pg, 0, none⟩)] w _
  go_enter Try.func54, Try.ntmps54
  go_wp2
  go_region_held3 (fun w' => w'.cell? ⟨ps, 0, none⟩ = some (.int .i64 (a : Int)) ∧ w'.cell? ⟨ps, 1, none⟩ = some (.int .i64 (b : Int)) ∧ w'.cell? ⟨ps, 2, none⟩ = some (.slice A n c) ∧ w'.cell? ⟨pg, 0, none⟩ = some (.int .i64 (W : Int)) ∧ w'.cell? ⟨pg, 1, none⟩ = some (.int .i64 (H : Int)))
    (first | (with_reducible exact ⟨d0, d1, d2, d3, d4⟩) | exact ⟨g0, g1, g2, k0, k1⟩ | go_keep)
    (first | (go_at_call 56; refine (atN_any a b n Hn.out ha hb A c s x y hx hy _ (by exact Hr.out) hc).mono ?_; rintro e w3 ⟨rfl, hB3⟩; rw [← Hz.out]; have d0 := (hB3.cell (p := ⟨ps, 0, none⟩) (by exact hsl)).trans g0; have d1 := (hB3.cell (p := ⟨ps, 1, none⟩) (by exact hsl)).trans g1; have d2 := (hB3.cell (p := ⟨ps, 2, none⟩) (by exact hsl)).trans g2; have d3 := (hB3.cell (p := ⟨pg, 0, none⟩) (by exact hgl)).trans k0; have d4 := (hB3.cell (p := ⟨pg, 1, none⟩) (by exact hgl)).trans k1; have HB3 := Lib.hid hB3; clear hB3) | (go_at_call 55; refine (HNst.out _).mono ?_; rintro e w4 ⟨rfl, rfl⟩))
  all_goals
    have HB4 : Hid (Below w.heap.size w w3) := Lib.hid ((show Below w.heap.size w w.drew from ⟨rfl, rfl, rfl, Nat.le_refl _, fun _ _ => rfl⟩).trans HB3.out)
    clear d0 d1 d2 d3 d4 g0 g1 g2 k0 k1 k2 HB3
    go_wp2
    go_ret
    exact ⟨rfl, HB4.out⟩
set_option maxHeartbeats 8000000 in
theorem iArea_any (W H n a b : Nat) (hn : W * H = n) (hW1 : 1 ≤ W) (hW : W ≤ 16) (hH1 : 1 ≤ H) (hH : H ≤ 16) (ha : a ≤ 16) (hb : b ≤ 16) (A : Option Addr) (c : Nat) (f : Nat → Nat → Int) (hf : ∀ x y, x < W → y < H → 0 ≤ f x y ∧ f x y ≤ 255) (hc : n ≤ c) (w : World) (hr : Rds .i64 w w.heap.size A (grN W H f)) :
    Calls Try.prog 37 #[.agg #[.int .i64 (W : Int), .int .i64 (H : Int), .slice A n c], .int .i64 (a : Int), .int .i64 (b : Int)] w (GridI a b (arN W H a b f) w) := by
  have Hr := Lib.hid hr
  have HF := Lib.hid hf
  have Hn := Lib.hid hn
  have Eg : Hid (∀ args w, (callFunc 54 args).run Try.prog w = .ok (.enter 54 args) w) := Lib.hid (enters_of Try.func54 (by kernel_rfl) rfl)
  have S0 : GS w ((w.alloc (.cells #[.int .i64 (W : Int), .int .i64 (H : Int), .slice A n c] 59)).alloc (.cells #[.int .i64 0, .int .i64 0, .slice none 0 0] 59)) [] [⟨w.heap.size + 1, 59, #[.int .i64 0, .int .i64 0, .slice none 0 0]⟩, ⟨w.heap.size, 59, #[.int .i64 (W : Int), .int .i64 (H : Int), .slice A n c]⟩] :=
    GS.box' (GS.box' (GS.start w) _ _ w.heap.size (by simp)) _ _ (w.heap.size + 1) (by simp)
  have HS := Lib.hid S0
  have HB1 : Hid (∀ x y, x < a → y < b → 0 ≤ saF W H a b f x y ∧ saF W H a b f x y ≤ 16711680) := Lib.hid (fun x y _ _ => saF_bd hW hH ha hb HF.out)
  clear hr hf hn S0
  go_enter Try.func37, Try.ntmps37
  go_wp2_with fail
  generalize (w.alloc (.cells #[.int .i64 (W : Int), .int .i64 (H : Int), .slice A n c] 59)).alloc (.cells #[.int .i64 0, .int .i64 0, .slice none 0 0] 59) = u at *
  refine (iAreas_any W H n a b Hn.out hW hH ha hb A c f HF.out hc u (HS.out.arg Hr.out)).mono ?_
  rintro e w2 ⟨v2, rfl, hO2, hB2⟩
  have S2 := HS.out.add hO2 hB2
  obtain ⟨A2, c2, rfl, hc2⟩ := hO2.slice
  obtain ⟨m, hm⟩ : ∃ m, m = (img a b 1 (fun x y _ => saF W H a b f x y)).length := ⟨_, rfl⟩
  have Hm : Hid (a * b = m) := Lib.hid (by rw [hm]; exact (grN_len a b (saF W H a b f)).symm)
  rw [← hm] at S2 hc2 ⊢
  have S3 := Lib.hid (GS.box S2 59 #[.int .i64 (a : Int), .int .i64 (b : Int), .slice A2 m c2])
  obtain ⟨p, hp⟩ : ∃ p, p = w2.heap.size := ⟨_, rfl⟩
  rw [← hp] at S3
  have Hp := Lib.hid hp
  clear HS hO2 hB2 Hr S2 hm hp
  go_wp2_with fail
  rw [← Hp.out]
  generalize w2.alloc (.cells #[.int .i64 (a : Int), .int .i64 (b : Int), .slice A2 m c2] 59) = w3 at *
  refine (buildN_any a b ha hb 54 #[.pointer (some ⟨p, 0, none⟩), .pointer (some ⟨w.heap.size, 0, none⟩)] (arN W H a b f) w3 Eg.out (fun x y w' hx hy hbel =>
    iAr1_any W H a b hW1 hW hH1 hH ha hb A2 c2 m Hm.out hc2 (saF W H a b f) HB1.out (.slice A n c) x y hx hy p w.heap.size w' ((S3.out.call hbel).rds (List.Mem.head _)) ((S3.out.call hbel).bx (by simp)) ((S3.out.call hbel).bx (by simp)))).mono ?_
  rintro e w4 ⟨v4, rfl, hO4, hB4⟩
  have S4 := S3.out.add hO4 hB4
  obtain ⟨A4, c4, rfl, _⟩ := hO4.slice
  obtain ⟨r0, r1, r2⟩ := S4.b1_3
  have f0 := S4.f1 0
  have f1 := S4.f1 1
  have f2 := S4.f1 2
  have HE := Lib.hid (S4.e1_3 (.int .i64 (a : Int)) (.int .i64 (b : Int)) (.slice A4 (img a b 1 (fun x y _ => arN W H a b f x y)).length c4))
  clear S4 S3 hO4 hB4 HF Eg
  go_wp2
  exact bodyPost_ret (v := .agg #[.int .i64 (a : Int), .int .i64 (b : Int), .slice A4 (img a b 1 (fun x y _ => arN W H a b f x y)).length c4]) (by simp [results, Try.results37, go_sem, r0, r1, r2]) rfl ⟨_, rfl, HE.out.2 _ (List.Mem.head _), HE.out.1⟩
set_option maxHeartbeats 8000000 in
theorem iArS_any (W H n a b : Nat) (hn : W * H = n) (hW1 : 1 ≤ W) (hW : W ≤ 16) (hH1 : 1 ≤ H) (hH : H ≤ 16) (ha : a ≤ 16) (hb : b ≤ 16) (A : Option Addr) (c : Nat) (f : Nat → Nat → Int) (hf : ∀ x y, x < W → y < H → 0 ≤ f x y ∧ f x y ≤ 255) (hc : n ≤ c) (pa pb : Nat) (w : World) (hr : Rds .i64 w w.heap.size A (grN W H f)) (h1 : Bx w pa 3 #[.int .i64 (a : Int)]) (h2 : Bx w pb 3 #[.int .i64 (b : Int)]) :
    Calls Try.prog 36 (#[.agg #[.int .i64 (W : Int), .int .i64 (H : Int), .slice A n c]] ++ #[.pointer (some ⟨pa, 0, none⟩), .pointer (some ⟨pb, 0, none⟩)]) w (GridI a b (arN W H a b f) w) := by
  have Hr := Lib.hid hr
  have HF := Lib.hid hf
  have Hn := Lib.hid hn
  have S0 : GS w ((w.alloc (.cells #[.int .i64 (W : Int), .int .i64 (H : Int), .slice A n c] 59)).alloc (.cells #[.int .i64 0, .int .i64 0, .slice none 0 0] 59)) [] [⟨w.heap.size + 1, 59, #[.int .i64 0, .int .i64 0, .slice none 0 0]⟩, ⟨w.heap.size, 59, #[.int .i64 (W : Int), .int .i64 (H : Int), .slice A n c]⟩] :=
    GS.box' (GS.box' (GS.start w) _ _ w.heap.size (by simp)) _ _ (w.heap.size + 1) (by simp)
  have HS := Lib.hid S0
  have ka := bx1 ((h1.alloc (.cells #[.int .i64 (W : Int), .int .i64 (H : Int), .slice A n c] 59)).alloc (.cells #[.int .i64 0, .int .i64 0, .slice none 0 0] 59))
  have kb := bx1 ((h2.alloc (.cells #[.int .i64 (W : Int), .int .i64 (H : Int), .slice A n c] 59)).alloc (.cells #[.int .i64 0, .int .i64 0, .slice none 0 0] 59))
  have ka0 := bx1 h1
  have kb0 := bx1 h2
  have hla := h1.lt
  have hlb := h2.lt
  clear hr hf hn S0 h1 h2
  show Calls Try.prog 36 #[.agg #[.int .i64 (W : Int), .int .i64 (H : Int), .slice A n c], .pointer (some ⟨pa, 0, none⟩), .pointer (some ⟨pb, 0, none⟩)] w _
  go_enter Try.func36, Try.ntmps36
  go_wp2_with fail
  generalize (w.alloc (.cells #[.int .i64 (W : Int), .int .i64 (H : Int), .slice A n c] 59)).alloc (.cells #[.int .i64 0, .int .i64 0, .slice none 0 0] 59) = u at *
  refine (iArea_any W H n a b Hn.out hW1 hW hH1 hH ha hb A c f HF.out hc u (HS.out.arg Hr.out)).mono ?_
  rintro e w4 ⟨v4, rfl, hO4, hB4⟩
  have S4 := HS.out.add hO4 hB4
  obtain ⟨A4, c4, rfl, _⟩ := hO4.slice
  obtain ⟨r0, r1, r2⟩ := S4.b0_3
  have f0 := S4.f0 0
  have f1 := S4.f0 1
  have f2 := S4.f0 2
  have HE := Lib.hid (S4.e0_3 (.int .i64 (a : Int)) (.int .i64 (b : Int)) (.slice A4 (img a b 1 (fun x y _ => arN W H a b f x y)).length c4))
  clear S4 hO4 hB4 HF HS Hr
  go_wp2
  exact bodyPost_ret (v := .agg #[.int .i64 (a : Int), .int .i64 (b : Int), .slice A4 (img a b 1 (fun x y _ => arN W H a b f x y)).length c4]) (by simp [results, Try.results36, go_sem, r0, r1, r2]) rfl ⟨_, rfl, HE.out.2 _ (List.Mem.head _), HE.out.1⟩
end Go.Proofs.Ytcmjlpmdmejmaaa
