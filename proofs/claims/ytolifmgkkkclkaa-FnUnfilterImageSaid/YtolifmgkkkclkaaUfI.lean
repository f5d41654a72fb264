/- Contract of UnfilterImage in the program. -/
import Derived.Test.YtolifmgkkkclkaaUfM
import Derived.Test.YtolifmgkkkclkaaChn
import Derived.Test.YtolifmgkkkclkaaImgA
import Derived.Test.YtolifmgkkkclkaaGridF
import Derived.Test.YtolifmgkkkclkaaSpecM
import Derived.Deep.CutRange
import Derived.Deep.Cut
namespace Go.Proofs.Ytolifmgkkkclkaa
open Go.RowKit Go.Shelf
set_option linter.unusedSimpArgs false
set_option linter.unusedVariables false
set_option maxRecDepth 20000
attribute [local go_sem] Oper.semAt_some

/-- Zeros and 'false' are written into the answer. -/
theorem uf_stop {w V : World} {b8 b9 : Nat} {T8 T9 : TypeId} {z0 z1 z2 z3 z9 : Value} (h8 : Bx V b8 T8 #[z0, z1, z2, z3]) (h9 : Bx V b9 T9 #[z9]) (hb : Below w.heap.size w V) (g8 : w.heap.size ≤ b8) (g9 : w.heap.size ≤ b9) (hne : ¬ b8 = b9) (y0 y1 y2 y3 y9 : Value) :
    Bx (((((V.setCell ⟨b8, 0, none⟩ y0).setCell ⟨b8, 1, none⟩ y1).setCell ⟨b8, 2, none⟩ y2).setCell ⟨b8, 3, none⟩ y3).setCell ⟨b9, 0, none⟩ y9) b8 T8 #[y0, y1, y2, y3] ∧ Bx (((((V.setCell ⟨b8, 0, none⟩ y0).setCell ⟨b8, 1, none⟩ y1).setCell ⟨b8, 2, none⟩ y2).setCell ⟨b8, 3, none⟩ y3).setCell ⟨b9, 0, none⟩ y9) b9 T9 #[y9] ∧ Below w.heap.size w (((((V.setCell ⟨b8, 0, none⟩ y0).setCell ⟨b8, 1, none⟩ y1).setCell ⟨b8, 2, none⟩ y2).setCell ⟨b8, 3, none⟩ y3).setCell ⟨b9, 0, none⟩ y9) := by
  have e1 := heap_setCell_same V b8 0 _ T8 y0 h8
  have e2 := heap_setCell_same (V.setCell ⟨b8, 0, none⟩ y0) b8 1 _ T8 y1 e1
  have e3 := heap_setCell_same ((V.setCell ⟨b8, 0, none⟩ y0).setCell ⟨b8, 1, none⟩ y1) b8 2 _ T8 y2 e2
  have e4 := heap_setCell_same (((V.setCell ⟨b8, 0, none⟩ y0).setCell ⟨b8, 1, none⟩ y1).setCell ⟨b8, 2, none⟩ y2) b8 3 _ T8 y3 e3
  have k9 : ∀ (W : World) (j : Nat) (y : Value), (W.setCell ⟨b8, j, none⟩ y).heap[b9]? = W.heap[b9]? := fun W j y => heap_setCell_other W ⟨b8, j, none⟩ b9 y (fun e => hne e.symm)
  have e9 : ((((V.setCell ⟨b8, 0, none⟩ y0).setCell ⟨b8, 1, none⟩ y1).setCell ⟨b8, 2, none⟩ y2).setCell ⟨b8, 3, none⟩ y3).heap[b9]? = some (.cells #[z9] T9 (0, 0)) := by rw [k9, k9, k9, k9]; exact h9
  refine ⟨?_, ?_, ?_⟩
  · unfold Bx
    rw [heap_setCell_other _ ⟨b9, 0, none⟩ b8 y9 (fun e => hne e)]
    simpa using e4
  · have := heap_setCell_same _ b9 0 _ T9 y9 e9
    simpa [Bx] using this
  · exact ((((hb.setCell (p := ⟨b8, 0, none⟩) g8 y0).setCell (p := ⟨b8, 1, none⟩) g8 y1).setCell (p := ⟨b8, 2, none⟩) g8 y2).setCell (p := ⟨b8, 3, none⟩) g8 y3).setCell (p := ⟨b9, 0, none⟩) g9 y9
theorem own_cells {w : World} {base : Nat} {E : TypeId} {C : Nat} {v : Value} {n : Nat} {cs : List Value} (h : w.ownsRow base E C v n cs) {k : Nat} (hk : v.ownBlock = some k) : ∃ u : Array Value × TypeId × (Nat × Nat), w.heap[k]? = some (.cells u.1 u.2.1 u.2.2) := by
  rcases h.2 with ⟨rfl, _⟩ | ⟨g, cap, cur, rfl, _, hg, _⟩
  · simp [Value.ownBlock] at hk
  · simp [Value.ownBlock] at hk
    subst hk
    exact ⟨⟨_, _, _⟩, hg⟩
set_option maxHeartbeats 8000000 in
theorem i_UnfilterRow_nil (k : Int) (A A' : Option Addr) (c c' : Nat) (xs bs : List Int) (st : Int) (w : World) (hx : Rds .i64 w w.heap.size A xs) (hb : Rds .i64 w w.heap.size A' bs) (hl : xs.length ≤ 10000000) (hl' : bs.length ≤ 10000000) (hno : ¬ (0 ≤ k ∧ k ≤ 4) ∨ rok xs bs st = false) :
    Calls Try.prog 33 #[.int .i64 k, .slice A xs.length c, .slice A' bs.length c', .int .i64 st] w fun e w' => e = .returned (.slice none 0 0) ∧ Below w.heap.size w w' := by
  have Hx := Lib.hid hx
  have Hb := Lib.hid hb
  clear hx hb
  by_cases hk : 0 ≤ k ∧ k ≤ 4
  · obtain ⟨h0, h4⟩ := hk
    have hok : rok xs bs st = false := hno.resolve_left (fun h => h ⟨h0, h4⟩)
    clear hno
    go_enter Try.func33, Try.ntmps33
    go_wp2_with fail
    refine (pof_yes k w h0 h4).mono ?_
    rintro e w1 ⟨rfl, hB1⟩
    go_wp2_with fail
    refine (iRows_any A A' c c' _ _ xs bs st w1 (Hx.out.below hB1) (Hb.out.below hB1) hl hl').mono ?_
    rintro e w' ⟨rfl, rfl⟩
    go_wp2
    go_ret
    exact ⟨rfl, hB1⟩
  · have hd : decide (0 ≤ k ∧ k ≤ 4) = false := decide_eq_false hk
    clear hk hno
    go_enter Try.func33, Try.ntmps33
    go_wp2_with fail
    refine (pof_no k w hd).mono ?_
    rintro e w1 ⟨rfl, hB1⟩
    go_wp2
    go_ret
    exact ⟨rfl, hB1⟩
set_option maxRecDepth 100000 in
set_option maxHeartbeats 32000000 in
theorem i_UnfilterImage (W H P : Int) (A : Option Addr) (c : Nat) (l : List Int) (w : World) (hx : Rds .i64 w w.heap.size A l) (hl : l.length ≤ 2000000) (hlc : l.length ≤ c) :
    Calls Try.prog 11 #[.int .i64 W, .int .i64 H, .int .i64 P, .slice A l.length c] w (UfR (ufOk W H P l) W H P (ufL W H P l) w) := by
  have HX := Lib.hid hx
  clear hx
  obtain ⟨T, hT⟩ : ∃ T, T = l.length := ⟨_, rfl⟩
  have HT := Lib.hid hT
  rw [← hT] at hl hlc ⊢
  clear hT
  obtain ⟨b6, hb6⟩ : ∃ b, b = w.heap.size := ⟨_, rfl⟩
  obtain ⟨b8, hb8⟩ : ∃ b, b = w.heap.size + 1 := ⟨_, rfl⟩
  obtain ⟨b9, hb9⟩ : ∃ b, b = w.heap.size + 2 := ⟨_, rfl⟩
  have S1 : GS w (((w.alloc (.cells #[.int .i64 P] 3)).alloc (.cells #[.int .i64 0, .int .i64 0, .int .i64 0, .slice none 0 0] 25)).alloc (.cells #[.bool false] 4)) [] [⟨b9, 4, #[.bool false]⟩, ⟨b8, 25, #[.int .i64 0, .int .i64 0, .int .i64 0, .slice none 0 0]⟩, ⟨b6, 3, #[.int .i64 P]⟩] := GS.box' (GS.box' (GS.box' (GS.start w) _ _ b6 hb6) _ _ b8 (by simp [hb8])) _ _ b9 (by simp [hb9])
  have h8 : w.heap.size ≤ b8 := by omega
  have h9 : w.heap.size ≤ b9 := by omega
  have h89 : ¬ b8 = b9 := by omega
  have h98 : ¬ b9 = b8 := by omega
  have H68 : Hid (b6 < b8 ∧ b8 < b9) := Lib.hid (by omega)
  refine (callsIn_wide (n := 5)).1 ?_
  refine callsIn_of_wp_marks Try.func11 rfl trivial ?_ rfl
  refine wpIn_wide.2 ?_
  simp only [Try.ntmps11, List.size_toArray, List.length_cons, List.length_nil, Nat.reduceAdd, Nat.reduceSub, Array.replicate_succ, Array.replicate_zero, List.push_toArray, List.append_toArray, List.nil_append, List.cons_append]
  go_upto_region 1 with fail
  (try rw [show w.heap.size + 1 + 1 = b9 by omega, show w.heap.size + 1 = b8 by omega])
  rw [← hb6]
  generalize (((w.alloc (.cells #[.int .i64 P] 3)).alloc (.cells #[.int .i64 0, .int .i64 0, .int .i64 0, .slice none 0 0] 25)).alloc (.cells #[.bool false] 4)) = u1 at *
  clear hb6 hb8 hb9
  have m6 : u1.cell? ⟨b6, 0, none⟩ = some (.int .i64 P) := cell_of_row _ b6 0 _ _ _ (S1.bx (g := b6) (T := 3) (cs := #[.int .i64 P]) (by simp))
  cases hv : vsh W H P
  · have Hv : Hid (ufOk W H P l = false) := Lib.hid (ufOk_v hv)
    go_wp2_with fail
    refine (iShape_any W H P u1).mono ?_
    rintro e u2 ⟨rfl, rfl⟩
    rw [hv]
    clear hv m6
    have r8 := S1.c4 (g := b8) (T := 25) (a0 := .int .i64 0) (a1 := .int .i64 0) (a2 := .int .i64 0) (a3 := .slice none 0 0) (by simp)
    obtain ⟨r0, r1, r2, r3⟩ := r8
    have r9 : u1.cell? ⟨b9, 0, none⟩ = some (.bool false) := cell_of_row _ b9 0 _ _ _ (S1.bx (g := b9) (T := 4) (cs := #[.bool false]) (by simp))
    have f0 := S1.fz (g := b8) (T := 25) (cs := #[.int .i64 0, .int .i64 0, .int .i64 0, .slice none 0 0]) (by simp) 0
    have f1 := S1.fz (g := b8) (T := 25) (cs := #[.int .i64 0, .int .i64 0, .int .i64 0, .slice none 0 0]) (by simp) 1
    have f2 := S1.fz (g := b8) (T := 25) (cs := #[.int .i64 0, .int .i64 0, .int .i64 0, .slice none 0 0]) (by simp) 2
    have f3 := S1.fz (g := b8) (T := 25) (cs := #[.int .i64 0, .int .i64 0, .int .i64 0, .slice none 0 0]) (by simp) 3
    have f9 := S1.fz (g := b9) (T := 4) (cs := #[.bool false]) (by simp) 0
    have HBF := Lib.hid (uf_stop (S1.bx (g := b8) (T := 25) (cs := #[.int .i64 0, .int .i64 0, .int .i64 0, .slice none 0 0]) (by simp)) (S1.bx (g := b9) (T := 4) (cs := #[.bool false]) (by simp)) S1.below h8 h9 h89 (.int .i64 0) (.int .i64 0) (.int .i64 0) (.slice none 0 0) (.bool false)).2.2
    clear S1
    go_wp2
    exact ⟨.tuple #[.agg #[.int .i64 0, .int .i64 0, .int .i64 0, .slice none 0 0], .bool false], by simp [results, Try.results11, go_sem, r0, r1, r2, r3, r9, h89], UfR.no Hv.out HBF.out⟩
  · obtain ⟨W, H, P, rfl, rfl, rfl, ⟨hW1, hW⟩, ⟨hH1, hH⟩, hP1, hP⟩ := vsh_natU hv
    obtain ⟨n, hn⟩ : ∃ n, n = W * P := ⟨_, rfl⟩
    obtain ⟨n1, hn1'⟩ : ∃ n1, n1 = n + 1 := ⟨_, rfl⟩
    obtain ⟨m, hm⟩ : ∃ m, m = H * n1 := ⟨_, rfl⟩
    have hn64 : n ≤ 64 := by rw [hn]; exact Nat.mul_le_mul hW hP
    have hn1 : 1 ≤ n := by rw [hn]; exact Nat.mul_pos hW1 hP1
    have hm2 : m ≤ 16 * 65 := by rw [hm]; exact Nat.mul_le_mul hH (by omega)
    have i1 : (W : Int) * (P : Int) = (n : Int) := by rw [hn]; simp
    have i2 : (1 : Int) + (n : Int) = (n1 : Int) := by omega
    have i3 : (H : Int) * (n1 : Int) = (m : Int) := by rw [hm]; simp
    have w0 : IntKind.i64.wrap (n : Int) = (n : Int) := IntWalk.i64_in _ (by omega)
    have w1 : IntKind.i64.wrap (n1 : Int) = (n1 : Int) := IntWalk.i64_in _ (by omega)
    have w2 : IntKind.i64.wrap (m : Int) = (m : Int) := IntWalk.i64_in _ (by omega)
    have hlm : (l.length : Int) = (H : Int) * ((W : Int) * (P : Int) + 1) ↔ T = m := by
      rw [i1, show (n : Int) + 1 = (n1 : Int) by omega, i3, HT.out]; omega
    have HLM := Lib.hid hlm
    have HNn := Lib.hid hn
    have HN1 := Lib.hid hn1'
    have HMm := Lib.hid hm
    have HV := Lib.hid hv
    clear hlm hn hm hn1'
    go_wp2_with fail
    refine (iShape_any (W : Int) (H : Int) (P : Int) u1).mono ?_
    rintro e u2 ⟨rfl, rfl⟩
    rw [hv]
    clear hv m6
    by_cases hTm : T = m
    case neg =>
      have Hv : Hid (ufOk W H P l = false) := Lib.hid (ufOk_n (fun h => hTm (HLM.out.1 h)))
      have hTi : ¬ (T : Int) = (m : Int) := by omega
      have r8 := S1.c4 (g := b8) (T := 25) (a0 := .int .i64 0) (a1 := .int .i64 0) (a2 := .int .i64 0) (a3 := .slice none 0 0) (by simp)
      obtain ⟨r0, r1, r2, r3⟩ := r8
      have r9 : u1.cell? ⟨b9, 0, none⟩ = some (.bool false) := cell_of_row _ b9 0 _ _ _ (S1.bx (g := b9) (T := 4) (cs := #[.bool false]) (by simp))
      have f0 := S1.fz (g := b8) (T := 25) (cs := #[.int .i64 0, .int .i64 0, .int .i64 0, .slice none 0 0]) (by simp) 0
      have f1 := S1.fz (g := b8) (T := 25) (cs := #[.int .i64 0, .int .i64 0, .int .i64 0, .slice none 0 0]) (by simp) 1
      have f2 := S1.fz (g := b8) (T := 25) (cs := #[.int .i64 0, .int .i64 0, .int .i64 0, .slice none 0 0]) (by simp) 2
      have f3 := S1.fz (g := b8) (T := 25) (cs := #[.int .i64 0, .int .i64 0, .int .i64 0, .slice none 0 0]) (by simp) 3
      have f9 := S1.fz (g := b9) (T := 4) (cs := #[.bool false]) (by simp) 0
      have HBF := Lib.hid (uf_stop (S1.bx (g := b8) (T := 25) (cs := #[.int .i64 0, .int .i64 0, .int .i64 0, .slice none 0 0]) (by simp)) (S1.bx (g := b9) (T := 4) (cs := #[.bool false]) (by simp)) S1.below h8 h9 h89 (.int .i64 0) (.int .i64 0) (.int .i64 0) (.slice none 0 0) (.bool false)).2.2
      clear S1
      go_wp2
      exact ⟨.tuple #[.agg #[.int .i64 0, .int .i64 0, .int .i64 0, .slice none 0 0], .bool false], by simp [results, Try.results11, go_sem, r0, r1, r2, r3, r9, h89], UfR.no Hv.out HBF.out⟩
    case pos =>
      have HYy := Lib.hid (ufOk_y HV.out (HLM.out.2 hTm))
      have HLL : Hid (l.length = H * (n + 1)) := Lib.hid (by rw [← HT.out, hTm, HMm.out, HN1.out])
      have HTm := Lib.hid hTm
      clear HLM
      subst hTm
      have hpos : 0 < l.length := by rw [HLL.out]; exact Nat.mul_pos hH1 (by omega)
      obtain ⟨b, off, rfl, hb, hcx⟩ := HX.out.cells_ hpos
      have HCx := Lib.hid hcx
      clear hcx hpos
      obtain ⟨i, hi, hz, hsz, hbb⟩ := info_parts info_int
      have Hi := Lib.hid hi
      have Hz := Lib.hid hz
      have Hs := Lib.hid hsz
      have Hb := Lib.hid hbb
      have HS1 := Lib.hid S1
      clear S1 hi hz hsz hbb
      go_wp2_with (refine wpList_make_full _ rfl (.tmp 33) (.tmp 33) 23 rfl u1.heap.size 3 i _ 1 Try.underlying23 Hi.out Hz.out Hs.out .i64 .i64 _ _ n rfl rfl rfl rfl (by rw [Hb.out]; omega) (by unfold maxLen; omega) (Nat.le_refl _) ?_; intro wm hO1 hG1)
      have hOz : Own wm u1.heap.size (.slice (some ⟨u1.heap.size, 0, none⟩) n n) (zeros n) := by have h := own_zeros hO1; unfold Own; simpa using h
      obtain ⟨lo0, hlo0⟩ : ∃ lo0, lo0 = u1.heap.size := ⟨_, rfl⟩
      obtain ⟨hi0, hhi0⟩ : ∃ hi0, hi0 = wm.heap.size := ⟨_, rfl⟩
      obtain ⟨b11, hb11⟩ : ∃ b11, b11 = wm.heap.size := ⟨_, rfl⟩
      obtain ⟨b12, hb12⟩ : ∃ b12, b12 = wm.heap.size + 1 := ⟨_, rfl⟩
      obtain ⟨bs, hbs⟩ : ∃ bs, bs = wm.heap.size + 2 := ⟨_, rfl⟩
      obtain ⟨bz, hbz⟩ : ∃ bz, bz = wm.heap.size + 3 := ⟨_, rfl⟩
      have hS2 := HS1.out.add hOz (bel_grown0 hG1)
      rw [← hlo0, ← hhi0] at hS2
      have hS4 := GS.box' (GS.box' hS2 23 #[.slice (some ⟨lo0, 0, none⟩) n n] b11 hb11) 23 #[.slice none 0 0] b12 (by simp [hb12])
      have hS6 := GS.box' (GS.box' hS4 23 #[.slice (some ⟨b, off, none⟩) T c] bs (by simp [hbs])) 3 #[.int .i64 (n1 : Int)] bz (by simp [hbz])
      have Hg : Hid (lo0 < b11) := Lib.hid (by rw [hb11, hlo0]; exact (hOz.lt u1.heap.size rfl).2)
      have hb9l := HS1.out.lt (g := b9) (T := 4) (cs := #[.bool false]) (by simp)
      have Hlo9 : Hid (b9 < lo0) := Lib.hid (by rw [hlo0]; exact hb9l)
      rw [← hlo0]
      clear hO1 hG1 hOz hS2 hS4 i1 i2 i3 w0 w1 w2 hb9l
      have hn11 : 1 ≤ n1 := by have := HN1.out; omega
      refine (chunkZ_any (some ⟨b, off, none⟩) T c n1 hn11 _).mono ?_
      rintro e wq ⟨rfl, rfl⟩
      have HS6 := Lib.hid hS6
      have hsz : (((wm.alloc (.cells #[.slice (some ⟨lo0, 0, none⟩) n n] 23)).alloc (.cells #[.slice none 0 0] 23))).heap.size = wm.heap.size + 2 := by simp
      rw [hsz, ← hbs, show bs + 1 = bz by omega, ← hb12, ← hb11]
      generalize hwc : (((wm.alloc (.cells #[.slice (some ⟨lo0, 0, none⟩) n n] 23)).alloc (.cells #[.slice none 0 0] 23)).alloc (.cells #[.slice (some ⟨b, off, none⟩) T c] 23)).alloc (.cells #[.int .i64 (n1 : Int)] 3) = wc at *
      have Hbb : Hid (b6 < b8 ∧ b8 < b9 ∧ b9 < lo0 ∧ lo0 < b11 ∧ b11 < b12 ∧ b12 < bs ∧ bs < bz ∧ bz < wc.heap.size) := Lib.hid (by have := Hg.out; have := Hlo9.out; have := H68.out; have := HS6.out.lt (g := bz) (T := 3) (cs := #[.int .i64 (n1 : Int)]) (by simp); omega)
      have Hbw : Hid (w.heap.size ≤ lo0) := Lib.hid (by rw [hlo0]; exact HS1.out.below.size)
      clear hwc hb11 hb12 hbs hbz hlo0 hhi0 hS6 hsz HS1 Hg Hi Hz Hs Hb Hlo9
      have HTm : Hid (T = n1 * H) := Lib.hid (by rw [HMm.out, Nat.mul_comm])
      have HFb : Hid (∀ pre : List (Fin H), (uS n P l pre).1.length = pre.length * n ∧ (uS n P l pre).2.length = n ∧ Byt (uS n P l pre).2) := Lib.hid uS_bd
      have hbsB : Boxed wc bs 23 (.slice (some ⟨b, off, none⟩) T c) := HS6.out.bx (by simp)
      have hbzB : Boxed wc bz 3 (.int .i64 (n1 : Int)) := HS6.out.bx (by simp)
      have HR0 : Hid (Rsp wc (.slice none 0 0) (some ⟨lo0, 0, none⟩) (zeros n)) := Lib.hid ⟨HS6.out.rds (lo := lo0) (hi := hi0) (n := n) (c := n) (by simp), fun a ha => by injection ha with ha; subst ha; exact ⟨by show lo0 < _; have := Hbb.out; omega, by simp [Value.ownBlock]⟩⟩
      have Hbwc := Lib.hid HS6.out.below
      go_wp2
      refine (wpIn_wide (n := 5)).1 ?_
      refine' wpIn_rangeFunc_ownG rfl (by omega) (gf := 45) (lb := #[.pointer (some ⟨bs, 0, none⟩), .pointer (some ⟨bz, 0, none⟩)]) rfl trivial (enters_of Try.func45 (by kernel_rfl) rfl)
        (chunkZ_stops 4 (by omega) bs bz b off H n1 T c hn11 HTm.out (some ⟨b, off, none⟩) (fun _ => rfl) (by omega) hlc wc hbsB hbzB)
        CZ.trans (fun V l o o' hl _ _ _ => CZ.putObj V l o' (by have := Hbb.out; omega) (by have := Hbb.out; omega)) (Below.refl _ _) (fun _ => rfl)
        (fun pre V => ∃ (v : Value) (Ab : Option Addr) (cb : Nat), GA w V wc.heap.size v (uS n P l pre).1 [ri lo0 hi0 (.slice (some ⟨lo0, 0, none⟩) n n) (zeros n)] [⟨bz, 3, #[.int .i64 (n1 : Int)]⟩, ⟨bs, 23, #[.slice (some ⟨b, off, none⟩) T c]⟩, ⟨b12, 23, #[v]⟩, ⟨b11, 23, #[.slice Ab n cb]⟩, ⟨b9, 4, #[.bool false]⟩, ⟨b8, 25, #[.int .i64 0, .int .i64 0, .int .i64 0, .slice none 0 0]⟩, ⟨b6, 3, #[.int .i64 (P : Int)]⟩] ∧ Rsp V v Ab (uS n P l pre).2 ∧ (∀ a : Addr, Ab = some a → a.block ≠ b11 ∧ a.block ≠ b12) ∧ (∀ x ∈ pre, ptOk n l x.val = true)) (fun c pre V => c = .ret ∧ Bx V b8 25 #[.int .i64 0, .int .i64 0, .int .i64 0, .slice none 0 0] ∧ Bx V b9 4 #[.bool false] ∧ Below w.heap.size w V ∧ ∃ x ∈ pre, ptOk n l x.val = false)
        (fun pre V V' row h hG hr => by
          obtain ⟨v, Ab, cb, h1, h2, h3, h4⟩ := h
          exact ⟨v, Ab, cb, GR.other h1 hG hr, h2.other (base := wc.heap.size) (by rw [(HFb.out pre).2.1]; omega) hG hr, h3, h4⟩)
        (fun c pre V V' row h hG hr => by
          obtain ⟨h1, h2, h3, h4, h5⟩ := h
          have hbb := Hbb.out
          exact ⟨h1, (hG.block b8 h2.lt (fun e => by have := (hr b8 e.symm).1; omega)).trans h2, (hG.block b9 h3.lt (fun e => by have := (hr b9 e.symm).1; omega)).trans h3, h4.grown hG h4.size (fun k e => Nat.le_trans Hbwc.out.size (hr k e).1), h5⟩)
        ⟨_, _, _, GA.nil HS6.out, HR0.out, fun a ha => by injection ha with ha; subst ha; have := Hbb.out; exact ⟨by show lo0 ≠ b11; omega, by show lo0 ≠ b12; omega⟩, by simp⟩ _ ?assign ?body ?done ?stop
      case assign =>
        intro l x V kd hK
        gi_wp2
        exact hK
      case stop =>
        rintro D c pre V hD _ ⟨rfl, h2, h3, h4, h5⟩ hK
        obtain ⟨x, hxm, hxf⟩ := h5
        have Hv : Hid (ufOk (W : Int) (H : Int) (P : Int) l = false) := Lib.hid (by rw [HYy.out, ← HNn.out]; exact unOk_no x.isLt hxf)
        have hbb := Hbb.out
        have hD8 : ¬ b8 = D := by omega
        have hD9 : ¬ b9 = D := by omega
        have HKK := Lib.hid hK
        have h2' : Bx (V.putObj D (.deferred none)) b8 25 #[.int .i64 0, .int .i64 0, .int .i64 0, .slice none 0 0] := ((grownBy_putObj' V D (.deferred none)).block b8 h2.lt (fun e => by injection e with e; exact hD8 e)).trans h2
        have h3' : Bx (V.putObj D (.deferred none)) b9 4 #[.bool false] := ((grownBy_putObj' V D (.deferred none)).block b9 h3.lt (fun e => by injection e with e; exact hD9 e)).trans h3
        have HBF : Hid (Below w.heap.size w (V.putObj D (.deferred none))) := Lib.hid (h4.grown (grownBy_putObj' V D (.deferred none)) h4.size (fun k e => by injection e with e; subst e; exact Nat.le_trans Hbwc.out.size hD))
        have r0 := cell_of_row _ b8 0 _ _ _ h2'
        have r1 := cell_of_row _ b8 1 _ _ _ h2'
        have r2 := cell_of_row _ b8 2 _ _ _ h2'
        have r3 := cell_of_row _ b8 3 _ _ _ h2'
        have r9 := cell_of_row _ b9 0 _ _ _ h3'
        clear h2 h3 h4 h2' h3' hK
        refine wpIn_ret ?_
        refine ⟨by simp, .inl ⟨_, _, rfl, run_takeDeferred HKK.out, ?_⟩⟩
        exact ⟨.tuple #[.agg #[.int .i64 0, .int .i64 0, .int .i64 0, .slice none 0 0], .bool false], by simp [results, Try.results11, go_sem, r0, r1, r2, r3, r9], UfR.no Hv.out HBF.out⟩
      case done =>
        rintro D ys V hD rfl ⟨v, Ab, cb, hG, _, _, hok⟩ hK
        have Hv : Hid (ufOk (W : Int) (H : Int) (P : Int) l = true) := Lib.hid (by
          rw [HYy.out, ← HNn.out]
          exact unOk_yes fun y hy => hok ⟨y, hy⟩ (List.mem_finRange _))
        have c12 : V.cell? ⟨b12, 0, none⟩ = some v := cell_of_row V b12 0 _ _ _ (hG.1.bx (g := b12) (T := 23) (cs := #[v]) (by simp))
        have c6 : V.cell? ⟨b6, 0, none⟩ = some (.int .i64 (P : Int)) := cell_of_row V b6 0 _ _ _ (hG.1.bx (g := b6) (T := 3) (cs := #[.int .i64 (P : Int)]) (by simp))
        have r8 := hG.1.c4 (g := b8) (T := 25) (a0 := .int .i64 0) (a1 := .int .i64 0) (a2 := .int .i64 0) (a3 := .slice none 0 0) (by simp)
        obtain ⟨r0, r1, r2, r3⟩ := r8
        have r9 : V.cell? ⟨b9, 0, none⟩ = some (.bool false) := cell_of_row _ b9 0 _ _ _ (hG.1.bx (g := b9) (T := 4) (cs := #[.bool false]) (by simp))
        have f0 := hG.1.fz (g := b8) (T := 25) (cs := #[.int .i64 0, .int .i64 0, .int .i64 0, .slice none 0 0]) (by simp) 0
        have f1 := hG.1.fz (g := b8) (T := 25) (cs := #[.int .i64 0, .int .i64 0, .int .i64 0, .slice none 0 0]) (by simp) 1
        have f2 := hG.1.fz (g := b8) (T := 25) (cs := #[.int .i64 0, .int .i64 0, .int .i64 0, .slice none 0 0]) (by simp) 2
        have f3 := hG.1.fz (g := b8) (T := 25) (cs := #[.int .i64 0, .int .i64 0, .int .i64 0, .slice none 0 0]) (by simp) 3
        have f9 := hG.1.fz (g := b9) (T := 4) (cs := #[.bool false]) (by simp) 0
        obtain ⟨Av, cv, rfl, _⟩ := GR.slice hG
        have HF := Lib.hid hG
        have HKK := Lib.hid hK
        clear hG hK hok
        obtain ⟨nv, hnv⟩ : ∃ nv, nv = (uS n P l (List.finRange H)).1.length := ⟨_, rfl⟩
        rw [← hnv] at HF c12
        clear hnv
        have hD8 : ¬ D = b8 := by have := Hbb.out; omega
        have hD9 : ¬ D = b9 := by have := Hbb.out; omega
        obtain ⟨p8, p9, pB⟩ := uf_stop (HF.out.1.bx (g := b8) (T := 25) (cs := #[.int .i64 0, .int .i64 0, .int .i64 0, .slice none 0 0]) (by simp)) (HF.out.1.bx (g := b9) (T := 4) (cs := #[.bool false]) (by simp)) HF.out.1.1 h8 h9 h89 (.int .i64 (W : Int)) (.int .i64 (H : Int)) (.int .i64 (P : Int)) (.slice Av nv cv) (.bool true)
        obtain ⟨V2, hV2⟩ : ∃ V2, V2 = (((((V.setCell ⟨b8, 0, none⟩ (.int .i64 (W : Int))).setCell ⟨b8, 1, none⟩ (.int .i64 (H : Int))).setCell ⟨b8, 2, none⟩ (.int .i64 (P : Int))).setCell ⟨b8, 3, none⟩ (.slice Av nv cv)).setCell ⟨b9, 0, none⟩ (.bool true)) := ⟨_, rfl⟩
        have hkb : ∀ k, ¬ b8 = k → ¬ b9 = k → V2.heap[k]? = V.heap[k]? := fun k e8 e9 => by
          rw [hV2, heap_setCell_other _ ⟨b9, 0, none⟩ k _ (fun e => e9 e.symm), heap_setCell_other _ ⟨b8, 3, none⟩ k _ (fun e => e8 e.symm), heap_setCell_other _ ⟨b8, 2, none⟩ k _ (fun e => e8 e.symm), heap_setCell_other _ ⟨b8, 1, none⟩ k _ (fun e => e8 e.symm), heap_setCell_other _ ⟨b8, 0, none⟩ k _ (fun e => e8 e.symm)]
        have HK2 : Hid (V2.heap[D]? = some (.deferred (some []))) := Lib.hid ((hkb D (fun e => hD8 e.symm) (fun e => hD9 e.symm)).trans HKK.out)
        have HO2 : Hid (V2.ownsRow wc.heap.size 3 1 (.slice Av nv cv) (uS n P l (List.finRange H)).1.length ((uS n P l (List.finRange H)).1.map (.int .i64))) := Lib.hid (ownsRow_keep HF.out.own fun k hk => hkb k (fun e => by have := (World.ownsRow.lt HF.out.own k hk).1; have := Hbb.out; omega) (fun e => by have := (World.ownsRow.lt HF.out.own k hk).1; have := Hbb.out; omega))
        rw [← hV2] at p8 p9 pB
        have hp8 : Bx (V2.putObj D (.deferred none)) b8 25 _ := ((grownBy_putObj' V2 D (.deferred none)).block b8 p8.lt (fun e => by injection e with e; exact hD8 e.symm)).trans p8
        have hp9 : Bx (V2.putObj D (.deferred none)) b9 4 _ := ((grownBy_putObj' V2 D (.deferred none)).block b9 p9.lt (fun e => by injection e with e; exact hD9 e.symm)).trans p9
        have HBF : Hid (Below w.heap.size w (V2.putObj D (.deferred none))) := Lib.hid (pB.grown (grownBy_putObj' V2 D (.deferred none)) pB.size (fun k e => by injection e with e; subst e; exact Nat.le_trans Hbwc.out.size hD))
        have HO3 : Hid (Own (V2.putObj D (.deferred none)) wc.heap.size (.slice Av nv cv) (uS n P l (List.finRange H)).1) := Lib.hid (ownsRow_keep HO2.out fun k hk => (grownBy_putObj' V2 D (.deferred none)).block k (World.ownsRow.lt HO2.out k hk).2 (fun e => by
          injection e with e
          subst e
          obtain ⟨u, hu⟩ := own_cells HO2.out hk
          rw [HK2.out] at hu
          cases hu))
        have s0 := cell_of_row _ b8 0 _ _ _ hp8
        have s1 := cell_of_row _ b8 1 _ _ _ hp8
        have s2 := cell_of_row _ b8 2 _ _ _ hp8
        have s3 := cell_of_row _ b8 3 _ _ _ hp8
        have s9 := cell_of_row _ b9 0 _ _ _ hp9
        have HV2 := Lib.hid hV2
        clear p8 p9 pB hkb hp8 hp9 hV2
        go_wp2
        rw [← HV2.out]
        refine ⟨by simp, .inl ⟨_, _, rfl, run_takeDeferred HK2.out, ?_⟩⟩
        exact ⟨.tuple #[.agg #[.int .i64 (W : Int), .int .i64 (H : Int), .int .i64 (P : Int), .slice Av nv cv], .bool true], by simp [results, Try.results11, go_sem, s0, s1, s2, s3, s9], UfR.yes Hv.out (by
          have hO := HO3.out
          rw [uS_all] at hO
          unfold ufL
          simp only [Int.toNat_natCast]
          rw [← HNn.out]
          exact ownsRow_le hO Hbwc.out.size) HBF.out⟩
      case body =>
        rintro l0 pre x V ⟨v, Ab, cb, hG, hRb, hAb, hok⟩ hlt
        have hxl := x.isLt
        obtain ⟨hf1, hf2, hf3⟩ := HFb.out pre
        have hend := row_end HLL.out hxl
        rw [← HN1.out] at hend
        obtain ⟨ad, had⟩ : ∃ ad, ad = off + n1 * x.val := ⟨_, rfl⟩
        obtain ⟨kd, hkd⟩ : ∃ kd, kd = ptK n l x.val := ⟨_, rfl⟩
        obtain ⟨pr, hpr⟩ : ∃ pr, pr = ptR n l x.val := ⟨_, rfl⟩
        have hpl : pr.length = n := by rw [hpr]; exact ptR_len HLL.out hxl
        have xw : w.cell? ⟨b, ad, none⟩ = some (.int .i64 kd) := by
          have h := HCx.out (x.val * n1) (by omega)
          rw [hkd, had, Nat.mul_comm n1]
          unfold ptK
          rw [← HN1.out]
          exact h
        have HRp : Hid (∀ u, Below w.heap.size w u → Rds .i64 u u.heap.size (some ⟨b, ad + 1, none⟩) pr) := Lib.hid (fun u hu => .inr ⟨b, ad + 1, rfl, Nat.lt_of_lt_of_le hb hu.size, fun j hj => by
          rw [hpl] at hj
          rw [hu.cell (p := ⟨b, ad + 1 + j, none⟩) hb, hpr, ptR_get hj, had, ← HN1.out, Nat.mul_comm n1, Nat.add_assoc off, Nat.add_assoc off]
          exact HCx.out (x.val * n1 + 1 + j) (by have := HN1.out; omega)⟩)
        obtain ⟨L0, hL0⟩ : ∃ L0, L0 = (uS n P l pre).1 := ⟨_, rfl⟩
        obtain ⟨bf, hbf⟩ : ∃ bf, bf = (uS n P l pre).2 := ⟨_, rfl⟩
        have HSn0 := uS_snoc n P l pre x
        rw [← hkd, ← hpr, ← hL0, ← hbf] at HSn0
        rw [← hbf] at hf2 hf3 hRb
        rw [← hL0] at hf1 hG
        obtain ⟨rr, hrr⟩ : ∃ rr, rr = unf kd pr bf P n := ⟨_, rfl⟩
        have HrL : Hid (rr.length = n) := Lib.hid (by rw [hrr]; exact unf_len _ _ _ _ _)
        rw [← hrr] at HSn0
        have HSn := Lib.hid HSn0
        have HLen : Hid (L0.length ≤ 1024) := Lib.hid (by rw [hf1]; exact Nat.mul_le_mul (show pre.length ≤ 16 by omega) hn64)
        have k1 : (1 : Int) ≤ (n1 : Int) := by omega
        have k3 : ¬ n1 = 1 := by have := HN1.out; omega
        have k4 : n1 - 1 = n := by have := HN1.out; omega
        have k5 : 0 < n1 := by omega
        have HP : Hid (ptOk n l x.val = (decide (0 ≤ kd ∧ kd ≤ 4) && allB 0 255 pr)) := Lib.hid (by rw [hkd, hpr]; rfl)
        have HSd := Lib.hid (GA.drew hG)
        have HRbd : Hid (Rsp V.drew v Ab bf) := Lib.hid hRb.drew
        have HAb := Lib.hid hAb
        have Hok := Lib.hid hok
        have q1 : V.drew.cell? ⟨b, ad, none⟩ = some (.int .i64 kd) := (HSd.out.1.1.cell (p := ⟨b, ad, none⟩) hb).trans xw
        have q11 : V.drew.cell? ⟨b11, 0, none⟩ = some (.slice Ab n cb) := cell_of_row _ b11 0 _ _ _ (HSd.out.1.bx (g := b11) (T := 23) (cs := #[.slice Ab n cb]) (by simp))
        have q6 : V.drew.cell? ⟨b6, 0, none⟩ = some (.int .i64 (P : Int)) := cell_of_row _ b6 0 _ _ _ (HSd.out.1.bx (g := b6) (T := 3) (cs := #[.int .i64 (P : Int)]) (by simp))
        rw [← had]
        by_cases hpk : ptOk n l x.val = true
        case pos =>
          have HUF : Hid (∀ u, Rds .i64 u u.heap.size (some ⟨b, ad + 1, none⟩) pr → Rds .i64 u u.heap.size Ab bf → Calls Try.prog 33 #[.int .i64 kd, .slice (some ⟨b, ad + 1, none⟩) n n, .slice Ab n cb, .int .i64 (P : Int)] u (Made rr u)) := Lib.hid (fun u h1 h2 => by
            have hp2 := HP.out
            rw [hpk] at hp2
            have hp3 := Bool.and_eq_true _ _ ▸ hp2.symm
            obtain ⟨hk4, hal⟩ := hp3
            have hk := of_decide_eq_true hk4
            have hrok : rok pr bf (P : Int) = true := decide_eq_true ⟨by omega, by omega, ⟨by omega, by omega⟩, hal, decide_eq_true (of_byt hf3)⟩
            have h := i_UnfilterRow kd (some ⟨b, ad + 1, none⟩) Ab n cb pr bf P u h1 h2 (by omega) (by omega)
            rw [hpl, hf2, ufil_yes hk.1 hk.2 hrok, hpl, ← hrr] at h
            exact h)
          have Hpk := Lib.hid hpk
          clear hG hRb hAb hok hf1 hf2 hf3 hpl hpk hkd hpr hL0 hbf hrr HSn0 had hend hlt hxl
          gi_wp2_with fail
          rename_i Qc Kc hKc
          refine region_round_held (S := (fun w' => w'.cell? ⟨b, ad, none⟩ = some (.int .i64 kd) ∧ w'.cell? ⟨b11, 0, none⟩ = some (.slice Ab n cb) ∧ w'.cell? ⟨b6, 0, none⟩ = some (.int .i64 (P : Int)))) (by kernel_rfl) ?hnd ?hlo (by exact ⟨q1, q11, q6⟩) (fun hHeld => ?hwalk)
          case hnd =>
            intro i o cc hi
            rcases i with _ | _ | _ | _ | _ | _ | _ | _ | _ | i
            all_goals first
              | (simp only [List.getElem?_toArray, List.getElem?_cons_succ, List.getElem?_cons_zero, Option.some.injEq] at hi; subst hi; intro h; cases h)
              | (simp at hi)
          case hlo => rintro ⟨a', w', h⟩; exact h
          case hwalk =>
            refine' wpAnyH_take (i := 0) (oi := _) (v := _) ?hi1 (by kernel_rfl) (by kernel_rfl) (by kernel_rfl) ?hq1 (Or.inl ⟨?hw1, ?hy1⟩) (by assumption) ?rest1
            case hi1 => (simp only [List.getElem?_toArray, List.getElem?_cons_succ, List.getElem?_cons_zero]; rfl)
            case hq1 => exact fun _ _ _ h => h
            case hw1 => rfl
            case hy1 => (intro wq hSw; (try dsimp only at hSw); go_simp; (try with_reducible rfl))
            (try simp only [Act.put, List.setIfInBounds_toArray, List.set_cons_zero, List.set_cons_succ])
            refine' wpAnyH_take (i := 1) (oi := _) (v := _) ?hi2 (by kernel_rfl) (by kernel_rfl) (by kernel_rfl) ?hq2 (Or.inl ⟨?hw2, ?hy2⟩) (by assumption) ?rest2
            case hi2 => (simp only [List.getElem?_toArray, List.getElem?_cons_succ, List.getElem?_cons_zero]; rfl)
            case hq2 => exact fun _ _ _ h => h
            case hw2 => rfl
            case hy2 => (intro wq hSw; (try dsimp only at hSw); go_simp; (try with_reducible rfl))
            (try simp only [Act.put, List.setIfInBounds_toArray, List.set_cons_zero, List.set_cons_succ])
            refine' wpAnyH_take (i := 2) (oi := _) (v := _) ?hi3 (by kernel_rfl) (by kernel_rfl) (by kernel_rfl) ?hq3 (Or.inl ⟨?hw3, ?hy3⟩) (by assumption) ?rest3
            case hi3 => (simp only [List.getElem?_toArray, List.getElem?_cons_succ, List.getElem?_cons_zero]; rfl)
            case hq3 => exact fun _ _ _ h => h
            case hw3 => rfl
            case hy3 => (intro wq hSw; (try dsimp only at hSw); go_simp; (try with_reducible rfl))
            (try simp only [Act.put, List.setIfInBounds_toArray, List.set_cons_zero, List.set_cons_succ])
            refine' wpAnyH_take (i := 3) (oi := _) (v := _) ?hi4 (by kernel_rfl) (by kernel_rfl) (by kernel_rfl) ?hq4 (Or.inl ⟨?hw4, ?hy4⟩) (by assumption) ?rest4
            case hi4 => (simp only [List.getElem?_toArray, List.getElem?_cons_succ, List.getElem?_cons_zero]; rfl)
            case hq4 => exact fun _ _ _ h => h
            case hw4 => rfl
            case hy4 => (intro wq hSw; (try dsimp only at hSw); go_simp; (try with_reducible rfl))
            (try simp only [Act.put, List.setIfInBounds_toArray, List.set_cons_zero, List.set_cons_succ])
            refine' wpAnyH_take (i := 4) (oi := _) (v := _) ?hi5 (by kernel_rfl) (by kernel_rfl) (by kernel_rfl) ?hq5 (Or.inl ⟨?hw5, ?hy5⟩) (by assumption) ?rest5
            case hi5 => (simp only [List.getElem?_toArray, List.getElem?_cons_succ, List.getElem?_cons_zero]; rfl)
            case hq5 => exact fun _ _ _ h => h
            case hw5 => rfl
            case hy5 => (intro wq hSw; (try dsimp only at hSw); go_simp; (try with_reducible rfl))
            (try simp only [Act.put, List.setIfInBounds_toArray, List.set_cons_zero, List.set_cons_succ])
            refine' wpAnyH_take (i := 5) (oi := _) (v := _) ?hi6 (by kernel_rfl) (by kernel_rfl) (by kernel_rfl) ?hq6 (Or.inl ⟨?hw6, ?hy6⟩) (by assumption) ?rest6
            case hi6 => (simp only [List.getElem?_toArray, List.getElem?_cons_succ, List.getElem?_cons_zero]; rfl)
            case hq6 => exact fun _ _ _ h => h
            case hw6 => rfl
            case hy6 => (intro wq hSw; (try dsimp only at hSw); go_simp; (try with_reducible rfl))
            (try simp only [Act.put, List.setIfInBounds_toArray, List.set_cons_zero, List.set_cons_succ])
            refine' wpAnyH_take (i := 6) (oi := _) (v := _) ?hi7 (by kernel_rfl) (by kernel_rfl) (by kernel_rfl) ?hq7 (Or.inl ⟨?hw7, ?hy7⟩) (by assumption) ?rest7
            case hi7 => (simp only [List.getElem?_toArray, List.getElem?_cons_succ, List.getElem?_cons_zero]; rfl)
            case hq7 => exact fun _ _ _ h => h
            case hw7 => rfl
            case hy7 => (intro wq hSw; (try dsimp only at hSw); go_simp; (try with_reducible rfl))
            (try simp only [Act.put, List.setIfInBounds_toArray, List.set_cons_zero, List.set_cons_succ])
            refine wpAnyH_ready (rs := [7]) (by kernel_rfl) (by simp) ?_
            refine' AllReadyH.cons (o := _) ?hi8 (fun K hK => ?rest8) AllReadyH.nil
            case hi8 => (simp only [List.getElem?_toArray, List.getElem?_cons_succ, List.getElem?_cons_zero]; rfl)
            go_simp
            go_at_call 33
            refine (HUF.out V.drew (HRp.out V.drew HSd.out.1.1) HRbd.out.1).mono ?_
            rintro e V4 ⟨v4, rfl, hO4, hB4⟩
            obtain ⟨g4, c4, rfl, hg41, hg42⟩ := hO4.form (by rw [HrL.out]; exact hn1)
            rw [HrL.out] at hO4 ⊢
            have HS4 := Lib.hid (GA.call HSd.out hB4)
            have HR4 := Lib.hid (Rsp.new hO4 (fun g hg => (HSd.out.own.lt g hg).2))
            have HB4 := Lib.hid hB4
            have Hg4 : Hid (V.heap.size ≤ g4) := Lib.hid hg41
            clear hO4 hB4 q1 q11 q6 hg41 hg42
            have q1 := (HS4.out.1.1.cell (p := ⟨b, ad, none⟩) hb).trans xw
            have q11 := cell_of_row _ b11 0 _ _ _ (HS4.out.1.bx (g := b11) (T := 23) (cs := #[.slice Ab n cb]) (by simp))
            have q6 := cell_of_row _ b6 0 _ _ _ (HS4.out.1.bx (g := b6) (T := 3) (cs := #[.int .i64 (P : Int)]) (by simp))
            go_wp2_with fail
            refine hK.out _ _ (by (try dsimp only); exact ⟨q1, q11, q6⟩) (fun hHeld => ?_)
            clear hK K
            (try simp only [Act.put, List.setIfInBounds_toArray, List.set_cons_zero, List.set_cons_succ])
            refine' wpAnyH_take (i := 8) (oi := _) (v := _) ?hi9 (by kernel_rfl) (by kernel_rfl) (by kernel_rfl) ?hq9 (Or.inl ⟨?hw9, ?hy9⟩) (by assumption) ?rest9
            case hi9 => (simp only [List.getElem?_toArray, List.getElem?_cons_succ, List.getElem?_cons_zero]; rfl)
            case hq9 => exact fun _ _ _ h => h
            case hw9 => rfl
            case hy9 => (intro wq hSw; (try dsimp only at hSw); go_simp; (try with_reducible rfl))
            (try simp only [Act.put, List.setIfInBounds_toArray, List.set_cons_zero, List.set_cons_succ])
            refine wpAnyH_done (by kernel_rfl) ?_ _
            have c12 : V4.cell? ⟨b12, 0, none⟩ = some v := cell_of_row V4 b12 0 _ _ _ (HS4.out.1.bx (g := b12) (T := 23) (cs := #[v]) (by simp))
            clear q1 q11 q6 xw k1 k3 k4 k5
            have hbb := Hbb.out
            have hne1112 : ¬ b11 = b12 := by omega
            refine hKc _ _ ?_
            clear hKc Kc
            have heq : ∀ w : World, (binOp .eql 23 (.slice (some ⟨g4, 0, none⟩) n c4) (.slice none 0 0)).run Try.prog w = .ok (.bool false) w := fun _ => rfl
            gi_wp2_with (gi_at_builtin; refine wpListIn_appF rfl (.tmp 51) (.tmp 52) rfl wc.heap.size v L0 rfl HS4.out.own (some ⟨g4, 0, none⟩) n c4 _ rr rfl HrL.out.symm (by rw [HrL.out]; exact hn1) HR4.out.1 (by have := HLen.out; rw [HrL.out]; omega) HS4.out.bs ?_; intro v5 V5 hO5 hG5 hf5; obtain ⟨A5, c5, rfl, _⟩ := hO5.slice; obtain ⟨n5, hn5⟩ : ∃ n5, n5 = (L0 ++ rr).length := ⟨_, rfl⟩; rw [← hn5] at hO5 hf5 ⊢; clear hn5; have hS5 := GA.app HS4.out hO5 hG5; have f12 := frozen_of_row V5 b12 0 _ _ (hS5.1.bx (g := b12) (T := 23) (cs := #[v]) (by simp)); have f11 := frozen_of_row V5 b11 0 _ _ (hS5.1.bx (g := b11) (T := 23) (cs := #[.slice Ab n cb]) (by simp)); have c12b : V5.cell? ⟨b12, 0, none⟩ = some v := cell_of_row V5 b12 0 _ _ _ (hS5.1.bx (g := b12) (T := 23) (cs := #[v]) (by simp)); have c11b : V5.cell? ⟨b11, 0, none⟩ = some (.slice Ab n cb) := cell_of_row V5 b11 0 _ _ _ (hS5.1.bx (g := b11) (T := 23) (cs := #[.slice Ab n cb]) (by simp)))
            have hS6 := GR.put1 (L1 := [⟨bz, 3, #[.int .i64 (n1 : Int)]⟩, ⟨bs, 23, #[.slice (some ⟨b, off, none⟩) T c]⟩]) (y := .slice A5 n5 c5) hS5
            have hS7 := GR.put1 (L1 := [⟨bz, 3, #[.int .i64 (n1 : Int)]⟩, ⟨bs, 23, #[.slice (some ⟨b, off, none⟩) T c]⟩, ⟨b12, 23, #[.slice A5 n5 c5]⟩]) (y := .slice (some ⟨g4, 0, none⟩) n c4) hS6
            have hVw : wc.heap.size ≤ V.heap.size := HSd.out.bs
            have hg4 := Hg4.out
            have hR7 := ((HR4.out.app hG5 hf5).put (g := b12) (fun a ha => by injection ha with ha; subst ha; show g4 ≠ b12; omega) (.slice A5 n5 c5)).put (g := b11) (fun a ha => by injection ha with ha; subst ha; show g4 ≠ b11; omega) (.slice (some ⟨g4, 0, none⟩) n c4)
            have hKf := ((KeepsOthers.drew V).from wc.heap.size).trans ((keepsBel (B := wc.heap.size) HB4.out).trans ((GR.keeps (B := wc.heap.size) HS4.out hG5).trans (((KeepsOthers.setCell V5 ⟨b12, 0, none⟩ (.slice A5 n5 c5)).from wc.heap.size).trans ((KeepsOthers.setCell (V5.setCell ⟨b12, 0, none⟩ (.slice A5 n5 c5)) ⟨b11, 0, none⟩ (.slice (some ⟨g4, 0, none⟩) n c4)).from wc.heap.size))))
            exact ⟨hKf, ⟨fun _ => hS7.1.bx (g := bs) (T := 23) (cs := #[.slice (some ⟨b, off, none⟩) T c]) (by simp), fun _ => hS7.1.bx (g := bz) (T := 3) (cs := #[.int .i64 (n1 : Int)]) (by simp)⟩, ⟨.slice A5 n5 c5, some ⟨g4, 0, none⟩, c4, by rw [HSn.out]; exact hS7, by rw [HSn.out]; exact hR7, fun a ha => by injection ha with ha; subst ha; exact ⟨by show g4 ≠ b11; omega, by show g4 ≠ b12; omega⟩, fun z hz => by rcases List.mem_append.1 hz with h | h; exact Hok.out z h; rw [List.mem_singleton.1 h]; exact Hpk.out⟩⟩
        case neg =>
          have HUN : Hid (∀ u, Rds .i64 u u.heap.size (some ⟨b, ad + 1, none⟩) pr → Rds .i64 u u.heap.size Ab bf → Calls Try.prog 33 #[.int .i64 kd, .slice (some ⟨b, ad + 1, none⟩) n n, .slice Ab n cb, .int .i64 (P : Int)] u (fun e w' => e = .returned (.slice none 0 0) ∧ Below u.heap.size u w')) := Lib.hid (fun u h1 h2 => by
            have hp2 := HP.out
            have hno : ¬ (0 ≤ kd ∧ kd ≤ 4) ∨ rok pr bf (P : Int) = false := by
              by_cases hk : 0 ≤ kd ∧ kd ≤ 4
              · right
                cases hr : rok pr bf (P : Int)
                · rfl
                · obtain ⟨_, _, _, _, _, _, hbx, _⟩ := rok_parts hr
                  exact absurd (by rw [hp2, decide_eq_true hk, Bool.true_and]; exact decide_eq_true (of_byt hbx)) hpk
              · exact .inl hk
            have h := i_UnfilterRow_nil kd (some ⟨b, ad + 1, none⟩) Ab n cb pr bf P u h1 h2 (by omega) (by omega) hno
            rw [hpl, hf2] at h
            exact h)
          have Hpk : Hid (ptOk n l x.val = false) := Lib.hid (by cases h : ptOk n l x.val; rfl; exact absurd h hpk)
          clear hG hRb hAb hok hf1 hf2 hf3 hpl hpk hkd hpr hL0 hbf hrr HSn0 had hend hlt hxl
          gi_wp2_with fail
          rename_i Qc Kc hKc
          refine region_round_held (S := (fun w' => w'.cell? ⟨b, ad, none⟩ = some (.int .i64 kd) ∧ w'.cell? ⟨b11, 0, none⟩ = some (.slice Ab n cb) ∧ w'.cell? ⟨b6, 0, none⟩ = some (.int .i64 (P : Int)))) (by kernel_rfl) ?hnd ?hlo (by exact ⟨q1, q11, q6⟩) (fun hHeld => ?hwalk)
          case hnd =>
            intro i o cc hi
            rcases i with _ | _ | _ | _ | _ | _ | _ | _ | _ | i
            all_goals first
              | (simp only [List.getElem?_toArray, List.getElem?_cons_succ, List.getElem?_cons_zero, Option.some.injEq] at hi; subst hi; intro h; cases h)
              | (simp at hi)
          case hlo => rintro ⟨a', w', h⟩; exact h
          case hwalk =>
            refine' wpAnyH_take (i := 0) (oi := _) (v := _) ?hi10 (by kernel_rfl) (by kernel_rfl) (by kernel_rfl) ?hq10 (Or.inl ⟨?hw10, ?hy10⟩) (by assumption) ?rest10
            case hi10 => (simp only [List.getElem?_toArray, List.getElem?_cons_succ, List.getElem?_cons_zero]; rfl)
            case hq10 => exact fun _ _ _ h => h
            case hw10 => rfl
            case hy10 => (intro wq hSw; (try dsimp only at hSw); go_simp; (try with_reducible rfl))
            (try simp only [Act.put, List.setIfInBounds_toArray, List.set_cons_zero, List.set_cons_succ])
            refine' wpAnyH_take (i := 1) (oi := _) (v := _) ?hi11 (by kernel_rfl) (by kernel_rfl) (by kernel_rfl) ?hq11 (Or.inl ⟨?hw11, ?hy11⟩) (by assumption) ?rest11
            case hi11 => (simp only [List.getElem?_toArray, List.getElem?_cons_succ, List.getElem?_cons_zero]; rfl)
            case hq11 => exact fun _ _ _ h => h
            case hw11 => rfl
            case hy11 => (intro wq hSw; (try dsimp only at hSw); go_simp; (try with_reducible rfl))
            (try simp only [Act.put, List.setIfInBounds_toArray, List.set_cons_zero, List.set_cons_succ])
            refine' wpAnyH_take (i := 2) (oi := _) (v := _) ?hi12 (by kernel_rfl) (by kernel_rfl) (by kernel_rfl) ?hq12 (Or.inl ⟨?hw12, ?hy12⟩) (by assumption) ?rest12
            case hi12 => (simp only [List.getElem?_toArray, List.getElem?_cons_succ, List.getElem?_cons_zero]; rfl)
            case hq12 => exact fun _ _ _ h => h
            case hw12 => rfl
            case hy12 => (intro wq hSw; (try dsimp only at hSw); go_simp; (try with_reducible rfl))
            (try simp only [Act.put, List.setIfInBounds_toArray, List.set_cons_zero, List.set_cons_succ])
            refine' wpAnyH_take (i := 3) (oi := _) (v := _) ?hi13 (by kernel_rfl) (by kernel_rfl) (by kernel_rfl) ?hq13 (Or.inl ⟨?hw13, ?hy13⟩) (by assumption) ?rest13
            case hi13 => (simp only [List.getElem?_toArray, List.getElem?_cons_succ, List.getElem?_cons_zero]; rfl)
            case hq13 => exact fun _ _ _ h => h
            case hw13 => rfl
            case hy13 => (intro wq hSw; (try dsimp only at hSw); go_simp; (try with_reducible rfl))
            (try simp only [Act.put, List.setIfInBounds_toArray, List.set_cons_zero, List.set_cons_succ])
            refine' wpAnyH_take (i := 4) (oi := _) (v := _) ?hi14 (by kernel_rfl) (by kernel_rfl) (by kernel_rfl) ?hq14 (Or.inl ⟨?hw14, ?hy14⟩) (by assumption) ?rest14
            case hi14 => (simp only [List.getElem?_toArray, List.getElem?_cons_succ, List.getElem?_cons_zero]; rfl)
            case hq14 => exact fun _ _ _ h => h
            case hw14 => rfl
            case hy14 => (intro wq hSw; (try dsimp only at hSw); go_simp; (try with_reducible rfl))
            (try simp only [Act.put, List.setIfInBounds_toArray, List.set_cons_zero, List.set_cons_succ])
            refine' wpAnyH_take (i := 5) (oi := _) (v := _) ?hi15 (by kernel_rfl) (by kernel_rfl) (by kernel_rfl) ?hq15 (Or.inl ⟨?hw15, ?hy15⟩) (by assumption) ?rest15
            case hi15 => (simp only [List.getElem?_toArray, List.getElem?_cons_succ, List.getElem?_cons_zero]; rfl)
            case hq15 => exact fun _ _ _ h => h
            case hw15 => rfl
            case hy15 => (intro wq hSw; (try dsimp only at hSw); go_simp; (try with_reducible rfl))
            (try simp only [Act.put, List.setIfInBounds_toArray, List.set_cons_zero, List.set_cons_succ])
            refine' wpAnyH_take (i := 6) (oi := _) (v := _) ?hi16 (by kernel_rfl) (by kernel_rfl) (by kernel_rfl) ?hq16 (Or.inl ⟨?hw16, ?hy16⟩) (by assumption) ?rest16
            case hi16 => (simp only [List.getElem?_toArray, List.getElem?_cons_succ, List.getElem?_cons_zero]; rfl)
            case hq16 => exact fun _ _ _ h => h
            case hw16 => rfl
            case hy16 => (intro wq hSw; (try dsimp only at hSw); go_simp; (try with_reducible rfl))
            (try simp only [Act.put, List.setIfInBounds_toArray, List.set_cons_zero, List.set_cons_succ])
            refine wpAnyH_ready (rs := [7]) (by kernel_rfl) (by simp) ?_
            refine' AllReadyH.cons (o := _) ?hi17 (fun K hK => ?rest17) AllReadyH.nil
            case hi17 => (simp only [List.getElem?_toArray, List.getElem?_cons_succ, List.getElem?_cons_zero]; rfl)
            go_simp
            go_at_call 33
            refine (HUN.out V.drew (HRp.out V.drew HSd.out.1.1) HRbd.out.1).mono ?_
            rintro e V4 ⟨rfl, hB4⟩
            have HS4 := Lib.hid (GA.call HSd.out hB4)
            have HB4 := Lib.hid hB4
            clear hB4 q1 q11 q6
            have q1 := (HS4.out.1.1.cell (p := ⟨b, ad, none⟩) hb).trans xw
            have q11 := cell_of_row _ b11 0 _ _ _ (HS4.out.1.bx (g := b11) (T := 23) (cs := #[.slice Ab n cb]) (by simp))
            have q6 := cell_of_row _ b6 0 _ _ _ (HS4.out.1.bx (g := b6) (T := 3) (cs := #[.int .i64 (P : Int)]) (by simp))
            go_wp2_with fail
            refine hK.out _ _ (by (try dsimp only); exact ⟨q1, q11, q6⟩) (fun hHeld => ?_)
            clear hK K
            (try simp only [Act.put, List.setIfInBounds_toArray, List.set_cons_zero, List.set_cons_succ])
            refine' wpAnyH_take (i := 8) (oi := _) (v := _) ?hi18 (by kernel_rfl) (by kernel_rfl) (by kernel_rfl) ?hq18 (Or.inl ⟨?hw18, ?hy18⟩) (by assumption) ?rest18
            case hi18 => (simp only [List.getElem?_toArray, List.getElem?_cons_succ, List.getElem?_cons_zero]; rfl)
            case hq18 => exact fun _ _ _ h => h
            case hw18 => rfl
            case hy18 => (intro wq hSw; (try dsimp only at hSw); go_simp; (try with_reducible rfl))
            (try simp only [Act.put, List.setIfInBounds_toArray, List.set_cons_zero, List.set_cons_succ])
            refine wpAnyH_done (by kernel_rfl) ?_ _
            have r8 := HS4.out.1.c4 (g := b8) (T := 25) (a0 := .int .i64 0) (a1 := .int .i64 0) (a2 := .int .i64 0) (a3 := .slice none 0 0) (by simp)
            obtain ⟨r0, r1, r2, r3⟩ := r8
            have r9 : V4.cell? ⟨b9, 0, none⟩ = some (.bool false) := cell_of_row _ b9 0 _ _ _ (HS4.out.1.bx (g := b9) (T := 4) (cs := #[.bool false]) (by simp))
            have f0 := HS4.out.1.fz (g := b8) (T := 25) (cs := #[.int .i64 0, .int .i64 0, .int .i64 0, .slice none 0 0]) (by simp) 0
            have f1 := HS4.out.1.fz (g := b8) (T := 25) (cs := #[.int .i64 0, .int .i64 0, .int .i64 0, .slice none 0 0]) (by simp) 1
            have f2 := HS4.out.1.fz (g := b8) (T := 25) (cs := #[.int .i64 0, .int .i64 0, .int .i64 0, .slice none 0 0]) (by simp) 2
            have f3 := HS4.out.1.fz (g := b8) (T := 25) (cs := #[.int .i64 0, .int .i64 0, .int .i64 0, .slice none 0 0]) (by simp) 3
            have f9 := HS4.out.1.fz (g := b9) (T := 4) (cs := #[.bool false]) (by simp) 0
            obtain ⟨p8, p9, pB⟩ := uf_stop (HS4.out.1.bx (g := b8) (T := 25) (cs := #[.int .i64 0, .int .i64 0, .int .i64 0, .slice none 0 0]) (by simp)) (HS4.out.1.bx (g := b9) (T := 4) (cs := #[.bool false]) (by simp)) HS4.out.1.1 h8 h9 h89 (.int .i64 0) (.int .i64 0) (.int .i64 0) (.slice none 0 0) (.bool false)
            have HP8 := Lib.hid p8
            have HP9 := Lib.hid p9
            have HPB := Lib.hid pB
            clear p8 p9 pB q1 q11 q6 xw k1 k3 k4 k5
            refine hKc _ _ ?_
            clear hKc Kc
            have heq : ∀ w : World, (binOp .eql 23 (.slice none 0 0) (.slice none 0 0)).run Try.prog w = .ok (.bool true) w := fun _ => rfl
            gi_wp2
            exact ⟨((KeepsOthers.drew V).from wc.heap.size).trans ((keepsBel (B := wc.heap.size) HB4.out).trans (((KeepsOthers.setCell _ _ _).from _).trans (((KeepsOthers.setCell _ _ _).from _).trans (((KeepsOthers.setCell _ _ _).from _).trans (((KeepsOthers.setCell _ _ _).from _).trans ((KeepsOthers.setCell _ _ _).from _)))))), rfl, HP8.out, HP9.out, HPB.out, x, by simp, Hpk.out⟩
end Go.Proofs.Ytolifmgkkkclkaa
