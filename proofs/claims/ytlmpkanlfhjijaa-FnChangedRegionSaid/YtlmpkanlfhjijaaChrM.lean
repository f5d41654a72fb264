/- Contracts of ChangedRegion, in the model and in the program (over the merged text). -/
import Derived.Test.YtlmpkanlfhjijaaMgR
import Derived.Test.YtlmpkanlfhjijaaGap
import Derived.Test.YtlmpkanlfhjijaaSpecP
import Derived.Deep.Cut
import Derived.Deep.RegionHeld3
namespace Go.Proofs.Ytlmpkanlfhjijaa
open Go.RowKit Go.Shelf
set_option linter.unusedSimpArgs false
set_option linter.unusedVariables false
set_option maxRecDepth 20000

/-- Whether two images differ at a pixel. -/
def chF (W P : Nat) (xs ys : List Int) (x y : Nat) : Bool := !decide (pxl W P xs x y = pxl W P ys x y)
def chG (W H P : Nat) (xs ys : List Int) (x y : Nat) : Bool := decide (x < W) && (decide (y < H) && chF W P xs ys x y)
theorem pxl_eq_iff {W P : Nat} {xs ys : List Int} {x y : Nat} (hP : P ≤ 4) : (pxc W P xs x y 0 = pxc W P ys x y 0 ∧ pxc W P xs x y 1 = pxc W P ys x y 1 ∧ pxc W P xs x y 2 = pxc W P ys x y 2 ∧ pxc W P xs x y 3 = pxc W P ys x y 3) ↔ pxl W P xs x y = pxl W P ys x y := by
  constructor
  · rintro ⟨h0, h1, h2, h3⟩
    apply List.ext_getElem
    · rw [pxl_len, pxl_len]
    · intro i hi hi'
      have hiP : i < P := by rw [pxl_len] at hi; exact hi
      have key : (pxl W P xs x y).getD i 0 = (pxl W P ys x y).getD i 0 := by
        rcases (show i = 0 ∨ i = 1 ∨ i = 2 ∨ i = 3 by omega) with e | e | e | e
        · subst e; exact h0
        · subst e; exact h1
        · subst e; exact h2
        · subst e; exact h3
      simpa [List.getD_eq_getElem?_getD, hi, hi'] using key
  · intro h
    unfold pxc
    rw [h]
    exact ⟨rfl, rfl, rfl, rfl⟩
theorem GS.swapC {W0 w : World} {L : List Rg} {a b : Bxg} {Bs : List Bxg} (h : GS W0 w L (a :: b :: Bs)) : GS W0 w L (b :: a :: Bs) := by
  have hp := List.pairwise_cons.1 h.2.2.2.2
  have hq := List.pairwise_cons.1 hp.2
  refine ⟨h.1, h.2.1, h.2.2.1, fun c hc => h.2.2.2.1 c ?_, .cons (fun c hc => ?_) (.cons (fun c hc => hp.1 c (List.mem_cons_of_mem _ hc)) hq.2)⟩
  · rcases List.mem_cons.1 hc with rfl | hc
    · exact List.mem_cons_of_mem _ List.mem_cons_self
    · rcases List.mem_cons.1 hc with rfl | hc
      · exact List.mem_cons_self
      · exact List.mem_cons_of_mem _ (List.mem_cons_of_mem _ hc)
  · rcases List.mem_cons.1 hc with rfl | hc
    · exact (hp.1 b List.mem_cons_self).symm
    · exact hq.1 c hc
theorem GS.fill3C {W0 w : World} {L : List Rg} {Bs : List Bxg} {g : Nat} {T : TypeId} {a0 a1 a2 : Value} (h : GS W0 w L (⟨g, T, #[a0, a1, a2]⟩ :: Bs)) (c0 c1 c2 : Value) :
    GS W0 (((w.setCell ⟨g, 0, none⟩ c0).setCell ⟨g, 1, none⟩ c1).setCell ⟨g, 2, none⟩ c2) L (⟨g, T, #[c0, c1, c2]⟩ :: Bs) := by
  have hb := h.bx (List.Mem.head _)
  have h1 := heap_setCell_same w g 0 _ T c0 hb
  have h2 := heap_setCell_same _ g 1 _ T c1 h1
  have h3 := heap_setCell_same _ g 2 _ T c2 h2
  exact h.fill (by simpa [Bx] using h3) (grown_set3 w g c0 c1 c2)
theorem sc3C {u : World} {a b o : Nat} (h : a ≠ b) (v0 v1 v2 : Value) : (((u.setCell ⟨b, 0, none⟩ v0).setCell ⟨b, 1, none⟩ v1).setCell ⟨b, 2, none⟩ v2).cell? ⟨a, o, none⟩ = u.cell? ⟨a, o, none⟩ := by
  have e : ∀ (w : World) (i : Nat) (u : Value), (w.setCell ⟨b, i, none⟩ u).cell? ⟨a, o, none⟩ = w.cell? ⟨a, o, none⟩ := fun w i u => World.cell?_setCell_other w ⟨b, i, none⟩ ⟨a, o, none⟩ u (fun e => h (by injection e with e1; exact e1.symm))
  rw [e, e, e]
theorem al1C {u : World} {a o : Nat} (h : a < u.heap.size) (ob : Obj) : (u.alloc ob).cell? ⟨a, o, none⟩ = u.cell? ⟨a, o, none⟩ :=
  World.cell?_of_block ((World.grownBy_alloc u ob none).block a h (by simp))
theorem below2C {u X u3 : World} (h : Below u.heap.size u X) (hB : Below X.heap.size X u3) : Below u.heap.size u u3 ∧ u.heap.size ≤ X.heap.size := ⟨h.trans (hB.mono h.size), h.size⟩
/-- The grid among the state's boxes: a bool is written. -/
def gbx (g : Nat) (gs : List Bool) : Bxg := ⟨g, 4, (gs.map Value.bool).toArray⟩
theorem GS.gput {W0 w : World} {L : List Rg} {Bs : List Bxg} {g : Nat} {gs : List Bool} (h : GS W0 w L (gbx g gs :: Bs)) (j : Nat) (b : Bool) : GS W0 (w.setCell ⟨g, j, none⟩ (.bool b)) L (gbx g (gs.set j b) :: Bs) :=
  h.fill (GB.put (show GB w g gs from h.bx (List.Mem.head _)) j b) (grown_set w g j _)
theorem GS.gcell {W0 w : World} {L : List Rg} {Bs : List Bxg} {g : Nat} {gs : List Bool} (h : GS W0 w L (gbx g gs :: Bs)) {j : Nat} (hj : j < gs.length) : w.cell? ⟨g, j, none⟩ = some (.bool (gs.getD j false)) := GB.cell (show GB w g gs from h.bx (List.Mem.head _)) hj
theorem GS.gfz {W0 w : World} {L : List Rg} {Bs : List Bxg} {g : Nat} {gs : List Bool} (h : GS W0 w L (gbx g gs :: Bs)) (j : Nat) : w.frozen? ⟨g, j, none⟩ = false := GB.frozen (show GB w g gs from h.bx (List.Mem.head _)) j
theorem GS.glt {W0 w : World} {L : List Rg} {Bs : List Bxg} {g : Nat} {gs : List Bool} (h : GS W0 w L (gbx g gs :: Bs)) : g < w.heap.size := h.lt (List.Mem.head _)
/-- A list of bools as a function. -/
def fn (gs : List Bool) (F : Nat → Bool) : Prop := gs.length = 256 ∧ ∀ j, j < 256 → gs.getD j false = F j
theorem fn.zero : fn (List.replicate 256 false) (fun _ => false) := ⟨by simp, fun j hj => by rw [List.getD_eq_getElem?_getD, List.getElem?_replicate]; split <;> rfl⟩
theorem fn.congr {gs : List Bool} {F F' : Nat → Bool} (h : fn gs F) (he : ∀ j, j < 256 → F j = F' j) : fn gs F' := ⟨h.1, fun j hj => (h.2 j hj).trans (he j hj)⟩
theorem fn.put {gs : List Bool} {F F' : Nat → Bool} (h : fn gs F) {j0 : Nat} (hj : j0 < 256) (b : Bool) (h1 : F' j0 = b) (h2 : ∀ j, j < 256 → j ≠ j0 → F' j = F j) : fn (gs.set j0 b) F' := by
  refine ⟨by simpa using h.1, fun j hj' => ?_⟩
  by_cases e : j = j0
  · subst e
    have := h.1
    rw [h1]; simp [List.getD_eq_getElem?_getD, this, hj']
  · rw [h2 j hj' e, ← h.2 j hj']
    simp [List.getD_eq_getElem?_getD, List.getElem?_set, Ne.symm e]
theorem GS.gnew {W0 w : World} {L : List Rg} {Bs : List Bxg} (h : GS W0 w L Bs) : GS W0 (w.alloc (.cells gz 4)) L (gbx w.heap.size (List.replicate 256 false) :: Bs) := h.box _ _
set_option maxHeartbeats 16000000 in
theorem s_changed (W H P : Nat) (hW1 : 1 ≤ W) (hW : W ≤ 16) (hH1 : 1 ≤ H) (hH : H ≤ 16) (hP1 : 1 ≤ P) (hP : P ≤ 4) (A A' : Option Addr) (c c' : Nat) (xs ys : List Int) (hxl : xs.length = W * H * P) (hyl : ys.length = W * H * P) (w : World) (hx : Rds .i64 w w.heap.size A xs) (hlc : xs.length ≤ c) (hy : Rds .i64 w w.heap.size A' ys) (hlc' : ys.length ≤ c') :
    Calls Try.prog 59 #[.agg #[.int .i64 (W : Int), .int .i64 (H : Int), .int .i64 (P : Int), .slice A xs.length c], .agg #[.int .i64 (W : Int), .int .i64 (H : Int), .int .i64 (P : Int), .slice A' ys.length c']] w (RunsIf true (chG W H P xs ys) w) := by
  have hmk := make_grid
  have HX := Lib.hid hx
  have HY := Lib.hid hy
  have HXL := Lib.hid hxl
  have HYL := Lib.hid hyl
  have hl1 : xs.length ≤ 1024 := by rw [hxl]; have h1 := Nat.mul_le_mul hW hH; have := Nat.mul_le_mul h1 hP; omega
  have hl2 : ys.length ≤ 1024 := by rw [hyl]; have h1 := Nat.mul_le_mul hW hH; have := Nat.mul_le_mul h1 hP; omega
  have HS0 := Lib.hid (((GS.start w).box' 25 #[.int .i64 (W : Int), .int .i64 (H : Int), .int .i64 (P : Int), .slice A xs.length c] w.heap.size (by simp)).box' 25 #[.int .i64 (W : Int), .int .i64 (H : Int), .int .i64 (P : Int), .slice A' ys.length c'] (w.heap.size + 1) (by simp)).gnew
  have HZ : Hid (((w.alloc (.cells #[.int .i64 (W : Int), .int .i64 (H : Int), .int .i64 (P : Int), .slice A xs.length c] 25)).alloc (.cells #[.int .i64 (W : Int), .int .i64 (H : Int), .int .i64 (P : Int), .slice A' ys.length c'] 25)).heap.size = w.heap.size + 1 + 1) := Lib.hid (by simp)
  rw [HZ.out] at HS0
  clear hx hy hxl hyl
  go_enter Try.func59, Try.ntmps59
  go_wp2
  clear hmk
  generalize ((w.alloc (.cells #[.int .i64 (W : Int), .int .i64 (H : Int), .int .i64 (P : Int), .slice A xs.length c] 25)).alloc (.cells #[.int .i64 (W : Int), .int .i64 (H : Int), .int .i64 (P : Int), .slice A' ys.length c'] 25)).alloc (.cells gz 4) = u at *
  obtain ⟨g, hg⟩ : ∃ g, g = w.heap.size + 1 + 1 := ⟨_, rfl⟩
  rw [← hg] at HS0
  (try rw [← hg])
  clear hg HZ
  go_loopw [6] (fun i wr => ∃ (y : Nat) (gs : List Bool), y ≤ H ∧ i = .int .i64 y ∧ Hid (fn gs (fun j => decide (j / 16 < y) && chG W H P xs ys (j % 16) (j / 16))) ∧ Hid (GS w wr [] [gbx g gs, ⟨w.heap.size + 1, 25, #[.int .i64 (W : Int), .int .i64 (H : Int), .int .i64 (P : Int), .slice A' ys.length c']⟩, ⟨w.heap.size, 25, #[.int .i64 (W : Int), .int .i64 (H : Int), .int .i64 (P : Int), .slice A xs.length c]⟩])) (fun i _ => H - (intOf i).toNat)
  case atStart => exact ⟨0, _, Nat.zero_le _, rfl, Lib.hid (fn.zero.congr fun j hj => by simp), HS0⟩
  case round =>
    clear HS0
    obtain ⟨y, gs, hy, rfl, hF, hI⟩ := hrel
    obtain ⟨p0, p1, p2, p3⟩ := hI.out.b1_4
    obtain ⟨m0, m1, m2, m3⟩ := hI.out.b2_4
    by_cases hylt : y < H
    · go_wp2
      clear p0 p1 p2 p3 m0 m1 m2 m3
      go_loopw [7] (fun i wr => ∃ (x : Nat) (gs : List Bool), x ≤ W ∧ i = .int .i64 x ∧ Hid (fn gs (fun j => (decide (j / 16 < y) || (decide (j / 16 = y) && decide (j % 16 < x))) && chG W H P xs ys (j % 16) (j / 16))) ∧ Hid (GS w wr [] [gbx g gs, ⟨w.heap.size + 1, 25, #[.int .i64 (W : Int), .int .i64 (H : Int), .int .i64 (P : Int), .slice A' ys.length c']⟩, ⟨w.heap.size, 25, #[.int .i64 (W : Int), .int .i64 (H : Int), .int .i64 (P : Int), .slice A xs.length c]⟩])) (fun i _ => W - (intOf i).toNat)
      case atStart => exact ⟨0, gs, Nat.zero_le _, rfl, Lib.hid (hF.out.congr fun j hj => by simp), hI⟩
      case round =>
        clear hI hF gs
        obtain ⟨x, gs, hx, rfl, hF, hI⟩ := hrel
        obtain ⟨p0, p1, p2, p3⟩ := hI.out.b1_4
        obtain ⟨m0, m1, m2, m3⟩ := hI.out.b2_4
        by_cases hxlt : x < W
        · obtain ⟨j0, hj0⟩ : ∃ j0, j0 = y * 16 + x := ⟨_, rfl⟩
          have i1 : (y : Int) * 16 + (x : Int) = (j0 : Int) := by rw [hj0]; simp
          have hj1 : j0 < 256 := by omega
          have hjI : (j0 : Int) < 256 := by omega
          have hjI0 : 0 ≤ (j0 : Int) := by omega
          have q1 : IntKind.i64.wrap ((y : Int) * 16) = (y : Int) * 16 := IntWalk.i64_in _ (by omega)
          have q2 : IntKind.i64.wrap (j0 : Int) = (j0 : Int) := IntWalk.i64_in _ (by omega)
          have q3 : (j0 : Int).toNat = j0 := by omega
          have Hj0 := Lib.hid hj0
          have HC := Lib.hid hI.out.drew
          have hgsl := hF.out.1
          obtain ⟨bb, hbb⟩ : ∃ bb, bb = chF W P xs ys x y := ⟨_, rfl⟩
          have HBB : Hid (decide (pxl W P xs x y = pxl W P ys x y) = !bb) := Lib.hid (by rw [hbb]; unfold chF; simp)
          have HFn : Hid (fn (gs.set j0 bb) (fun j => (decide (j / 16 < y) || (decide (j / 16 = y) && decide (j % 16 < x + 1))) && chG W H P xs ys (j % 16) (j / 16))) := Lib.hid (hF.out.put hj1 bb (by
            rw [hj0, show (y * 16 + x) / 16 = y by omega, show (y * 16 + x) % 16 = x by omega, hbb]
            unfold chG
            rw [decide_eq_true hxlt, decide_eq_true hylt, decide_eq_true (show x < x + 1 by omega)]; simp) (fun j hj hne => by
            congr 1
            congr 1
            by_cases e : j / 16 = y
            · rw [decide_eq_true e, Bool.true_and, Bool.true_and]
              exact decide_eq_decide.2 (by omega)
            · rw [decide_eq_false e]; rfl))
          clear hj0 hI hF hbb
          go_upto_region 8 with fail
          clear p0 p1 p2 p3 m0 m1 m2 m3
          go_region_held3 (fun w' => (w'.cell? ⟨w.heap.size, 0, none⟩ = some (.int .i64 (W : Int)) ∧ w'.cell? ⟨w.heap.size, 1, none⟩ = some (.int .i64 (H : Int)) ∧ w'.cell? ⟨w.heap.size, 2, none⟩ = some (.int .i64 (P : Int)) ∧ w'.cell? ⟨w.heap.size, 3, none⟩ = some (.slice A xs.length c)) ∧ (w'.cell? ⟨w.heap.size + 1, 0, none⟩ = some (.int .i64 (W : Int)) ∧ w'.cell? ⟨w.heap.size + 1, 1, none⟩ = some (.int .i64 (H : Int)) ∧ w'.cell? ⟨w.heap.size + 1, 2, none⟩ = some (.int .i64 (P : Int)) ∧ w'.cell? ⟨w.heap.size + 1, 3, none⟩ = some (.slice A' ys.length c')))
            (first | (with_reducible exact ⟨HC.out.b2_4, HC.out.b1_4⟩) | (with_reducible exact ⟨(HC.out.gput _ _).b2_4, (HC.out.gput _ _).b1_4⟩) | (exact ⟨(HC.out.gput _ _).b2_4, (HC.out.gput _ _).b1_4⟩))
            (first
              | (go_at_call 73; (with_reducible refine Calls.mono (pixelAt_any W H P hW hH hP1 hP A c xs HXL.out hlc x y hxlt hylt _ (by exact HC.out.arg HX.out)) ?_); rintro e u3 ⟨v3, rfl, hO3, hB3⟩; obtain ⟨A3, c3, rfl, hc3⟩ := hO3.slice; have HD := Lib.hid (HC.out.add hO3 hB3); clear hO3 hB3 HC; have HC := HD; clear HD)
              | (go_at_call 73; (with_reducible refine Calls.mono (pixelAt_any W H P hW hH hP1 hP A' c' ys HYL.out hlc' x y hxlt hylt _ (by exact HC.out.arg HY.out)) ?_); rintro e u4 ⟨v4, rfl, hO4, hB4⟩; obtain ⟨A4, c4, rfl, hc4⟩ := hO4.slice; have HD := Lib.hid (HC.out.add hO4 hB4); clear hO4 hB4 HC; have HC := HD; clear HD)
              | (go_at_call 93; (refine (sEqualInts_any A3 A4 c3 c4 (pxl W P xs x y) (pxl W P ys x y) _ _ _ HC.out.r1 HC.out.r0 (by rw [pxl_len]; omega) (by rw [pxl_len]; omega)).mono ?_); rintro e u5 ⟨rfl, nq, rfl⟩; rw [HBB.out]; have HD := Lib.hid (HC.out.drewN nq); clear HC; have HC := HD; clear HD; have c0 := HC.out.gcell (j := j0) (by omega); have f0 := HC.out.gfz j0))
          all_goals
            have HN := Lib.hid ((HC.out.gput j0 bb).dropR.dropR)
            clear HC
            go_wp2
            go_roundw
            case rel => exact ⟨x + 1, gs.set j0 bb, by omega, by go_num, HFn, HN⟩
            case measure => simp [intOf]; omega
        · have HFn : Hid (fn gs (fun j => decide (j / 16 < y + 1) && chG W H P xs ys (j % 16) (j / 16))) := Lib.hid (hF.out.congr fun j hj => by
            by_cases e : j / 16 = y
            · rw [decide_eq_true e, decide_eq_true (show j / 16 < y + 1 by omega), decide_eq_false (show ¬ j / 16 < y by omega)]
              by_cases e2 : j % 16 < x
              · rw [decide_eq_true e2]; rfl
              · unfold chG; rw [decide_eq_false e2, decide_eq_false (show ¬ j % 16 < W by omega)]; rfl
            · rw [decide_eq_false e, show decide (j / 16 < y + 1) = decide (j / 16 < y) from decide_eq_decide.2 (by omega)]; simp)
          have hS := Lib.hid hI
          clear hF
          go_wp2
          go_roundw
          case rel => exact ⟨y + 1, gs, by omega, by go_num, HFn, hI⟩
          case measure => simp [intOf]; omega
    · have hgl := hI.out.glt
      have HB := Lib.hid hI.out.below
      have HCl : Hid (∀ a b : Nat, a ≤ 15 → b ≤ 15 → wr.cell? ⟨g, b * 16 + a, none⟩ = some (.bool (chG W H P xs ys a b))) := Lib.hid (fun a b ha hb => by
        have h1 := hF.out.1
        rw [hI.out.gcell (j := b * 16 + a) (by omega), hF.out.2 _ (by omega)]
        show some (Value.bool (decide ((b * 16 + a) / 16 < y) && chG W H P xs ys ((b * 16 + a) % 16) ((b * 16 + a) / 16))) = _
        rw [show (b * 16 + a) % 16 = a by omega, show (b * 16 + a) / 16 = b by omega]
        by_cases e : b < y
        · rw [decide_eq_true e, Bool.true_and]
        · unfold chG; rw [decide_eq_false e, decide_eq_false (show ¬ b < H by omega)]; simp)
      go_wp2_with fail
      clear p0 p1 p2 p3 m0 m1 m2 m3 hF hI
      refine (s_runsOf g 256 (chG W H P xs ys) wr hgl HCl.out).mono ?_
      rintro e w3 hR
      have HE := Lib.hid (RunsIf.yes (w := w) (ok := true) rfl (fun _ _ _ _ => rfl) HB.out hR)
      obtain ⟨v3, rfl, _, _⟩ := hR
      go_wp2
      go_ret
      exact HE.out
set_option maxHeartbeats 8000000 in
theorem s_ChangedRegion (W H P W' H' P' : Int) (A A' : Option Addr) (c c' : Nat) (xs ys : List Int) (w : World) (hx : Rds .i64 w w.heap.size A xs) (hl : xs.length ≤ 2000000) (hlc : xs.length ≤ c) (hy : Rds .i64 w w.heap.size A' ys) (hl' : ys.length ≤ 2000000) (hlc' : ys.length ≤ c') :
    Calls Try.prog 24 #[.agg #[.int .i64 W, .int .i64 H, .int .i64 P, .slice A xs.length c], .agg #[.int .i64 W', .int .i64 H', .int .i64 P', .slice A' ys.length c']] w (RunsIf (cmpB W H P xs W' H' P' ys) (chG W.toNat H.toNat P.toNat xs ys) w) := by
  have HX := Lib.hid hx
  have HY := Lib.hid hy
  clear hx hy
  have S0 := ((GS.start w).box' 25 #[.int .i64 W, .int .i64 H, .int .i64 P, .slice A xs.length c] w.heap.size (by simp)).box' 25 #[.int .i64 W', .int .i64 H', .int .i64 P', .slice A' ys.length c'] (w.heap.size + 1) (by simp)
  go_enter Try.func24, Try.ntmps24
  go_wp2_with fail
  generalize (w.alloc (.cells #[.int .i64 W, .int .i64 H, .int .i64 P, .slice A xs.length c] 25)).alloc (.cells #[.int .i64 W', .int .i64 H', .int .i64 P', .slice A' ys.length c'] 25) = u0 at *
  refine (sCmp_any W H P W' H' P' A A' c c' xs ys u0 (S0.arg HX.out) hl (S0.arg HY.out) hl').mono ?_
  rintro e u1 ⟨rfl, hB⟩
  have S1 := S0.call hB
  clear hB S0
  cases hr : cmpB W H P xs W' H' P' ys
  · go_wp2
    go_ret
    exact RunsIf.no hr S1.below
  · obtain ⟨W, H, P, rfl, rfl, rfl, rfl, rfl, rfl, ⟨hW1, hW⟩, ⟨hH1, hH⟩, ⟨hP1, hP⟩, hln, hln', _, _⟩ := cmpB_nat hr
    have HL1 := Lib.hid hln
    have HL2 := Lib.hid hln'
    have HR := Lib.hid hr
    have HS := Lib.hid S1
    obtain ⟨d0, d1, d2, d3⟩ := S1.b0_4
    obtain ⟨e0, e1, e2, e3⟩ := S1.b1_4
    clear hr hln hln' S1
    go_wp2_with fail
    refine (s_changed W H P hW1 hW hH1 hH hP1 hP A A' c c' xs ys HL1.out HL2.out u1 (HS.out.arg HX.out) hlc (HS.out.arg HY.out) hlc').mono ?_
    rintro e u2 ⟨v2, rfl, hO, hB⟩
    have HE : Hid (OwnT 82 3 u2 w.heap.size v2 (rnN (chG W H P xs ys)) (rnL (chG W H P xs ys)) ∧ Below w.heap.size w u2) := Lib.hid ⟨hO.base_le HS.out.below.size, HS.out.below.trans (hB.mono HS.out.below.size)⟩
    clear HS hO hB d0 d1 d2 d3 e0 e1 e2 e3
    go_wp2
    go_ret
    exact ⟨v2, rfl, by rw [HR.out]; exact HE.out.1, HE.out.2⟩
end Go.Proofs.Ytlmpkanlfhjijaa
