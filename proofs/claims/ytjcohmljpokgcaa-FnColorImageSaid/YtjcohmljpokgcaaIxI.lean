/- IndexImage of the program. -/
import Derived.Test.YtjcohmljpokgcaaNcI
import Derived.Test.YtjcohmljpokgcaaMpc
import Derived.Test.YtjcohmljpokgcaaGridX
import Derived.Test.YtjcohmljpokgcaaInvI
import Derived.Test.YtjcohmljpokgcaaColS
import Derived.Test.YtjcohmljpokgcaaIxM
namespace Go.Proofs.Ytjcohmljpokgcaa
open Go.RowKit Go.Shelf
set_option linter.unusedSimpArgs false
set_option linter.unusedVariables false
set_option maxRecDepth 20000

/-- The state of the rounds of IndexImage: the map, the boxes of grid, map and colors, and the rows behind them. -/
def IxI (W H P n2 mb pg pm pc : Nat) (Ag A6 : Option Addr) (cg c6 : Nat) (xs : List Int) (xss : List (List Int)) (nv : List Int → Int) (k : Nat) (w : World) : Prop :=
  MpI w mb k P nv ∧ Bx w pg 59 #[.int .i64 (W : Int), .int .i64 (H : Int), .slice Ag (W * H) cg] ∧ Bx w pm 70 #[.map (some mb)] ∧ Bx w pc 50 #[.slice A6 n2 c6] ∧ Rds .i64 w mb Ag (img W H 4 (pxc W P xs)) ∧ Rds .i64 w mb A6 (clr xss n2)
section
variable {W H P n2 mb pg pm pc : Nat} {Ag A6 : Option Addr} {cg c6 : Nat} {xs : List Int} {xss : List (List Int)} {nv : List Int → Int} {k : Nat} {w w' : World}
theorem IxI.move (h : IxI W H P n2 mb pg pm pc Ag A6 cg c6 xs xss nv k w) {B : Nat} (hk : ∀ g, g < B → w'.heap[g]? = w.heap[g]?) (h1 : mb < B) (h2 : pg < B) (h3 : pm < B) (h4 : pc < B) : IxI W H P n2 mb pg pm pc Ag A6 cg c6 xs xss nv k w' :=
  ⟨h.1.kept (hk mb h1), (hk pg h2).trans h.2.1, (hk pm h3).trans h.2.2.1, (hk pc h4).trans h.2.2.2.1, h.2.2.2.2.1.keep fun p hp => World.cell?_of_block (hk _ (by omega)), h.2.2.2.2.2.keep fun p hp => World.cell?_of_block (hk _ (by omega))⟩
theorem IxI.moveB (h : IxI W H P n2 mb pg pm pc Ag A6 cg c6 xs xss nv k w) (hB : Below w.heap.size w w') : IxI W H P n2 mb pg pm pc Ag A6 cg c6 xs xss nv k w' :=
  h.move (B := w.heap.size) (fun g hg => hB.block g hg) h.1.lt h.2.1.lt h.2.2.1.lt h.2.2.2.1.lt
theorem IxI.grow (h : IxI W H P n2 mb pg pm pc Ag A6 cg c6 xs xss nv k w) (hG : w.grownBy w' (some mb)) (hM : MpI w' mb (k + 1) P nv) (h1 : pg < mb) (h2 : pc < mb) (h3 : pm ≠ mb) : IxI W H P n2 mb pg pm pc Ag A6 cg c6 xs xss nv (k + 1) w' := by
  have hl := h.1.lt
  have ne : ∀ g, g < w.heap.size → g ≠ mb → w'.heap[g]? = w.heap[g]? := fun g hg hn => hG.block g hg (fun e => by injection e with e; exact hn e)
  exact ⟨hM, (ne pg h.2.1.lt (by omega)).trans h.2.1, (ne pm h.2.2.1.lt h3).trans h.2.2.1, (ne pc h.2.2.2.1.lt (by omega)).trans h.2.2.2.1, h.2.2.2.2.1.keep fun p hp => World.cell?_of_block (ne _ (by omega) (by omega)), h.2.2.2.2.2.keep fun p hp => World.cell?_of_block (ne _ (by omega) (by omega))⟩
theorem IxI.more (h : IxI W H P n2 mb pg pm pc Ag A6 cg c6 xs xss nv k w) : IxI W H P n2 mb pg pm pc Ag A6 cg c6 xs xss nv (k + 1) w := ⟨h.1.mono (Nat.le_succ k), h.2⟩
end
theorem GS.argSSx {W0 w : World} {L : List Rg} {Bs : List Bxg} (h : GS W0 w L Bs) {A : Option Addr} {xss : List (List Int)} (hr : Rdss W0 W0.heap.size A xss) : Rdss w w.heap.size A xss := (hr.below h.1).more h.1.size
theorem wf_small {n : Int} (h : -1000 ≤ n ∧ n ≤ 1000) : (Lit.int .i64 n).wf = true := by
  simp only [Lit.wf, Bool.and_eq_true, decide_eq_true_eq]
  exact ⟨by show -9223372036854775808 ≤ n; omega, by show n ≤ 9223372036854775807; omega⟩
theorem nbI_bd (xss : List (List Int)) (ys : List Int) {n : Nat} (h : n ≤ 16) : -1 ≤ nbI xss ys n ∧ nbI xss ys n ≤ 16 := by
  unfold nbI
  split
  · omega
  · have := ncN_lt xss ys n (by omega); omega
set_option maxHeartbeats 16000000 in
theorem iIx1_any (W H P n2 mb pg pm pc : Nat) (hW : W ≤ 16) (hH : H ≤ 16) (hP : P ≤ 4) (Ag A6 : Option Addr) (cg c6 : Nat) (hcg : W * H ≤ cg) (xs : List Int) (xss : List (List Int)) (hn2 : n2 = xss.length) (h16 : n2 ≤ 16) (hcl : clN xss P xss.length) (hxl : xs.length = W * H * P) (hby : ∀ j, j < xs.length → 0 ≤ xs.getD j 0 ∧ xs.getD j 0 ≤ 255) (hpgm : pg < mb) (hpcm : pc < mb) (hpmm : pm ≠ mb) (x y k : Nat) (hx : x < W) (hy : y < H) (hk : k ≤ 100000) (w : World) (h : IxI W H P n2 mb pg pm pc Ag A6 cg c6 xs xss (fun ys => nbI xss ys n2) k w) :
    Calls Try.prog 42 (#[.int .i64 (x : Int), .int .i64 (y : Int)] ++ #[.pointer (some ⟨pg, 0, none⟩), .pointer (some ⟨pm, 0, none⟩), .pointer (some ⟨pc, 0, none⟩)]) w fun e w' => e = .returned (.int .i64 (nbI xss (pxl W P xs x y) n2)) ∧ IxI W H P n2 mb pg pm pc Ag A6 cg c6 xs xss (fun ys => nbI xss ys n2) (k + 1) w' ∧ w.grownBy w' (some mb) := by
  obtain ⟨ys, hys⟩ : ∃ ys, ys = pxl W P xs x y := ⟨_, rfl⟩
  have HLy : Hid (ys.length = P) := Lib.hid (by rw [hys]; exact pxl_len ..)
  have HYb : Hid (allB 0 255 ys = true) := Lib.hid (by
    rw [hys]
    refine allB_yes (fun j hj => ?_)
    rw [pxl_len] at hj
    rw [pxl_get _ _ _ _ _ _ hj]
    exact hby _ (by rw [hxl]; exact pix_lt hx hy hj))
  obtain ⟨n, hn⟩ : ∃ n, W * H = n := ⟨_, rfl⟩
  have HAT := Lib.hid (at_n W H n hn hW hH Ag cg (pxc W P xs) x y hx hy w (h.2.2.2.2.1.more (Nat.le_of_lt h.1.lt)) (by omega))
  have hF : ∀ p, pxc W P xs x y p = ys.getD p 0 := fun p => by rw [hys]; rfl
  obtain ⟨g0, g1, g2⟩ := bx3 h.2.1
  obtain ⟨v, hv⟩ : ∃ v, nbI xss ys n2 = v := ⟨_, rfl⟩
  have HNv := Lib.hid hv
  have HWf : Hid ((Lit.int .i64 (nbI xss ys n2)).wf = true) := Lib.hid (wf_small (by have := nbI_bd xss ys h16; omega))
  have HI := Lib.hid h
  have HCl := Lib.hid hcl
  have Hn2 := Lib.hid hn2
  rw [← hys, hv]
  rw [hn] at g2
  clear hys h hcl hn2 hv hby hxl
  show Calls Try.prog 42 #[.int .i64 (x : Int), .int .i64 (y : Int), .pointer (some ⟨pg, 0, none⟩), .pointer (some ⟨pm, 0, none⟩), .pointer (some ⟨pc, 0, none⟩)] w _
  go_enter Try.func42, Try.ntmps42
  go_wp2_with fail
  refine HAT.out.mono ?_
  rintro e w1 ⟨rfl, hB1⟩
  simp only [colV]
  rw [hF 0, hF 1, hF 2, hF 3]
  clear HAT hF g0 g1 g2
  obtain ⟨y0, e0⟩ : ∃ v, ys.getD 0 0 = v := ⟨_, rfl⟩
  obtain ⟨y1, e1⟩ : ∃ v, ys.getD 1 0 = v := ⟨_, rfl⟩
  obtain ⟨y2, e2⟩ : ∃ v, ys.getD 2 0 = v := ⟨_, rfl⟩
  obtain ⟨y3, e3⟩ : ∃ v, ys.getD 3 0 = v := ⟨_, rfl⟩
  rw [e0, e1, e2, e3]
  have hB2 : Below w.heap.size w (w1.alloc (.cells #[.int .i64 y0, .int .i64 y1, .int .i64 y2, .int .i64 y3] 62)) := hB1.alloc hB1.size _
  have HB2 := Lib.hid hB2
  have HI2 := Lib.hid (HI.out.moveB hB2)
  have HX2 := Lib.hid (Bx.new w1 62 #[.int .i64 y0, .int .i64 y1, .int .i64 y2, .int .i64 y3])
  obtain ⟨gx, hgx⟩ : ∃ gx, gx = w1.heap.size := ⟨_, rfl⟩
  have hgxm : mb < gx := by rw [hgx]; exact Nat.lt_of_lt_of_le HI.out.1.lt hB1.size
  have Hgx := Lib.hid hgx
  rw [← hgx] at HX2
  clear hB1 hB2 HI hgx
  rcases HI2.out.1.look HLy.out HYb.out with hlk | hlk
  · simp only [colV] at hlk
    rw [e0, e1, e2, e3] at hlk
    have m0 := bx1 HI2.out.2.2.1
    have k0 := bx1 HI2.out.2.2.2.1
    obtain ⟨x0, x1, x2, x3⟩ := bx4 (T := 62) HX2.out
    go_upto_region 4 with fail
    rw [← Hgx.out]
    clear hlk Hgx
    generalize w1.alloc (.cells #[.int .i64 y0, .int .i64 y1, .int .i64 y2, .int .i64 y3] 62) = u at *
    have hpml : pm < u.drew.heap.size := HI2.out.2.2.1.lt
    have hpcl : pc < u.drew.heap.size := HI2.out.2.2.2.1.lt
    have hgxl : gx < u.drew.heap.size := HX2.out.lt
    have HNF := Lib.hid (iNof_any A6 c6 n2 P xss ys u.drew Hn2.out h16 hP HLy.out HCl.out HYb.out ((HI2.out.2.2.2.2.2.more (Nat.le_of_lt HI2.out.1.lt)).keep (w' := u.drew) fun _ _ => rfl))
    simp only [colV] at HNF
    rw [e0, e1, e2, e3] at HNF
    have hI3 : IxI W H P n2 mb pg pm pc Ag A6 cg c6 xs xss (fun ys => nbI xss ys n2) k u.drew := HI2.out
    have HB3 := Lib.hid (HB2.out.drew)
    clear HI2 HB2
    have HI2 := Lib.hid hI3
    clear hI3
    have HX3 : Hid (Bx u.drew gx 62 #[.int .i64 y0, .int .i64 y1, .int .i64 y2, .int .i64 y3]) := Lib.hid HX2.out
    clear HX2
    have HX2 := Lib.hid HX3.out
    clear HX3
    refine wp_region_held_drew (S := (fun w' => w'.cell? ⟨pm, 0, none⟩ = some (.map (some mb)) ∧ w'.cell? ⟨gx, 0, none⟩ = some (.int .i64 y0) ∧ w'.cell? ⟨gx, 1, none⟩ = some (.int .i64 y1) ∧ w'.cell? ⟨gx, 2, none⟩ = some (.int .i64 y2) ∧ w'.cell? ⟨gx, 3, none⟩ = some (.int .i64 y3) ∧ w'.cell? ⟨pc, 0, none⟩ = some (.slice A6 n2 c6))) (by kernel_rfl) (by exact ⟨m0, x0, x1, x2, x3, k0⟩) (fun hHeld => ?_)
    refine' wpAnyH_take (i := 0) (oi := _) (v := _) ?hi1 (by kernel_rfl) (by kernel_rfl) (by kernel_rfl) ?hq1 (Or.inl ⟨?hw1, ?hy1⟩) (by assumption) ?rest1
    case hi1 => (simp only [List.getElem?_toArray, List.getElem?_cons_succ, List.getElem?_cons_zero]; rfl)
    case hq1 => exact fun _ _ _ h => h
    case hw1 => rfl
    case hy1 => (intro wq hSw; (try dsimp only at hSw); go_simp; (try with_reducible rfl))
    (try simp only [Act.put, List.setIfInBounds_toArray, List.set_cons_zero, List.set_cons_succ])
    refine' wpAnyH_take (i := 1) (oi := _) (v := _) ?hi2 (by kernel_rfl) (by kernel_rfl) (by kernel_rfl) ?hq2 (Or.inl ⟨?hw2, ?hy2⟩) (by assumption) ?rest2
    case hi2 => (simp only [List.getElem?_toArray, List.getElem?_cons_succ, List.getElem?_cons_zero]; rfl)
    case hq2 => exact fun _ _ _ h => h
    case hw2 => rfl
    case hy2 => (intro wq hSw; (try dsimp only at hSw); go_simp; (try with_reducible rfl))
    (try simp only [Act.put, List.setIfInBounds_toArray, List.set_cons_zero, List.set_cons_succ])
    refine' wpAnyH_take (i := 2) (oi := _) (v := _) ?hi3 (by kernel_rfl) (by kernel_rfl) (by kernel_rfl) ?hq3 (Or.inl ⟨?hw3, ?hy3⟩) (by assumption) ?rest3
    case hi3 => (simp only [List.getElem?_toArray, List.getElem?_cons_succ, List.getElem?_cons_zero]; rfl)
    case hq3 => exact fun _ _ _ h => h
    case hw3 => rfl
    case hy3 => (intro wq hSw; (try dsimp only at hSw); go_simp; (try with_reducible rfl))
    (try simp only [Act.put, List.setIfInBounds_toArray, List.set_cons_zero, List.set_cons_succ])
    refine' wpAnyH_take (i := 3) (oi := _) (v := _) ?hi4 (by kernel_rfl) (by kernel_rfl) (by kernel_rfl) ?hq4 (Or.inl ⟨?hw4, ?hy4⟩) (by assumption) ?rest4
    case hi4 => (simp only [List.getElem?_toArray, List.getElem?_cons_succ, List.getElem?_cons_zero]; rfl)
    case hq4 => exact fun _ _ _ h => h
    case hw4 => rfl
    case hy4 => (intro wq hSw; (try dsimp only at hSw); go_simp; (try with_reducible rfl))
    (try simp only [Act.put, List.setIfInBounds_toArray, List.set_cons_zero, List.set_cons_succ])
    refine wpAnyH_ready (rs := [4]) (by kernel_rfl) (by simp) ?_
    refine' AllReadyH.cons (o := _) ?hi5 (fun K hK => ?rest5) AllReadyH.nil
    case hi5 => (simp only [List.getElem?_toArray, List.getElem?_cons_succ, List.getElem?_cons_zero]; rfl)
    go_simp
    go_at_call 44
    refine HNF.out.mono ?_
    rintro e w5 ⟨rfl, hB5⟩
    rw [HNv.out]
    have m5 := (hB5.cell (p := ⟨pm, 0, none⟩) (by exact hpml)).trans m0
    have z0 := (hB5.cell (p := ⟨gx, 0, none⟩) (by exact hgxl)).trans x0
    have z1 := (hB5.cell (p := ⟨gx, 1, none⟩) (by exact hgxl)).trans x1
    have z2 := (hB5.cell (p := ⟨gx, 2, none⟩) (by exact hgxl)).trans x2
    have z3 := (hB5.cell (p := ⟨gx, 3, none⟩) (by exact hgxl)).trans x3
    have k5 := (hB5.cell (p := ⟨pc, 0, none⟩) (by exact hpcl)).trans k0
    have HI5 := Lib.hid (HI2.out.moveB hB5)
    have HX5 := Lib.hid (HX2.out.below hB5)
    have HB5 := Lib.hid hB5
    obtain ⟨w6, hst, hM6, hG6, hin6⟩ := MpI.store hP HI5.out.1 HLy.out HYb.out (by unfold maxLen; omega) HWf.out
    have hget6 := MpI.get hM6 HLy.out HYb.out hin6
    simp only [colV] at hst hget6
    rw [e0, e1, e2, e3, HNv.out] at hst hget6
    have HI6 := Lib.hid (HI5.out.grow hG6 hM6 hpgm hpcm hpmm)
    have HG6 := Lib.hid hG6
    clear hB5 hM6 hG6 hin6
    have m6 := bx1 HI6.out.2.2.1
    have k6 := bx1 HI6.out.2.2.2.1
    have hgm : gx ≠ mb := Nat.ne_of_gt hgxm
    have HX6 := Lib.hid ((HG6.out.block gx HX5.out.lt (fun e => by injection e with e; exact hgm e)).trans HX5.out)
    go_wp2_with fail
    refine hK.out _ _ (by (try dsimp only); exact ⟨m5, z0, z1, z2, z3, k5⟩) (fun hHeld => ?_)
    clear hK K
    (try simp only [Act.put, List.setIfInBounds_toArray, List.set_cons_zero, List.set_cons_succ])
    refine wpAnyH_ready (rs := [5]) (by kernel_rfl) (by simp) ?_
    refine' AllReadyH.cons (o := _) ?hi6 (fun K hK => ?rest6) AllReadyH.nil
    case hi6 => (simp only [List.getElem?_toArray, List.getElem?_cons_succ, List.getElem?_cons_zero]; rfl)
    go_simp
    refine hK.out _ _ (by (try dsimp only); exact ⟨m6, (bx4 (T := 62) HX6.out).1, (bx4 (T := 62) HX6.out).2.1, (bx4 (T := 62) HX6.out).2.2.1, (bx4 (T := 62) HX6.out).2.2.2, k6⟩) (fun hHeld => ?_)
    clear hK K
    (try simp only [Act.put, List.setIfInBounds_toArray, List.set_cons_zero, List.set_cons_succ])
    refine wpAnyH_done (by kernel_rfl) ?_ _
    clear m0 x0 x1 x2 x3 k0 m5 z0 z1 z2 z3 k5 hst HNF HI2 HX2
    obtain ⟨x0, x1, x2, x3⟩ := bx4 (T := 62) HX6.out
    go_wp2
    go_ret
    refine ⟨rfl, HI6.out, ?_⟩
    have hB : Below w.heap.size w w5 := HB3.out.trans (HB5.out.mono HB3.out.size)
    exact gtrans ⟨hB.os, hB.tape, hB.output, hB.size, fun i hi _ => hB.block i hi⟩ HG6.out
  · have hget := MpI.get HI2.out.1 HLy.out HYb.out hlk
    simp only [colV] at hlk hget
    rw [e0, e1, e2, e3] at hlk hget
    rw [HNv.out] at hlk hget
    clear e0 e1 e2 e3
    have m0 := bx1 HI2.out.2.2.1
    obtain ⟨x0, x1, x2, x3⟩ := bx4 (T := 62) HX2.out
    go_wp2
    go_ret
    exact ⟨rfl, HI2.out.more, ⟨HB2.out.os, HB2.out.tape, HB2.out.output, HB2.out.size, fun i hi _ => HB2.out.block i hi⟩⟩
theorem GS.mk2 {W0 w : World} {b lo hi : Nat} {T : TypeId} {cs : Array Value} {v : Value} {xs : List Int} (hB : Below W0.heap.size W0 w) (hX : Bx w b T cs) (hb : W0.heap.size ≤ b) (hO : Own w lo v xs) (hl : b < lo) (hh : ∀ g, v.ownBlock = some g → g < hi) (hhi : hi ≤ w.heap.size) : GS W0 w [ri lo hi v xs] [⟨b, T, cs⟩] :=
  ⟨hB, fun t ht => by
    rw [List.mem_singleton] at ht
    subst ht
    exact ⟨⟨hO, hh⟩, by show W0.heap.size ≤ lo; omega, hhi⟩, List.pairwise_singleton _ _, fun c hc => by
    rw [List.mem_singleton] at hc
    subst hc
    exact ⟨hX, hb, fun t ht => by
      rw [List.mem_singleton] at ht
      subst ht
      exact .inr hl⟩, List.pairwise_singleton _ _⟩
set_option maxHeartbeats 16000000 in
theorem i_IndexImage (W H P : Int) (A : Option Addr) (c : Nat) (xs : List Int) (A2 : Option Addr) (n0 c2 : Nat) (xss : List (List Int)) (w : World) (hx : Rds .i64 w w.heap.size A xs) (hl : xs.length ≤ 2000000) (hlc : xs.length ≤ c) (hs : Rdss w w.heap.size A2 xss) (hn2 : n0 = xss.length) (ht : tot xss ≤ 2000000) :
    Calls Try.prog 10 #[.agg #[.int .i64 W, .int .i64 H, .int .i64 P, .slice A xs.length c], .slice A2 n0 c2] w (ColR (ixOk W H P xs xss) W H 1 (ixL W.toNat H.toNat P.toNat xs xss) w) := by
  have HX := Lib.hid hx
  have HV : Hid (ixOk W H P xs xss = (vim W H P xs && (palB xss P && !decide (xss.length = 0)))) := Lib.hid rfl
  have S0 : GS w ((w.alloc (.cells #[.int .i64 W, .int .i64 H, .int .i64 P, .slice A xs.length c] 25)).alloc (.cells #[.int .i64 0, .int .i64 0, .int .i64 0, .slice none 0 0] 25)) [] [⟨(w.heap.size + 1), 25, #[.int .i64 0, .int .i64 0, .int .i64 0, .slice none 0 0]⟩, ⟨w.heap.size, 25, #[.int .i64 W, .int .i64 H, .int .i64 P, .slice A xs.length c]⟩] := GS.box' (GS.box' (GS.start w) 25 #[.int .i64 W, .int .i64 H, .int .i64 P, .slice A xs.length c] w.heap.size (by simp)) 25 #[.int .i64 0, .int .i64 0, .int .i64 0, .slice none 0 0] (w.heap.size + 1) (by simp)
  have Eg : Hid (∀ args w, (callFunc 42 args).run Try.prog w = .ok (.enter 42 args) w) := Lib.hid (enters_of Try.func42 (by kernel_rfl) rfl)
  have HCO := Lib.hid (iClr_any A2 c2 n0 xss P _ hn2 (S0.argSSx hs) ht)
  clear hx hs hn2 ht
  go_enter Try.func10, Try.ntmps10
  go_wp2_with fail
  generalize (w.alloc (.cells #[.int .i64 W, .int .i64 H, .int .i64 P, .slice A xs.length c] 25)).alloc (.cells #[.int .i64 0, .int .i64 0, .int .i64 0, .slice none 0 0] 25) = u0 at *
  refine HCO.out.mono ?_
  rintro e u1 ⟨hB, hor⟩
  clear HCO
  rcases hor with ⟨hno, rfl⟩ | ⟨ha, hpal, v, rfl, hO⟩
  · have Hv : Hid (ixOk W H P xs xss = false) := Lib.hid (by
      rw [HV.out]
      cases h1 : vim W H P xs
      · rfl
      · obtain ⟨_, _, P', _, _, rfl, _, _, _, _, h5, h6, _, _⟩ := vim_nat h1
        rw [decide_eq_true (show 1 ≤ (P' : Int) ∧ (P' : Int) ≤ 4 by omega), Bool.true_and] at hno
        rw [hno]; rfl)
    clear HV hno
    obtain ⟨cb, hcb⟩ : ∃ cb, cb = u1.heap.size := ⟨_, rfl⟩
    have S1 := GS.box' (S0.call hB) 50 #[.slice none 0 0] cb hcb
    clear S0 hB
    go_upto_region 2 with fail
    rw [← hcb]
    generalize u1.alloc (.cells #[.slice none 0 0] 50) = u2 at *
    clear hcb
    obtain ⟨r0, r1, r2, r3⟩ := S1.b1_4
    have f0 := S1.f1 0
    have f1 := S1.f1 1
    have f2 := S1.f1 2
    have f3 := S1.f1 3
    have HE := Lib.hid (S1.e1_4 (.int .i64 0) (.int .i64 0) (.int .i64 0) (.slice none 0 0))
    clear S1
    go_wp2
    exact bodyPost_ret (v := .tuple #[.agg #[.int .i64 0, .int .i64 0, .int .i64 0, .slice none 0 0], .bool false]) (by simp [results, Try.results10, go_sem, r0, r1, r2, r3]) rfl (ColR.no Hv.out HE.out.1)
  · have HPal := Lib.hid hpal
    have HA := Lib.hid ha
    have hpo := palB_of hpal
    have S1 := S0.addR hO hB
    obtain ⟨A6, c6, rfl, hc6⟩ := hO.slice
    obtain ⟨lo6, hlo6⟩ : ∃ lo6, lo6 = u0.heap.size := ⟨_, rfl⟩
    obtain ⟨hi6, hhi6⟩ : ∃ hi6, hi6 = u1.heap.size := ⟨_, rfl⟩
    obtain ⟨cb, hcb⟩ : ∃ cb, cb = u1.heap.size := ⟨_, rfl⟩
    obtain ⟨n2, hn2⟩ : ∃ n2, n2 = xss.length := ⟨_, rfl⟩
    rw [← hlo6, ← hhi6, ← hn2] at S1
    rw [← hn2] at hc6 hpo ⊢
    have S2 := GS.box' S1 50 #[.slice A6 n2 c6] cb hcb
    have HS2 : Hid (GS w (u1.alloc (.cells #[.slice A6 n2 c6] 50)) [rt 62 4 lo6 hi6 (.slice A6 n2 c6) n2 (clr xss n2)] [⟨cb, 50, #[.slice A6 n2 c6]⟩, ⟨(w.heap.size + 1), 25, #[.int .i64 0, .int .i64 0, .int .i64 0, .slice none 0 0]⟩, ⟨w.heap.size, 25, #[.int .i64 W, .int .i64 H, .int .i64 P, .slice A xs.length c]⟩]) := Lib.hid S2
    have HCl := Lib.hid hpo.2
    have hn16 := hpo.1
    have Hn2 := Lib.hid hn2
    clear S0 S1 S2 hB hO ha hpal hpo hn2 hlo6 hhi6
    go_upto_region 2 with fail
    rw [← hcb]
    generalize u1.alloc (.cells #[.slice A6 n2 c6] 50) = u2 at *
    clear hcb
    have q0 := bx1 HS2.out.x0
    by_cases h0 : n2 = 0
    · have Hv : Hid (ixOk W H P xs xss = false) := Lib.hid (by rw [HV.out, ← Hn2.out, decide_eq_true h0]; simp)
      clear HV
      subst h0
      have S1 := HS2.out
      obtain ⟨r0, r1, r2, r3⟩ := S1.b1_4
      have f0 := S1.f1 0
      have f1 := S1.f1 1
      have f2 := S1.f1 2
      have f3 := S1.f1 3
      have HE := Lib.hid (S1.e1_4 (.int .i64 0) (.int .i64 0) (.int .i64 0) (.slice none 0 0))
      clear S1
      go_wp2
      exact bodyPost_ret (v := .tuple #[.agg #[.int .i64 0, .int .i64 0, .int .i64 0, .slice none 0 0], .bool false]) (by simp [results, Try.results10, go_sem, r0, r1, r2, r3]) rfl (ColR.no Hv.out HE.out.1)
    · have hb0 : ((n2 : Int) == 0) = false := beq_eq_false_iff_ne.2 (by omega)
      obtain ⟨m0, m1, m2, m3⟩ := HS2.out.b2_4
      go_wp2_with fail
      refine (iVimg_any W H P A c xs u2 (HS2.out.arg HX.out) hl).mono ?_
      rintro e u3 ⟨rfl, hB⟩
      have HS3 := Lib.hid (HS2.out.call hB)
      clear HS2 hB q0 m0 m1 m2 m3
      cases hv : vim W H P xs
      · have Hv : Hid (ixOk W H P xs xss = false) := Lib.hid (by rw [HV.out, hv]; rfl)
        clear HV hv
        have S1 := HS3.out
        obtain ⟨r0, r1, r2, r3⟩ := S1.b1_4
        have f0 := S1.f1 0
        have f1 := S1.f1 1
        have f2 := S1.f1 2
        have f3 := S1.f1 3
        have HE := Lib.hid (S1.e1_4 (.int .i64 0) (.int .i64 0) (.int .i64 0) (.slice none 0 0))
        clear S1
        go_wp2
        exact bodyPost_ret (v := .tuple #[.agg #[.int .i64 0, .int .i64 0, .int .i64 0, .slice none 0 0], .bool false]) (by simp [results, Try.results10, go_sem, r0, r1, r2, r3]) rfl (ColR.no Hv.out HE.out.1)
      · have Hv : Hid (ixOk W H P xs xss = true) := Lib.hid (by rw [HV.out, hv, HPal.out, ← Hn2.out, decide_eq_false h0]; rfl)
        clear HV
        obtain ⟨W', H', P', rfl, rfl, rfl, hW1, hW, hH1, hH, hP1, hP4, hln, hby⟩ := vim_nat hv
        have HLn := Lib.hid hln
        have HBy := Lib.hid hby
        clear hv hln hby
        obtain ⟨m0, m1, m2, m3⟩ := HS3.out.b2_4
        have HGR := Lib.hid (gridOf_any W' H' P' hW hH hP1 hP4 hW1 hH1 A c xs HLn.out hlc u3 (HS3.out.arg HX.out))
        go_wp2_with fail
        refine HGR.out.mono ?_
        rintro e u4 ⟨v4, rfl, hO4, hB4⟩
        have S4 := GS.addR HS3.out hO4 hB4
        obtain ⟨A4, c4, rfl, hc4⟩ := hO4.slice
        obtain ⟨gb, hgb⟩ : ∃ gb, gb = u4.heap.size := ⟨_, rfl⟩
        have S5 := GS.box' S4 59 #[.int .i64 (W' : Int), .int .i64 (H' : Int), .slice A4 (W' * H') c4] gb hgb
        clear S4 HS3 hO4 hB4 HGR m0 m1 m2 m3
        obtain ⟨u5, hu5⟩ : ∃ u5, u5 = u4.alloc (.cells #[.int .i64 (W' : Int), .int .i64 (H' : Int), .slice A4 (W' * H') c4] 59) := ⟨_, rfl⟩
        rw [← hu5] at S5
        have hs5 : u5.heap.size = gb + 1 := by rw [hu5, hgb]; simp
        have S6 := S5.call ((Below.refl _ _).alloc (Nat.le_refl _) (.map #[] 0))
        have hs6 : (u5.alloc (.map #[] 0)).heap.size = gb + 2 := by simp [hs5]
        have S7 := GS.box' S6 70 #[.map (some (gb + 1))] (gb + 2) hs6.symm
        have hM6 := MpI.made u5 P' (fun ys => nbI xss ys n2)
        rw [hs5] at hM6
        obtain ⟨u7, hu7⟩ : ∃ u7, u7 = (u5.alloc (.map #[] 0)).alloc (.cells #[.map (some (gb + 1))] 70) := ⟨_, rfl⟩
        rw [← hu7] at S7
        have h57 : ∀ g, g < gb + 2 → u7.heap[g]? = (u5.alloc (.map #[] 0)).heap[g]? := fun g hg => by rw [hu7]; exact Below.heap_alloc _ _ g (by rw [hs6]; exact hg)
        have h56 : ∀ g, g < gb + 1 → u7.heap[g]? = u5.heap[g]? := fun g hg => (h57 g (by omega)).trans (Below.heap_alloc _ _ g (by rw [hs5]; exact hg))
        have hs7 : u7.heap.size = gb + 3 := by rw [hu7]; simp [hs5]
        have hM7 : MpI u7 (gb + 1) 0 P' (fun ys => nbI xss ys n2) := hM6.kept (h57 _ (by omega))
        have r4 := S5.rdsT (E := 62) (C := 4) (lo := u3.heap.size) (hi := u4.heap.size) (A := A4) (n := W' * H') (m := W' * H') (c := c4) (xs := img W' H' 4 (pxc W' P' xs)) (List.Mem.head _)
        have r6 := S5.rdsT (E := 62) (C := 4) (lo := lo6) (hi := hi6) (A := A6) (n := n2) (m := n2) (c := c6) (xs := clr xss n2) (List.mem_cons_of_mem _ (List.Mem.head _))
        rw [hs5] at r4 r6
        have hI7 : IxI W' H' P' n2 (gb + 1) gb (gb + 2) cb A4 A6 c4 c6 xs xss (fun ys => nbI xss ys n2) 0 u7 :=
          ⟨hM7, S7.x1, S7.x0, S7.x2, r4.keep fun p hp => World.cell?_of_block (h56 _ hp), r6.keep fun p hp => World.cell?_of_block (h56 _ hp)⟩
        have hcb : cb < gb := by
          have h1 := (S5.2.2.2.1 _ (List.mem_cons_of_mem _ (List.Mem.head _))).1.lt
          have h2 := (List.pairwise_cons.1 S5.2.2.2.2).1 ⟨cb, 50, #[.slice A6 n2 c6]⟩ (List.Mem.head _)
          simp only at h1 h2
          omega
        have hres : w.heap.size + 1 < u7.heap.size := S7.x3.lt
        have hresm : w.heap.size + 1 ≠ gb + 1 := by
          have h2 := (S5.2.2.2.1 _ (List.Mem.head _)).2.1
          have h3 := (List.pairwise_cons.1 S5.2.2.2.2).1 ⟨w.heap.size, 25, #[.int .i64 (W' : Int), .int .i64 (H' : Int), .int .i64 (P' : Int), .slice A xs.length c]⟩ (by simp)
          simp only at h2 h3
          omega
        have HS7 := Lib.hid S7
        have HBU := Lib.hid (buildX_any W' H' hW hH 42 #[.pointer (some ⟨gb, 0, none⟩), .pointer (some ⟨gb + 2, 0, none⟩), .pointer (some ⟨cb, 0, none⟩)] (fun x y => nbI xss (pxl W' P' xs x y) n2) u7 (gb + 1) (by omega) (IxI W' H' P' n2 (gb + 1) gb (gb + 2) cb A4 A6 c4 c6 xs xss (fun ys => nbI xss ys n2)) hI7
          (fun k w1 w2 h hs hk => h.move (B := u7.heap.size) hk (by omega) (by omega) (by omega) (by omega)) Eg.out
          (fun x y w' hx hy hs hI => iIx1_any W' H' P' n2 (gb + 1) gb (gb + 2) cb hW hH hP4 A4 A6 c4 c6 hc4 xs xss Hn2.out hn16 (by rw [← Hn2.out]; exact HCl.out) HLn.out HBy.out (by omega) (by omega) (by omega) x y (y * W' + x) hx hy (by have h1 := row_lt hx hy; have h2 := Nat.mul_le_mul hW hH; omega) w' hI))
        obtain ⟨m0, m1, m2, m3⟩ := S7.b4_4
        clear S5 S6 S7 hM6 hM7 hI7 r4 r6 h57 h56
        rw [hu5] at hu7
        have Hu7 := Lib.hid hu7
        have Hgb := Lib.hid hgb
        rw [hu7] at m0 m1 m2 m3
        clear hu5 hu7 hgb hs5 hs6
        have hmk := fun W : World => run_makeMap (P := Try.prog) 70 W
        rw [Hgb.out] at m0 m1 m2 m3
        go_wp2_with fail
        simp only [← Hgb.out]
        rw [← Hu7.out]
        clear m0 m1 m2 m3 hmk
        refine HBU.out.mono ?_
        rintro e u9 ⟨v9, rfl, hO9, hG9⟩
        have hB9 : Below w.heap.size w u9 := HS7.out.below.grown hG9 HS7.out.below.size (fun g hg => by injection hg with hg; omega)
        have hX9 := (hG9.block _ HS7.out.x3.lt (fun e => by injection e with e; exact hresm e)).trans HS7.out.x3
        obtain ⟨A9, c9, rfl, hc9⟩ := hO9.slice
        have hl9 : (img W' H' 1 (fun x y _ => nbI xss (pxl W' P' xs x y) n2)).length = W' * H' := by rw [img_len]; simp
        have S9 := GS.mk2 (hi := u9.heap.size) hB9 hX9 (Nat.le_succ _) hO9 hres (fun g hg => (hO9.lt g hg).2) (Nat.le_refl _)
        rw [hl9] at S9 hc9 ⊢
        obtain ⟨b9, hb9⟩ : ∃ b9, b9 = u9.heap.size := ⟨_, rfl⟩
        have HB9 := Lib.hid hb9
        have S10 := Lib.hid (GS.box' S9 55 #[.int .i64 (W' : Int), .int .i64 (H' : Int), .slice A9 (W' * H') c9] b9 hb9)
        clear HBU hO9 hG9 hB9 hX9 S9 hb9 HS7 Hu7 Hgb hl9
        go_wp2_with fail
        rw [← HB9.out]
        generalize u9.alloc (.cells #[.int .i64 (W' : Int), .int .i64 (H' : Int), .slice A9 (W' * H') c9] 55) = u10 at *
        obtain ⟨q0, q1, q2⟩ := S10.out.b0_3
        have hcell : ∀ i, i < 1 → u10.cell? ⟨b9, 0 + i * 3, none⟩ = some (.int .i64 (W' : Int)) ∧ u10.cell? ⟨b9, 0 + i * 3 + 1, none⟩ = some (.int .i64 (H' : Int)) ∧ u10.cell? ⟨b9, 0 + i * 3 + 2, none⟩ = some (.slice A9 (W' * H') c9) := by
          intro i hi
          have hi0 : i = 0 := by omega
          subst hi0
          exact ⟨q0, q1, q2⟩
        have HJ := Lib.hid (join_any W' H' 1 hW1 hW hH1 hH (Nat.le_refl _) (by omega) b9 0 1 (ixF W' P' xs xss) (fun _ => A9) (fun _ => c9) u10 (by exact S10.out.l0) hcell (fun i hi => ⟨by have h := S10.out.r0; rw [Hn2.out] at h; exact h, hc9⟩))
        refine HJ.out.mono ?_
        rintro e u11 ⟨v11, rfl, hO11, hB11⟩
        have S11 := GS.add S10.out hO11 hB11
        obtain ⟨A11, c11, rfl, hc11⟩ := hO11.slice
        rw [show (((1 : Nat) : Int)) = 1 from rfl]
        clear hO11 hB11 S10 HJ q0 q1 q2 hcell
        obtain ⟨r0, r1, r2, r3⟩ := S11.b1_4
        have f0 := S11.f1 0
        have f1 := S11.f1 1
        have f2 := S11.f1 2
        have f3 := S11.f1 3
        have HE := Lib.hid (S11.e1_4 (.int .i64 (W' : Int)) (.int .i64 (H' : Int)) (.int .i64 1) (.slice A11 (img W' H' 1 (ixF W' P' xs xss)).length c11))
        clear S11
        go_wp2
        exact bodyPost_ret (v := .tuple #[.agg #[.int .i64 (W' : Int), .int .i64 (H' : Int), .int .i64 1, .slice A11 (img W' H' 1 (ixF W' P' xs xss)).length c11], .bool true]) (by simp [results, Try.results10, go_sem, r0, r1, r2, r3]) rfl (ColR.yes Hv.out (HE.out.2 _ (List.Mem.head _)) HE.out.1)
end Go.Proofs.Ytjcohmljpokgcaa
