/- Contract of FilterImage in the program. -/
import Derived.Test.YtolifmgkkkclkaaFlM
import Derived.Test.YtolifmgkkkclkaaChn
import Derived.Test.YtolifmgkkkclkaaImgA
import Derived.Test.YtolifmgkkkclkaaGridF
import Derived.Test.YtolifmgkkkclkaaSpecM
import Derived.Deep.CutRange
import Derived.Deep.Cut
namespace Go.Proofs.Ytolifmgkkkclkaa
open Go.RowKit Go.Shelf
set_option linter.unusedSimpArgs false
set_option linter.unusedVariables false
set_option maxRecDepth 20000
attribute [local go_sem] Oper.semAt_some

set_option maxRecDepth 100000 in
set_option maxHeartbeats 32000000 in
theorem i_FilterImage (W H P : Int) (A : Option Addr) (c : Nat) (xs : List Int) (w : World) (hx : Rds .i64 w w.heap.size A xs) (hl : xs.length ≤ 2000000) (hlc : xs.length ≤ c) :
    Calls Try.prog 8 #[.agg #[.int .i64 W, .int .i64 H, .int .i64 P, .slice A xs.length c]] w (Made (fimV W H P xs) w) := by
  have HX := Lib.hid hx
  clear hx
  obtain ⟨b2, hb2⟩ : ∃ b, b = w.heap.size := ⟨_, rfl⟩
  have S0 : GS w (w.alloc (.cells #[.int .i64 W, .int .i64 H, .int .i64 P, .slice A xs.length c] 25)) [] [⟨b2, 25, #[.int .i64 W, .int .i64 H, .int .i64 P, .slice A xs.length c]⟩] := GS.box' (GS.start w) _ _ b2 hb2
  refine (callsIn_wide (n := 5)).1 ?_
  refine callsIn_of_wp_marks Try.func8 rfl trivial ?_ rfl
  refine wpIn_wide.2 ?_
  simp only [Try.ntmps8, List.size_toArray, List.length_cons, List.length_nil, Nat.reduceAdd, Nat.reduceSub, Array.replicate_succ, Array.replicate_zero, List.push_toArray, List.append_toArray, List.nil_append, List.cons_append]
  go_wp2_with fail
  rw [← hb2]
  have HB2 := Lib.hid hb2
  clear hb2
  generalize (w.alloc (.cells #[.int .i64 W, .int .i64 H, .int .i64 P, .slice A xs.length c] 25)) = u0 at *
  refine (iVimg_any W H P A c xs u0 (S0.arg HX.out) hl).mono ?_
  rintro e u1 ⟨rfl, hB⟩
  have S1 := S0.call hB
  clear hB S0
  cases hv : vim W H P xs
  · have HE : Hid (fimV W H P xs = []) := Lib.hid (by unfold fimV; rw [hv]; rfl)
    have HBF := Lib.hid S1.below
    clear S1 hv
    go_wp2
    exact ⟨_, results_tmp rfl _ _ _, (by rw [HE.out]; exact ⟨_, rfl, World.ownsRow_nil _ _ _ _, HBF.out⟩)⟩
  · have HE : Hid (fimV W H P xs = fiV W.toNat H.toNat P.toNat xs) := Lib.hid (by unfold fimV; rw [hv]; rfl)
    obtain ⟨W, H, P, rfl, rfl, rfl, hW1, hW, hH1, hH, hP1, hP, hln, hby⟩ := vim_nat hv
    obtain ⟨n, hn⟩ : ∃ n, n = W * P := ⟨_, rfl⟩
    have hn1 : 1 ≤ n := by rw [hn]; exact Nat.mul_pos hW1 hP1
    have hn64 : n ≤ 64 := by rw [hn]; exact Nat.mul_le_mul hW hP
    have hlT : xs.length = H * n := by rw [hln, hn, Nat.mul_comm W H, Nat.mul_assoc]
    have hT1024 : xs.length ≤ 1024 := by rw [hlT]; exact Nat.mul_le_mul hH hn64
    have hpos : 0 < xs.length := by rw [hlT]; exact Nat.mul_pos hH1 hn1
    have HByt : Hid (Byt xs) := Lib.hid (fun j => by
      by_cases hj : j < xs.length
      · exact hby j hj
      · have : xs.getD j 0 = 0 := by simp [List.getD_eq_getElem?_getD, List.getElem?_eq_none (show xs.length ≤ j by omega)]
        rw [this]; omega)
    obtain ⟨b, off, rfl, hb, hcx⟩ := HX.out.cells_ hpos
    obtain ⟨T, hT⟩ : ∃ T, T = xs.length := ⟨_, rfl⟩
    have HT := Lib.hid hT
    have HLT := Lib.hid hlT
    have HN := Lib.hid hn
    have HCx := Lib.hid hcx
    rw [← hT] at hT1024 hlc S1 ⊢
    have iWP : (W : Int) * (P : Int) = (n : Int) := by rw [hn]; simp
    have wWP : IntKind.i64.wrap (n : Int) = (n : Int) := IntWalk.i64_in _ (by omega)
    obtain ⟨i, hi, hz, hsz, hbb⟩ := info_parts info_int
    have Hi := Lib.hid hi
    have Hz := Lib.hid hz
    have Hs := Lib.hid hsz
    have Hb := Lib.hid hbb
    obtain ⟨m0, m1, m2, m3⟩ := S1.b0_4
    have HS1 := Lib.hid S1
    clear hv hby hln hlT hT hpos hcx hi hz hsz hbb S1 hn
    go_wp2_with (refine wpList_make_full _ rfl (.tmp 16) (.tmp 16) 23 rfl u1.heap.size 3 i _ 1 Try.underlying23 Hi.out Hz.out Hs.out .i64 .i64 _ _ n rfl rfl rfl rfl (by rw [Hb.out]; omega) (by unfold maxLen; omega) (Nat.le_refl _) ?_; intro wm hO1 hG1; obtain ⟨k0, k1, k2, k3⟩ := (HS1.out.call (bel_grown0 hG1)).b0_4; have hb2l := (HS1.out.call (bel_grown0 hG1)).l0)
    have hOz : Own wm u1.heap.size (.slice (some ⟨u1.heap.size, 0, none⟩) n n) (zeros n) := by have h := own_zeros hO1; unfold Own; simpa using h
    obtain ⟨lo0, hlo0⟩ : ∃ lo0, lo0 = u1.heap.size := ⟨_, rfl⟩
    obtain ⟨hi0, hhi0⟩ : ∃ hi0, hi0 = wm.heap.size := ⟨_, rfl⟩
    obtain ⟨b4, hb4⟩ : ∃ b4, b4 = wm.heap.size := ⟨_, rfl⟩
    obtain ⟨b5, hb5⟩ : ∃ b5, b5 = wm.heap.size + 1 := ⟨_, rfl⟩
    obtain ⟨bs, hbs⟩ : ∃ bs, bs = wm.heap.size + 2 := ⟨_, rfl⟩
    obtain ⟨bz, hbz⟩ : ∃ bz, bz = wm.heap.size + 3 := ⟨_, rfl⟩
    have hS2 := HS1.out.add hOz (bel_grown0 hG1)
    rw [← hlo0, ← hhi0] at hS2
    have hS4 := GS.box' (GS.box' hS2 23 #[.slice (some ⟨lo0, 0, none⟩) n n] b4 hb4) 23 #[.slice none 0 0] b5 (by simp [hb5])
    have hS6 := GS.box' (GS.box' hS4 23 #[.slice (some ⟨b, off, none⟩) T c] bs (by simp [hbs])) 3 #[.int .i64 (n : Int)] bz (by simp [hbz])
    have Hg : Hid (lo0 < b4) := Lib.hid (by rw [hb4, hlo0]; exact (hOz.lt u1.heap.size rfl).2)
    rw [← hlo0]
    clear hb2l k0 k1 k2 k3 m0 m1 m2 m3 iWP wWP hO1 hG1 hOz hS2 hS4
    refine (chunkZ_any (some ⟨b, off, none⟩) T c n hn1 _).mono ?_
    rintro e wq ⟨rfl, rfl⟩
    have HS6 := Lib.hid hS6
    have hsz : (((wm.alloc (.cells #[.slice (some ⟨lo0, 0, none⟩) n n] 23)).alloc (.cells #[.slice none 0 0] 23))).heap.size = wm.heap.size + 2 := by simp
    rw [hsz, ← hbs, show bs + 1 = bz by omega, ← hb5, ← hb4]
    generalize hwc : (((wm.alloc (.cells #[.slice (some ⟨lo0, 0, none⟩) n n] 23)).alloc (.cells #[.slice none 0 0] 23)).alloc (.cells #[.slice (some ⟨b, off, none⟩) T c] 23)).alloc (.cells #[.int .i64 (n : Int)] 3) = wc at *
    have Hbb : Hid (b4 < b5 ∧ b5 < bs ∧ bs < bz ∧ lo0 < b4 ∧ bz < wc.heap.size) := Lib.hid (by have := Hg.out; have := HS6.out.lt (g := bz) (T := 3) (cs := #[.int .i64 (n : Int)]) (by simp); omega)
    have Hbw : Hid (w.heap.size ≤ lo0) := Lib.hid (by rw [hlo0]; exact HS1.out.below.size)
    clear hwc hb4 hb5 hbs hbz hlo0 hhi0 hS6 hsz HS1 Hg Hi Hz Hs Hb
    have HTm : Hid (T = n * H) := Lib.hid (by rw [HT.out, HLT.out, Nat.mul_comm])
    have HFb : Hid (∀ pre : List (Fin H), (fiS n P xs pre).1.length = pre.length * (n + 1) ∧ (fiS n P xs pre).2.length = n ∧ Byt (fiS n P xs pre).2) := Lib.hid (fiS_bd HLT.out HByt.out)
    have hbsB : Boxed wc bs 23 (.slice (some ⟨b, off, none⟩) T c) := HS6.out.bx (by simp)
    have hbzB : Boxed wc bz 3 (.int .i64 (n : Int)) := HS6.out.bx (by simp)
    have HR0 : Hid (Rds .i64 wc wc.heap.size (some ⟨lo0, 0, none⟩) (zeros n)) := Lib.hid (HS6.out.rds (lo := lo0) (hi := hi0) (n := n) (c := n) (by simp))
    have Hbwc := Lib.hid HS6.out.below
    go_wp2
    refine (wpIn_wide (n := 5)).1 ?_
    refine' wpIn_rangeFunc_ownG rfl (by omega) (gf := 45) (lb := #[.pointer (some ⟨bs, 0, none⟩), .pointer (some ⟨bz, 0, none⟩)]) rfl trivial (enters_of Try.func45 (by kernel_rfl) rfl)
      (chunkZ_stops 4 (by omega) bs bz b off H n T c hn1 HTm.out (some ⟨b, off, none⟩) (fun _ => rfl) (by omega) hlc wc hbsB hbzB)
      CZ.trans (fun V l o o' hl _ _ _ => CZ.putObj V l o' (by have := Hbb.out; omega) (by have := Hbb.out; omega)) (Below.refl _ _) (fun _ => rfl)
      (fun pre V => ∃ (v : Value) (Ab : Option Addr) (cb : Nat), GA w V wc.heap.size v (fiS n P xs pre).1 [ri lo0 hi0 (.slice (some ⟨lo0, 0, none⟩) n n) (zeros n)] [⟨bz, 3, #[.int .i64 (n : Int)]⟩, ⟨bs, 23, #[.slice (some ⟨b, off, none⟩) T c]⟩, ⟨b5, 23, #[v]⟩, ⟨b4, 23, #[.slice Ab n cb]⟩, ⟨b2, 25, #[.int .i64 (W : Int), .int .i64 (H : Int), .int .i64 (P : Int), .slice (some ⟨b, off, none⟩) T c]⟩] ∧ Rds .i64 V wc.heap.size Ab (fiS n P xs pre).2 ∧ (∀ a : Addr, Ab = some a → a.block ≠ b4 ∧ a.block ≠ b5) ∧ n ≤ cb) (fun _ _ _ => False)
      (fun pre V V' row h hG hr => by
        obtain ⟨v, Ab, cb, h1, h2, h3, h4⟩ := h
        exact ⟨v, Ab, cb, GR.other h1 hG hr, h2.keep (fun p hp => World.cell?_of_block (hG.block p.block (Nat.lt_of_lt_of_le hp h1.2.2.2.2.1) (fun e => by have := (hr p.block e.symm).1; omega))), h3, h4⟩)
      (fun _ _ _ _ _ hs _ _ => hs) ⟨_, _, _, GA.nil HS6.out, HR0.out, fun a ha => by injection ha with ha; subst ha; have := Hbb.out; exact ⟨by show lo0 ≠ b4; omega, by show lo0 ≠ b5; omega⟩, Nat.le_refl _⟩ _ ?assign ?body ?done ?stop
    case assign =>
      intro l x V kd hK
      gi_wp2
      exact hK
    case stop =>
      rintro D c pre V _ _ h _
      exact h.elim
    case done =>
      rintro D ys V hD rfl ⟨v, Ab, cb, hG, _⟩ hK
      have c5 := cell_of_row V b5 0 _ _ _ (hG.1.bx (g := b5) (T := 23) (cs := #[v]) (by simp))
      have HF := Lib.hid (GR.other hG (grownBy_putObj' V D (.deferred none)) (fun r e => by cases e; exact ⟨hD, _, hK, rfl⟩))
      have HKK := Lib.hid hK
      clear hG hK
      go_wp2
      refine ⟨by simp, .inl ⟨_, _, rfl, run_takeDeferred HKK.out, ?_⟩⟩
      refine ⟨_, results_tmp rfl _ _ _, ?_⟩
      rw [HE.out]
      refine ⟨v, rfl, ?_, HF.out.1.1⟩
      have hO := HF.out.2.1
      rw [fiS_all] at hO
      have hO2 := ownsRow_le hO Hbwc.out.size
      unfold fiV
      simp only [Int.toNat_natCast]
      rw [← HN.out]
      exact hO2
    case body =>
      rintro l pre x V ⟨v, Ab, cb, hG, hRb, hAb, hcb⟩ hlt
      have hxl := x.isLt
      obtain ⟨hf1, hf2, hf3⟩ := HFb.out pre
      have hrl := rwL_len HLT.out hxl
      have HRw : Hid (Rds .i64 V V.heap.size (some ⟨b, off + n * x.val, none⟩) (rwL n xs x.val)) := Lib.hid (.inr ⟨b, off + n * x.val, rfl, Nat.lt_of_lt_of_le hb hG.1.1.size, fun j hj => by
        rw [hrl] at hj
        have hend := row_end HLT.out hxl
        rw [hG.1.1.cell (p := ⟨b, off + n * x.val + j, none⟩) hb, rwL_get hj, Nat.mul_comm n x.val, Nat.add_assoc]
        exact HCx.out (x.val * n + j) (by omega)⟩)
      have HRw0 : Hid (∀ u, Below w.heap.size w u → Rds .i64 u u.heap.size (some ⟨b, off + n * x.val, none⟩) (rwL n xs x.val)) := Lib.hid (fun u hu => .inr ⟨b, off + n * x.val, rfl, Nat.lt_of_lt_of_le hb hu.size, fun j hj => by
        rw [hrl] at hj
        have hend := row_end HLT.out hxl
        rw [hu.cell (p := ⟨b, off + n * x.val + j, none⟩) hb, rwL_get hj, Nat.mul_comm n x.val, Nat.add_assoc]
        exact HCx.out (x.val * n + j) (by omega)⟩)
      have HRwB : Hid (∀ u, Below w.heap.size w u → Rds .i64 u wc.heap.size (some ⟨b, off + n * x.val, none⟩) (rwL n xs x.val)) := Lib.hid (fun u hu => .inr ⟨b, off + n * x.val, rfl, Nat.lt_of_lt_of_le hb Hbwc.out.size, fun j hj => by
        rw [hrl] at hj
        have hend := row_end HLT.out hxl
        rw [hu.cell (p := ⟨b, off + n * x.val + j, none⟩) hb, rwL_get hj, Nat.mul_comm n x.val, Nat.add_assoc]
        exact HCx.out (x.val * n + j) (by omega)⟩)
      have HRB := Lib.hid hRb
      have hok : rok (rwL n xs x.val) (fiS n P xs pre).2 (P : Int) = true := decide_eq_true ⟨by omega, by omega, ⟨by omega, by omega⟩, decide_eq_true (of_byt (rwL_byt HByt.out x.val)), decide_eq_true (of_byt hf3)⟩
      have HSn := Lib.hid (fiS_snoc n P xs pre x)
      have HLen : Hid ((fiS n P xs pre).1.length ≤ 2000) := Lib.hid (by rw [hf1]; have := Nat.mul_le_mul (show pre.length ≤ 16 by omega) (show n + 1 ≤ 65 by omega); omega)
      obtain ⟨rr, hrr⟩ : ∃ rr, rr = rwL n xs x.val := ⟨_, rfl⟩
      obtain ⟨L0, hL0⟩ : ∃ L0, L0 = (fiS n P xs pre).1 := ⟨_, rfl⟩
      obtain ⟨bf, hbf⟩ : ∃ bf, bf = (fiS n P xs pre).2 := ⟨_, rfl⟩
      rw [← hrr, ← hbf] at hok
      rw [← hrr] at hrl HRw HRw0 HRwB
      rw [← hbf] at hf2 HRB
      rw [← hrr, ← hL0, ← hbf] at HSn
      rw [← hL0] at HLen hG
      obtain ⟨kd, hK⟩ : ∃ kd, kd = bst rr bf P 4 := ⟨_, rfl⟩
      have hKb : 0 ≤ kd ∧ kd ≤ 4 := by rw [hK]; exact bst_range _ _ _ 4
      rw [← hK] at HSn
      have HBF : Hid (∀ u, Rds .i64 u u.heap.size (some ⟨b, off + n * x.val, none⟩) rr → Rds .i64 u u.heap.size Ab bf → Calls Try.prog 28 #[.slice (some ⟨b, off + n * x.val, none⟩) n n, .slice Ab n cb, .int .i64 (P : Int)] u fun e w' => e = .returned (.int .i64 kd) ∧ Below u.heap.size u w') := Lib.hid (fun u h1 h2 => by
        have h := i_BestFilter (some ⟨b, off + n * x.val, none⟩) Ab n cb rr bf P u h1 h2 (by omega) (by omega)
        rw [hrl, hf2, bfl_yes hok, ← hK] at h
        exact h)
      have HFR : Hid (∀ u, Rds .i64 u u.heap.size (some ⟨b, off + n * x.val, none⟩) rr → Rds .i64 u u.heap.size Ab bf → Calls Try.prog 29 #[.int .i64 kd, .slice (some ⟨b, off + n * x.val, none⟩) n n, .slice Ab n cb, .int .i64 (P : Int)] u (Made (flt kd rr bf P n) u)) := Lib.hid (fun u h1 h2 => by
        have h := i_FilterRow kd (some ⟨b, off + n * x.val, none⟩) Ab n cb rr bf P u h1 h2 (by omega) (by omega)
        rw [hrl, hf2, fil_yes hKb.1 hKb.2 hok, hrl] at h
        exact h)
      have HAb := Lib.hid hAb
      obtain ⟨ad, had⟩ : ∃ ad, ad = off + n * x.val := ⟨_, rfl⟩
      have Had := Lib.hid had
      rw [← had] at HRw HRw0 HRwB HBF HFR ⊢
      have hm2 := hG.1.c4 (g := b2) (T := 25) (a0 := .int .i64 (W : Int)) (a1 := .int .i64 (H : Int)) (a2 := .int .i64 (P : Int)) (a3 := .slice (some ⟨b, off, none⟩) T c) (by simp)
      obtain ⟨m0, m1, m2, m3⟩ := hm2
      have c4 := cell_of_row V b4 0 _ _ _ (hG.1.bx (g := b4) (T := 23) (cs := #[.slice Ab n cb]) (by simp))
      have HG := Lib.hid hG
      have HX1 := Lib.hid x.isLt
      clear hG hRb hAb hf1 hf2 hf3 hrl hok hrr hL0 hbf hK hlt had hxl
      gi_wp2_with fail
      refine ⟨trivial, ?_⟩
      gi_at_call 28
      refine (CallsIn.inRound l (callsIn_wide.2 (HBF.out V HRw.out (HRB.out.more HG.out.2.2.2.2.1)))).mono ?_
      rintro e V1 ⟨rfl, hB1⟩
      have hG1 := GA.call HG.out hB1
      have hGa := GA.alloc hG1 (.cells #[.int .i64 kd] 3)
      have HGa := Lib.hid hGa
      have HRk : Hid (Rds .i64 (V1.alloc (.cells #[.int .i64 kd] 3)) (V1.alloc (.cells #[.int .i64 kd] 3)).heap.size (some ⟨V1.heap.size, 0, none⟩) [kd]) := Lib.hid (by
        have hx9 := Bx.new V1 3 #[.int .i64 kd]
        refine .inr ⟨V1.heap.size, 0, rfl, by simp, fun j hj => ?_⟩
        obtain rfl : j = 0 := by simpa using hj
        exact cell_of_row _ _ 0 _ _ _ hx9)
      have HBa : Hid (Below V.heap.size V (V1.alloc (.cells #[.int .i64 kd] 3))) := Lib.hid (hB1.alloc hB1.size _)
      have c5 := cell_of_row V1 b5 0 _ _ _ (hG1.1.bx (g := b5) (T := 23) (cs := #[v]) (by simp))
      clear hG1 hGa hB1 c4 m0 m1 m2 m3
      gi_wp2_with (gi_at_builtin; refine wpListIn_app rfl (.tmp 28) (.tmp 30) rfl wc.heap.size v L0 rfl HGa.out.own (some ⟨V1.heap.size, 0, none⟩) 1 _ _ [kd] rfl rfl HRk.out (by have := HLen.out; simp; omega) HGa.out.bs ?_; intro v2 V2 hO2 hG2; obtain ⟨A2, c2, rfl, _⟩ := hO2.slice; obtain ⟨n2, hn2⟩ : ∃ n2, n2 = (L0 ++ [kd]).length := ⟨_, rfl⟩; rw [← hn2] at hO2 ⊢; have Hn2 := Lib.hid hn2; clear hn2; have hS2 := GA.app HGa.out hO2 hG2; have c5b := cell_of_row V2 b5 0 _ _ _ (hS2.1.bx (g := b5) (T := 23) (cs := #[v]) (by simp)); have f5b := frozen_of_row V2 b5 0 _ _ (hS2.1.bx (g := b5) (T := 23) (cs := #[v]) (by simp)))
      have hS3 := GR.put1 (L1 := [⟨bz, 3, #[.int .i64 (n : Int)]⟩, ⟨bs, 23, #[.slice (some ⟨b, off, none⟩) T c]⟩]) (y := .slice A2 n2 c2) hS2
      have HRB3 := Lib.hid (rds_put (rds_app HGa.out (HRB.out.belowTo HBa.out HG.out.bs) hG2) (fun a ha => (HAb.out a ha).2) (.slice A2 n2 c2))
      have HS3 : Hid (GA w (V2.setCell ⟨b5, 0, none⟩ (.slice A2 n2 c2)) wc.heap.size (.slice A2 n2 c2) (L0 ++ [kd]) [ri lo0 hi0 (.slice (some ⟨lo0, 0, none⟩) n n) (zeros n)] [⟨bz, 3, #[.int .i64 (n : Int)]⟩, ⟨bs, 23, #[.slice (some ⟨b, off, none⟩) T c]⟩, ⟨b5, 23, #[.slice A2 n2 c2]⟩, ⟨b4, 23, #[.slice Ab n cb]⟩, ⟨b2, 25, #[.int .i64 (W : Int), .int .i64 (H : Int), .int .i64 (P : Int), .slice (some ⟨b, off, none⟩) T c]⟩]) := Lib.hid hS3
      have HKp3 : Hid (KeepsFrom wc.heap.size V (V2.setCell ⟨b5, 0, none⟩ (.slice A2 n2 c2)) ∧ Below V.heap.size V V) := Lib.hid ⟨(keepsBel HBa.out).trans ((GR.keeps HGa.out hG2).trans ((KeepsOthers.setCell _ _ _).from _)), Below.refl _ _⟩
      clear hS2 hS3 hO2 hG2 c5 c5b f5b HBa HGa HRk
      generalize V2.setCell ⟨b5, 0, none⟩ (.slice A2 n2 c2) = V3 at *
      have q5 := cell_of_row V3 b5 0 _ _ _ (HS3.out.1.bx (g := b5) (T := 23) (cs := #[.slice A2 n2 c2]) (by simp))
      have q4 := cell_of_row V3 b4 0 _ _ _ (HS3.out.1.bx (g := b4) (T := 23) (cs := #[.slice Ab n cb]) (by simp))
      have q2 := (HS3.out.1.c4 (g := b2) (T := 25) (a0 := .int .i64 (W : Int)) (a1 := .int .i64 (H : Int)) (a2 := .int .i64 (P : Int)) (a3 := .slice (some ⟨b, off, none⟩) T c) (by simp)).2.2.1
      refine region_round_held (S := (fun w' => w'.cell? ⟨b4, 0, none⟩ = some (.slice Ab n cb) ∧ w'.cell? ⟨b2, 2, none⟩ = some (.int .i64 (P : Int)))) (by kernel_rfl) ?hnd ?hlo (by exact ⟨q4, q2⟩) (fun hHeld => ?hwalk)
      case hnd =>
        intro i o cc hi
        rcases i with _ | _ | _ | _ | _ | _ | _ | _ | _ | i
        all_goals first
          | (simp only [List.getElem?_toArray, List.getElem?_cons_succ, List.getElem?_cons_zero, Option.some.injEq] at hi; subst hi; intro h; cases h)
          | (simp at hi)
      case hlo => rintro ⟨a', w', h⟩; exact h
      case hwalk =>
        have HSd := Lib.hid (GA.drew HS3.out)
        refine' wpAnyH_take (i := 1) (oi := _) (v := _) ?hi1 (by kernel_rfl) (by kernel_rfl) (by kernel_rfl) ?hq1 (Or.inl ⟨?hw1, ?hy1⟩) (by assumption) ?rest1
        case hi1 => (simp only [List.getElem?_toArray, List.getElem?_cons_succ, List.getElem?_cons_zero]; rfl)
        case hq1 => exact fun _ _ _ h => h
        case hw1 => rfl
        case hy1 => (intro wq hSw; (try dsimp only at hSw); go_simp; (try with_reducible rfl))
        (try simp only [Act.put, List.setIfInBounds_toArray, List.set_cons_zero, List.set_cons_succ])
        refine' wpAnyH_take (i := 2) (oi := _) (v := _) ?hi2 (by kernel_rfl) (by kernel_rfl) (by kernel_rfl) ?hq2 (Or.inl ⟨?hw2, ?hy2⟩) (by assumption) ?rest2
        case hi2 => (simp only [List.getElem?_toArray, List.getElem?_cons_succ, List.getElem?_cons_zero]; rfl)
        case hq2 => exact fun _ _ _ h => h
        case hw2 => rfl
        case hy2 => (intro wq hSw; (try dsimp only at hSw); go_simp; (try with_reducible rfl))
        (try simp only [Act.put, List.setIfInBounds_toArray, List.set_cons_zero, List.set_cons_succ])
        refine' wpAnyH_take (i := 3) (oi := _) (v := _) ?hi3 (by kernel_rfl) (by kernel_rfl) (by kernel_rfl) ?hq3 (Or.inl ⟨?hw3, ?hy3⟩) (by assumption) ?rest3
        case hi3 => (simp only [List.getElem?_toArray, List.getElem?_cons_succ, List.getElem?_cons_zero]; rfl)
        case hq3 => exact fun _ _ _ h => h
        case hw3 => rfl
        case hy3 => (intro wq hSw; (try dsimp only at hSw); go_simp; (try with_reducible rfl))
        (try simp only [Act.put, List.setIfInBounds_toArray, List.set_cons_zero, List.set_cons_succ])
        refine' wpAnyH_take (i := 4) (oi := _) (v := _) ?hi4 (by kernel_rfl) (by kernel_rfl) (by kernel_rfl) ?hq4 (Or.inl ⟨?hw4, ?hy4⟩) (by assumption) ?rest4
        case hi4 => (simp only [List.getElem?_toArray, List.getElem?_cons_succ, List.getElem?_cons_zero]; rfl)
        case hq4 => exact fun _ _ _ h => h
        case hw4 => rfl
        case hy4 => (intro wq hSw; (try dsimp only at hSw); go_simp; (try with_reducible rfl))
        (try simp only [Act.put, List.setIfInBounds_toArray, List.set_cons_zero, List.set_cons_succ])
        refine' wpAnyH_take (i := 5) (oi := _) (v := _) ?hi5 (by kernel_rfl) (by kernel_rfl) (by kernel_rfl) ?hq5 (Or.inl ⟨?hw5, ?hy5⟩) (by assumption) ?rest5
        case hi5 => (simp only [List.getElem?_toArray, List.getElem?_cons_succ, List.getElem?_cons_zero]; rfl)
        case hq5 => exact fun _ _ _ h => h
        case hw5 => rfl
        case hy5 => (intro wq hSw; (try dsimp only at hSw); go_simp; (try with_reducible rfl))
        (try simp only [Act.put, List.setIfInBounds_toArray, List.set_cons_zero, List.set_cons_succ])
        refine wpAnyH_ready (rs := [0, 6]) (by kernel_rfl) (by simp) ?_
        refine' (AllReadyH.cons (o := _) ?hj1_0 (fun K hK => ?rj1_0) (AllReadyH.cons (o := _) ?hj1_6 (fun K hK => ?rj1_6) AllReadyH.nil))
        case hj1_0 => (simp only [List.getElem?_toArray, List.getElem?_cons_succ, List.getElem?_cons_zero]; rfl)
        case hj1_6 => (simp only [List.getElem?_toArray, List.getElem?_cons_succ, List.getElem?_cons_zero]; rfl)
        case rj1_0 =>
          go_simp
          refine hK.out _ _ (by (try dsimp only); exact ⟨q4, q2⟩) (fun hHeld => ?_)
          clear hK K
          (try simp only [Act.put, List.setIfInBounds_toArray, List.set_cons_zero, List.set_cons_succ])
          refine wpAnyH_ready (rs := [6]) (by kernel_rfl) (by simp) ?_
          refine' (AllReadyH.cons (o := _) ?hj2_6 (fun K hK => ?rj2_6) AllReadyH.nil)
          case hj2_6 => (simp only [List.getElem?_toArray, List.getElem?_cons_succ, List.getElem?_cons_zero]; rfl)
          go_simp
          go_at_call 29
          refine (HFR.out V3.drew (HRw0.out V3.drew HSd.out.1.1) (HRB3.out.more HS3.out.bs)).mono ?_
          rintro e V4 ⟨v4, rfl, hO4, hB4⟩
          obtain ⟨A4, c4, rfl, _⟩ := hO4.slice
          have HS4 := Lib.hid (GA.call HSd.out hB4)
          have HR4 := Lib.hid hO4.rds.2
          have HB4 := Lib.hid hB4
          have HRB4 := Lib.hid ((show Rds .i64 V3.drew wc.heap.size Ab bf from HRB3.out).belowTo hB4 HS3.out.bs)
          clear hO4 hB4 q5 q4 q2
          have q5 := cell_of_row _ b5 0 _ _ _ (HS4.out.1.bx (g := b5) (T := 23) (cs := #[.slice A2 n2 c2]) (by simp))
          have q4 := cell_of_row _ b4 0 _ _ _ (HS4.out.1.bx (g := b4) (T := 23) (cs := #[.slice Ab n cb]) (by simp))
          have q2 := (HS4.out.1.c4 (g := b2) (T := 25) (a0 := .int .i64 (W : Int)) (a1 := .int .i64 (H : Int)) (a2 := .int .i64 (P : Int)) (a3 := .slice (some ⟨b, off, none⟩) T c) (by simp)).2.2.1
          go_wp2_with fail
          refine hK.out _ _ (by (try dsimp only); exact ⟨q4, q2⟩) (fun hHeld => ?_)
          clear hK K
          (try simp only [Act.put, List.setIfInBounds_toArray, List.set_cons_zero, List.set_cons_succ])
          refine wpAnyH_ready (rs := [7]) (by kernel_rfl) (by simp) ?_
          refine' (AllReadyH.cons (o := _) ?hj3_7 (fun K hK => ?rj3_7) AllReadyH.nil)
          case hj3_7 => (simp only [List.getElem?_toArray, List.getElem?_cons_succ, List.getElem?_cons_zero]; rfl)
          (rw [if_pos (by first | rfl | kernel_rfl)])
          refine wp_app (.tmp 32) (.tmp 38) rfl wc.heap.size (.slice A2 n2 c2) (L0 ++ [kd]) rfl HS4.out.own A4 _ _ V4.heap.size (flt kd rr bf P n) rfl rfl HR4.out (by have := HLen.out; rw [flt_len]; simp; omega) HS4.out.bs ?_
          intro v5 V5 hO5 hG5
          obtain ⟨A5, c5, rfl, _⟩ := hO5.slice
          obtain ⟨n5, hn5⟩ : ∃ n5, n5 = (L0 ++ [kd] ++ flt kd rr bf P n).length := ⟨_, rfl⟩
          rw [← hn5] at hO5 ⊢
          clear hn5
          have HS5 := Lib.hid (GA.app HS4.out hO5 hG5)
          have HG5 := Lib.hid hG5
          have HRB5 := Lib.hid (rds_app HS4.out HRB4.out hG5)
          clear hO5 hG5 q5 q4 q2
          have q5 := cell_of_row _ b5 0 _ _ _ (HS5.out.1.bx (g := b5) (T := 23) (cs := #[.slice A2 n2 c2]) (by simp))
          have q4 := cell_of_row _ b4 0 _ _ _ (HS5.out.1.bx (g := b4) (T := 23) (cs := #[.slice Ab n cb]) (by simp))
          have q2 := (HS5.out.1.c4 (g := b2) (T := 25) (a0 := .int .i64 (W : Int)) (a1 := .int .i64 (H : Int)) (a2 := .int .i64 (P : Int)) (a3 := .slice (some ⟨b, off, none⟩) T c) (by simp)).2.2.1
          refine hK.out _ _ (by (try dsimp only); exact ⟨q4, q2⟩) (fun hHeld => ?_)
          clear hK K
          (try simp only [Act.put, List.setIfInBounds_toArray, List.set_cons_zero, List.set_cons_succ])
          have z5 := cell_of_row _ b5 0 _ _ _ (HS5.out.1.bx (g := b5) (T := 23) (cs := #[.slice A2 n2 c2]) (by simp))
          have y5 := frozen_of_row _ b5 0 _ _ (HS5.out.1.bx (g := b5) (T := 23) (cs := #[.slice A2 n2 c2]) (by simp))
          have HS6x := Lib.hid (GR.put1 (L1 := [⟨bz, 3, #[.int .i64 (n : Int)]⟩, ⟨bs, 23, #[.slice (some ⟨b, off, none⟩) T c]⟩]) (y := .slice A5 n5 c5) HS5.out)
          refine wpAnyH_ready (rs := [8]) (by kernel_rfl) (by simp) ?_
          refine' (AllReadyH.cons (o := _) ?hj4_8 (fun K hK => ?rj4_8) AllReadyH.nil)
          case hj4_8 => (simp only [List.getElem?_toArray, List.getElem?_cons_succ, List.getElem?_cons_zero]; rfl)
          go_simp
          refine hK.out _ _ (by (try dsimp only); exact ⟨cell_of_row _ b4 0 _ _ _ (HS6x.out.1.bx (g := b4) (T := 23) (cs := #[.slice Ab n cb]) (by simp)), (HS6x.out.1.c4 (g := b2) (T := 25) (a0 := .int .i64 (W : Int)) (a1 := .int .i64 (H : Int)) (a2 := .int .i64 (P : Int)) (a3 := .slice (some ⟨b, off, none⟩) T c) (by simp)).2.2.1⟩) (fun hHeld => ?_)
          clear hK K
          (try simp only [Act.put, List.setIfInBounds_toArray, List.set_cons_zero, List.set_cons_succ])
          refine wpAnyH_done (by kernel_rfl) ?_ _
          have HKf : Hid (KeepsFrom wc.heap.size V (V5.setCell ⟨b5, 0, none⟩ (.slice A5 n5 c5))) := Lib.hid (HKp3.out.1.trans (((KeepsOthers.drew V3).from _).trans ((keepsBel HB4.out).trans ((GR.keeps HS4.out HG5.out).trans ((KeepsOthers.setCell _ _ _).from _)))))
          have x4 := cell_of_row _ b4 0 _ _ _ (HS6x.out.1.bx (g := b4) (T := 23) (cs := #[.slice Ab n cb]) (by simp))
          have y4 := frozen_of_row _ b4 0 _ _ (HS6x.out.1.bx (g := b4) (T := 23) (cs := #[.slice Ab n cb]) (by simp))
          have HS7 := Lib.hid (GR.put1 (L1 := [⟨bz, 3, #[.int .i64 (n : Int)]⟩, ⟨bs, 23, #[.slice (some ⟨b, off, none⟩) T c]⟩, ⟨b5, 23, #[.slice A5 n5 c5]⟩]) (y := .slice (some ⟨b, ad, none⟩) n n) HS6x.out)
          have HR7 := Lib.hid (HRwB.out _ HS7.out.1.1)
          have hbw := Hbw.out
          have hbb := Hbb.out
          clear HS6x HS5 HS4 HSd HS3 HRB4 HRB5 HR4 HKp3 HB4 HG5 q5 q4 q2 z5 y5
          generalize V5.setCell ⟨b5, 0, none⟩ (.slice A5 n5 c5) = V6 at *
          gi_wp2
          exact ⟨HKf.out.trans ((KeepsOthers.setCell _ _ _).from _), ⟨fun _ => HS7.out.1.bx (g := bs) (T := 23) (cs := #[.slice (some ⟨b, off, none⟩) T c]) (by simp), fun _ => HS7.out.1.bx (g := bz) (T := 3) (cs := #[.int .i64 (n : Int)]) (by simp)⟩, ⟨.slice A5 n5 c5, some ⟨b, ad, none⟩, n, by rw [HSn.out]; exact HS7.out, by rw [HSn.out]; exact HR7.out, fun a ha => by injection ha with ha; subst ha; exact ⟨by show b ≠ b4; omega, by show b ≠ b5; omega⟩, Nat.le_refl _⟩⟩
        case rj1_6 =>
          go_simp
          go_at_call 29
          refine (HFR.out V3.drew (HRw0.out V3.drew HSd.out.1.1) (HRB3.out.more HS3.out.bs)).mono ?_
          rintro e V4 ⟨v4, rfl, hO4, hB4⟩
          obtain ⟨A4, c4, rfl, _⟩ := hO4.slice
          have HS4 := Lib.hid (GA.call HSd.out hB4)
          have HR4 := Lib.hid hO4.rds.2
          have HB4 := Lib.hid hB4
          have HRB4 := Lib.hid ((show Rds .i64 V3.drew wc.heap.size Ab bf from HRB3.out).belowTo hB4 HS3.out.bs)
          clear hO4 hB4 q5 q4 q2
          have q5 := cell_of_row _ b5 0 _ _ _ (HS4.out.1.bx (g := b5) (T := 23) (cs := #[.slice A2 n2 c2]) (by simp))
          have q4 := cell_of_row _ b4 0 _ _ _ (HS4.out.1.bx (g := b4) (T := 23) (cs := #[.slice Ab n cb]) (by simp))
          have q2 := (HS4.out.1.c4 (g := b2) (T := 25) (a0 := .int .i64 (W : Int)) (a1 := .int .i64 (H : Int)) (a2 := .int .i64 (P : Int)) (a3 := .slice (some ⟨b, off, none⟩) T c) (by simp)).2.2.1
          go_wp2_with fail
          refine hK.out _ _ (by (try dsimp only); exact ⟨q4, q2⟩) (fun hHeld => ?_)
          clear hK K
          (try simp only [Act.put, List.setIfInBounds_toArray, List.set_cons_zero, List.set_cons_succ])
          refine wpAnyH_ready (rs := [0]) (by kernel_rfl) (by simp) ?_
          refine' (AllReadyH.cons (o := _) ?hj5_0 (fun K hK => ?rj5_0) AllReadyH.nil)
          case hj5_0 => (simp only [List.getElem?_toArray, List.getElem?_cons_succ, List.getElem?_cons_zero]; rfl)
          go_simp
          refine hK.out _ _ (by (try dsimp only); exact ⟨q4, q2⟩) (fun hHeld => ?_)
          clear hK K
          (try simp only [Act.put, List.setIfInBounds_toArray, List.set_cons_zero, List.set_cons_succ])
          refine wpAnyH_ready (rs := [7]) (by kernel_rfl) (by simp) ?_
          refine' (AllReadyH.cons (o := _) ?hj6_7 (fun K hK => ?rj6_7) AllReadyH.nil)
          case hj6_7 => (simp only [List.getElem?_toArray, List.getElem?_cons_succ, List.getElem?_cons_zero]; rfl)
          (rw [if_pos (by first | rfl | kernel_rfl)])
          refine wp_app (.tmp 32) (.tmp 38) rfl wc.heap.size (.slice A2 n2 c2) (L0 ++ [kd]) rfl HS4.out.own A4 _ _ V4.heap.size (flt kd rr bf P n) rfl rfl HR4.out (by have := HLen.out; rw [flt_len]; simp; omega) HS4.out.bs ?_
          intro v5 V5 hO5 hG5
          obtain ⟨A5, c5, rfl, _⟩ := hO5.slice
          obtain ⟨n5, hn5⟩ : ∃ n5, n5 = (L0 ++ [kd] ++ flt kd rr bf P n).length := ⟨_, rfl⟩
          rw [← hn5] at hO5 ⊢
          clear hn5
          have HS5 := Lib.hid (GA.app HS4.out hO5 hG5)
          have HG5 := Lib.hid hG5
          have HRB5 := Lib.hid (rds_app HS4.out HRB4.out hG5)
          clear hO5 hG5 q5 q4 q2
          have q5 := cell_of_row _ b5 0 _ _ _ (HS5.out.1.bx (g := b5) (T := 23) (cs := #[.slice A2 n2 c2]) (by simp))
          have q4 := cell_of_row _ b4 0 _ _ _ (HS5.out.1.bx (g := b4) (T := 23) (cs := #[.slice Ab n cb]) (by simp))
          have q2 := (HS5.out.1.c4 (g := b2) (T := 25) (a0 := .int .i64 (W : Int)) (a1 := .int .i64 (H : Int)) (a2 := .int .i64 (P : Int)) (a3 := .slice (some ⟨b, off, none⟩) T c) (by simp)).2.2.1
          refine hK.out _ _ (by (try dsimp only); exact ⟨q4, q2⟩) (fun hHeld => ?_)
          clear hK K
          (try simp only [Act.put, List.setIfInBounds_toArray, List.set_cons_zero, List.set_cons_succ])
          have z5 := cell_of_row _ b5 0 _ _ _ (HS5.out.1.bx (g := b5) (T := 23) (cs := #[.slice A2 n2 c2]) (by simp))
          have y5 := frozen_of_row _ b5 0 _ _ (HS5.out.1.bx (g := b5) (T := 23) (cs := #[.slice A2 n2 c2]) (by simp))
          have HS6x := Lib.hid (GR.put1 (L1 := [⟨bz, 3, #[.int .i64 (n : Int)]⟩, ⟨bs, 23, #[.slice (some ⟨b, off, none⟩) T c]⟩]) (y := .slice A5 n5 c5) HS5.out)
          refine wpAnyH_ready (rs := [8]) (by kernel_rfl) (by simp) ?_
          refine' (AllReadyH.cons (o := _) ?hj7_8 (fun K hK => ?rj7_8) AllReadyH.nil)
          case hj7_8 => (simp only [List.getElem?_toArray, List.getElem?_cons_succ, List.getElem?_cons_zero]; rfl)
          go_simp
          refine hK.out _ _ (by (try dsimp only); exact ⟨cell_of_row _ b4 0 _ _ _ (HS6x.out.1.bx (g := b4) (T := 23) (cs := #[.slice Ab n cb]) (by simp)), (HS6x.out.1.c4 (g := b2) (T := 25) (a0 := .int .i64 (W : Int)) (a1 := .int .i64 (H : Int)) (a2 := .int .i64 (P : Int)) (a3 := .slice (some ⟨b, off, none⟩) T c) (by simp)).2.2.1⟩) (fun hHeld => ?_)
          clear hK K
          (try simp only [Act.put, List.setIfInBounds_toArray, List.set_cons_zero, List.set_cons_succ])
          refine wpAnyH_done (by kernel_rfl) ?_ _
          have HKf : Hid (KeepsFrom wc.heap.size V (V5.setCell ⟨b5, 0, none⟩ (.slice A5 n5 c5))) := Lib.hid (HKp3.out.1.trans (((KeepsOthers.drew V3).from _).trans ((keepsBel HB4.out).trans ((GR.keeps HS4.out HG5.out).trans ((KeepsOthers.setCell _ _ _).from _)))))
          have x4 := cell_of_row _ b4 0 _ _ _ (HS6x.out.1.bx (g := b4) (T := 23) (cs := #[.slice Ab n cb]) (by simp))
          have y4 := frozen_of_row _ b4 0 _ _ (HS6x.out.1.bx (g := b4) (T := 23) (cs := #[.slice Ab n cb]) (by simp))
          have HS7 := Lib.hid (GR.put1 (L1 := [⟨bz, 3, #[.int .i64 (n : Int)]⟩, ⟨bs, 23, #[.slice (some ⟨b, off, none⟩) T c]⟩, ⟨b5, 23, #[.slice A5 n5 c5]⟩]) (y := .slice (some ⟨b, ad, none⟩) n n) HS6x.out)
          have HR7 := Lib.hid (HRwB.out _ HS7.out.1.1)
          have hbw := Hbw.out
          have hbb := Hbb.out
          clear HS6x HS5 HS4 HSd HS3 HRB4 HRB5 HR4 HKp3 HB4 HG5 q5 q4 q2 z5 y5
          generalize V5.setCell ⟨b5, 0, none⟩ (.slice A5 n5 c5) = V6 at *
          gi_wp2
          exact ⟨HKf.out.trans ((KeepsOthers.setCell _ _ _).from _), ⟨fun _ => HS7.out.1.bx (g := bs) (T := 23) (cs := #[.slice (some ⟨b, off, none⟩) T c]) (by simp), fun _ => HS7.out.1.bx (g := bz) (T := 3) (cs := #[.int .i64 (n : Int)]) (by simp)⟩, ⟨.slice A5 n5 c5, some ⟨b, ad, none⟩, n, by rw [HSn.out]; exact HS7.out, by rw [HSn.out]; exact HR7.out, fun a ha => by injection ha with ha; subst ha; exact ⟨by show b ≠ b4; omega, by show b ≠ b5; omega⟩, Nat.le_refl _⟩⟩
end Go.Proofs.Ytolifmgkkkclkaa
