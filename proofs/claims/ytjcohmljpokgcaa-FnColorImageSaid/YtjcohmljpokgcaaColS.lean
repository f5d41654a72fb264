/- ColorImage of the model. -/
import Derived.Test.YtjcohmljpokgcaaNcS
import Derived.Test.YtjcohmljpokgcaaGenP
import Derived.Test.YtjcohmljpokgcaaSpecM
import Derived.Test.YtjcohmljpokgcaaInvI
import Derived.Deep.RegionHeld3
namespace Go.Proofs.Ytjcohmljpokgcaa
open Go.RowKit
set_option linter.unusedSimpArgs false
set_option linter.unusedVariables false
set_option maxRecDepth 20000

/-- Whether the numbers of an image are places of a palette. -/
def ciOk (W H P : Int) (xs : List Int) (xss : List (List Int)) (a : Int) : Bool := vim W H P xs && (decide (P = 1) && (decide (1 ≤ a ∧ a ≤ 4) && (palB xss a && allB 0 ((xss.length : Int) - 1) xs)))
def ciF (W : Nat) (xs : List Int) (xss : List (List Int)) (x y p : Nat) : Int := (xss.getD (px W 1 xs x y 0).toNat []).getD p 0
def ciL (W H a : Nat) (xs : List Int) (xss : List (List Int)) : List Int := img W H a (ciF W xs xss)
/-- An image of the call's own, and whether. -/
def ColR (ok : Bool) (W H P : Int) (ys : List Int) (w : World) (e : Ending) (w' : World) : Prop :=
  ∃ v, e = .returned (.tuple #[.agg #[.int .i64 (cond ok W 0), .int .i64 (cond ok H 0), .int .i64 (cond ok P 0), v], .bool ok]) ∧ Own w' w.heap.size v (cond ok ys []) ∧ Below w.heap.size w w'
theorem ColR.no {ok : Bool} {W H P : Int} {ys : List Int} {w w' : World} (h : ok = false) (hb : Below w.heap.size w w') : ColR ok W H P ys w (.returned (.tuple #[.agg #[.int .i64 0, .int .i64 0, .int .i64 0, .slice none 0 0], .bool false])) w' := by
  subst h
  exact ⟨_, rfl, World.ownsRow_nil _ _ _ _, hb⟩
theorem ColR.yes {ok : Bool} {W H P : Int} {ys : List Int} {w w' : World} {v : Value} (h : ok = true) (ho : Own w' w.heap.size v ys) (hb : Below w.heap.size w w') : ColR ok W H P ys w (.returned (.tuple #[.agg #[.int .i64 W, .int .i64 H, .int .i64 P, v], .bool true])) w' := by
  subst h
  exact ⟨_, rfl, ho, hb⟩
theorem allB_bd {lo hi : Int} {xs : List Int} (h : allB lo hi xs = true) (j : Nat) (hj : j < xs.length) : lo ≤ xs.getD j 0 ∧ xs.getD j 0 ≤ hi := by
  unfold allB at h
  exact of_decide_eq_true h (xs.getD j 0) (by rw [List.getD_eq_getElem?_getD, List.getElem?_eq_getElem hj]; exact List.getElem_mem hj)
theorem ci_at {W H a k p : Nat} {xs : List Int} {xss : List (List Int)} {vn : Nat} (hk : k < W * H) (hp : p < a) (hv : xs.getD k 0 = (vn : Int)) : (ciL W H a xs xss).getD (k * a + p) 0 = (xss.getD vn []).getD p 0 := by
  unfold ciL
  rw [img_at _ hk hp]
  unfold ciF px pix
  rw [show (k / W * W + k % W) * 1 + 0 = k by rw [Nat.mul_one, Nat.add_zero, Nat.mul_comm]; exact Nat.div_add_mod k W, hv]
  rfl
set_option maxHeartbeats 16000000 in
theorem s_ColorImage (W H P a : Int) (A : Option Addr) (c : Nat) (xs : List Int) (A2 : Option Addr) (n2 c2 : Nat) (xss : List (List Int)) (w : World) (hx : Rds .i64 w w.heap.size A xs) (hl : xs.length ≤ 2000000) (hlc : xs.length ≤ c) (hs : Rdss w w.heap.size A2 xss) (hn2 : n2 = xss.length) (ht : tot xss ≤ 2000000) :
    Calls Try.prog 8 #[.agg #[.int .i64 W, .int .i64 H, .int .i64 P, .slice A xs.length c], .slice A2 n2 c2, .int .i64 a] w (ColR (ciOk W H P xs xss a) W H a (ciL W.toNat H.toNat a.toNat xs xss) w) := by
  have HX := Lib.hid hx
  have HS := Lib.hid hs
  have Hn2 := Lib.hid hn2
  have Htt := Lib.hid ht
  have hnl2 : n2 ≤ 2000000 := by rw [hn2]; unfold tot at ht; omega
  clear hx hs hn2 ht
  have S0 : GS w ((w.alloc (.cells #[.int .i64 W, .int .i64 H, .int .i64 P, .slice A xs.length c] 25)).alloc (.cells #[.int .i64 0, .int .i64 0, .int .i64 0, .slice none 0 0] 25)) [] [⟨(w.heap.size + 1), 25, #[.int .i64 0, .int .i64 0, .int .i64 0, .slice none 0 0]⟩, ⟨w.heap.size, 25, #[.int .i64 W, .int .i64 H, .int .i64 P, .slice A xs.length c]⟩] := GS.box' (GS.box' (GS.start w) 25 #[.int .i64 W, .int .i64 H, .int .i64 P, .slice A xs.length c] w.heap.size (by simp)) 25 #[.int .i64 0, .int .i64 0, .int .i64 0, .slice none 0 0] (w.heap.size + 1) (by simp)
  have HV : Hid (ciOk W H P xs xss a = (vim W H P xs && (decide (P = 1) && (decide (1 ≤ a ∧ a ≤ 4) && (palB xss a && allB 0 ((xss.length : Int) - 1) xs))))) := Lib.hid rfl
  go_enter Try.func8, Try.ntmps8
  go_wp2_with fail
  generalize (w.alloc (.cells #[.int .i64 W, .int .i64 H, .int .i64 P, .slice A xs.length c] 25)).alloc (.cells #[.int .i64 0, .int .i64 0, .int .i64 0, .slice none 0 0] 25) = u0 at *
  refine (sVimg_any W H P A c xs u0 (S0.arg HX.out) hl).mono ?_
  rintro e u1 ⟨rfl, hB⟩
  have S1 := S0.call hB
  clear hB S0
  cases hv : vim W H P xs
  · have Hv : Hid (ciOk W H P xs xss a = false) := Lib.hid (by rw [HV.out, hv]; rfl)
    clear hv HV
    obtain ⟨r0, r1, r2, r3⟩ := S1.b0_4
    have f0 := S1.f0 0
    have f1 := S1.f0 1
    have f2 := S1.f0 2
    have f3 := S1.f0 3
    have HE := Lib.hid (S1.e0_4 (.int .i64 0) (.int .i64 0) (.int .i64 0) (.slice none 0 0))
    clear S1
    go_wp2
    exact bodyPost_ret (v := .tuple #[.agg #[.int .i64 0, .int .i64 0, .int .i64 0, .slice none 0 0], .bool false]) (by simp [results, Try.results8, go_sem, r0, r1, r2, r3]) rfl (ColR.no Hv.out HE.out.1)
  by_cases hP1 : P = 1
  case neg =>
    have Hv : Hid (ciOk W H P xs xss a = false) := Lib.hid (by rw [HV.out, decide_eq_false hP1]; simp)
    have hPb : (P != 1) = true := bne_iff_ne.2 hP1
    clear hv HV
    obtain ⟨d0, d1, d2, d3⟩ := S1.b1_4
    obtain ⟨r0, r1, r2, r3⟩ := S1.b0_4
    have f0 := S1.f0 0
    have f1 := S1.f0 1
    have f2 := S1.f0 2
    have f3 := S1.f0 3
    have HE := Lib.hid (S1.e0_4 (.int .i64 0) (.int .i64 0) (.int .i64 0) (.slice none 0 0))
    clear S1
    go_wp2
    exact bodyPost_ret (v := .tuple #[.agg #[.int .i64 0, .int .i64 0, .int .i64 0, .slice none 0 0], .bool false]) (by simp [results, Try.results8, go_sem, r0, r1, r2, r3]) rfl (ColR.no Hv.out HE.out.1)
  subst hP1
  by_cases ha : 1 ≤ a ∧ a ≤ 4
  case neg =>
    have Hv : Hid (ciOk W H 1 xs xss a = false) := Lib.hid (by rw [HV.out, decide_eq_false ha]; simp)
    have HA := Lib.hid ha
    clear hv HV ha
    obtain ⟨d0, d1, d2, d3⟩ := S1.b1_4
    go_wp2_with fail
    refine (sIn_any a 1 4 _).mono ?_
    rintro e w2 ⟨rfl, rfl⟩
    rw [decide_eq_false HA.out]
    clear d0 d1 d2 d3
    obtain ⟨r0, r1, r2, r3⟩ := S1.b0_4
    have f0 := S1.f0 0
    have f1 := S1.f0 1
    have f2 := S1.f0 2
    have f3 := S1.f0 3
    have HE := Lib.hid (S1.e0_4 (.int .i64 0) (.int .i64 0) (.int .i64 0) (.slice none 0 0))
    clear S1
    go_wp2
    exact bodyPost_ret (v := .tuple #[.agg #[.int .i64 0, .int .i64 0, .int .i64 0, .slice none 0 0], .bool false]) (by simp [results, Try.results8, go_sem, r0, r1, r2, r3]) rfl (ColR.no Hv.out HE.out.1)
  obtain ⟨d0, d1, d2, d3⟩ := S1.b1_4
  have HA := Lib.hid ha
  clear ha
  go_wp2_with fail
  refine (sIn_any a 1 4 _).mono ?_
  rintro e w2 ⟨rfl, rfl⟩
  rw [decide_eq_true HA.out]
  go_wp2_with fail
  have HSu := Lib.hid ((HS.out.below S1.below).more S1.below.size)
  refine (sVcs_any A2 c2 n2 _ xss a u1 Hn2.out HSu.out Htt.out).mono ?_
  rintro e w2 ⟨rfl, rfl⟩
  cases hp : palB xss a
  · have Hv : Hid (ciOk W H 1 xs xss a = false) := Lib.hid (by rw [HV.out, hp]; simp)
    clear hv HV hp d0 d1 d2 d3
    obtain ⟨r0, r1, r2, r3⟩ := S1.b0_4
    have f0 := S1.f0 0
    have f1 := S1.f0 1
    have f2 := S1.f0 2
    have f3 := S1.f0 3
    have HE := Lib.hid (S1.e0_4 (.int .i64 0) (.int .i64 0) (.int .i64 0) (.slice none 0 0))
    clear S1
    go_wp2
    exact bodyPost_ret (v := .tuple #[.agg #[.int .i64 0, .int .i64 0, .int .i64 0, .slice none 0 0], .bool false]) (by simp [results, Try.results8, go_sem, r0, r1, r2, r3]) rfl (ColR.no Hv.out HE.out.1)
  have hpo := palB_of hp
  have hw1 : IntKind.i64.wrap ((n2 : Int) - 1) = (n2 : Int) - 1 := IntWalk.i64_in _ (by omega)
  go_wp2_with fail
  refine (sAllIn_any A c _ xs 0 ((n2 : Int) - 1) u1 (S1.arg HX.out) (by omega)).mono ?_
  rintro e w2 ⟨rfl, rfl⟩
  cases hal : allB 0 ((n2 : Int) - 1) xs
  · have Hv : Hid (ciOk W H 1 xs xss a = false) := Lib.hid (by rw [HV.out, ← Hn2.out, hal]; simp)
    clear hv HV hp hal d0 d1 d2 d3 hpo
    obtain ⟨r0, r1, r2, r3⟩ := S1.b0_4
    have f0 := S1.f0 0
    have f1 := S1.f0 1
    have f2 := S1.f0 2
    have f3 := S1.f0 3
    have HE := Lib.hid (S1.e0_4 (.int .i64 0) (.int .i64 0) (.int .i64 0) (.slice none 0 0))
    clear S1
    go_wp2
    exact bodyPost_ret (v := .tuple #[.agg #[.int .i64 0, .int .i64 0, .int .i64 0, .slice none 0 0], .bool false]) (by simp [results, Try.results8, go_sem, r0, r1, r2, r3]) rfl (ColR.no Hv.out HE.out.1)
  have Hv : Hid (ciOk W H 1 xs xss a = true) := Lib.hid (by rw [HV.out, ← Hn2.out, hv, hp, hal, decide_eq_true HA.out]; rfl)
  clear HV
  obtain ⟨W, H, P, rfl, rfl, hP, hW1, hW, hH1, hH, hP1, hPm, hln, hby⟩ := vim_nat hv
  obtain rfl : P = 1 := by omega
  obtain ⟨a, rfl⟩ := Int.eq_ofNat_of_zero_le (show 0 ≤ a by have := HA.out; omega)
  have ha4 : 1 ≤ a ∧ a ≤ 4 := by have := HA.out; omega
  rw [Nat.mul_one] at hln
  have hpos : 0 < xs.length := by rw [hln]; exact Nat.mul_pos hW1 hH1
  obtain ⟨b, off, rfl, hb, hcx⟩ := HX.out.cells_ hpos
  obtain ⟨n1, hn1⟩ : ∃ n1, n1 = xs.length := ⟨_, rfl⟩
  have HVn : Hid (∀ k, k < n1 → ∃ vn : Nat, xs.getD k 0 = (vn : Int) ∧ vn < n2) := Lib.hid (fun k hk => by
    have h1 := allB_bd hal k (by omega)
    exact ⟨(xs.getD k 0).toNat, by omega, by omega⟩)
  have hWH : W * H ≤ 256 := by have := Nat.mul_le_mul hW hH; omega
  obtain ⟨n, hn⟩ : ∃ n, n = W * H * a := ⟨_, rfl⟩
  have hn1024 : n ≤ 1024 := by rw [hn]; have := Nat.mul_le_mul hWH ha4.2; omega
  obtain ⟨L, hL⟩ : ∃ L, L = ciL W H a xs xss := ⟨_, rfl⟩
  have HLL : Hid (L.length = n) := Lib.hid (by rw [hL, hn]; exact img_len ..)
  have HLA : Hid (∀ (k p vn : Nat), k < n1 → p < a → xs.getD k 0 = (vn : Int) → L.getD (k * a + p) 0 = (xss.getD vn []).getD p 0) := Lib.hid (fun k p vn hk hp hv => by rw [hL]; exact ci_at (by rw [← hln, ← hn1]; exact hk) hp hv)
  have HRow := Lib.hid (fun i (hi : i < n2) => hpo.2 i (by have := Hn2.out; omega))
  have HCx := Lib.hid hcx
  have HN1 : Hid (n1 * a = n) := Lib.hid (by rw [hn1, hln, hn])
  have hn1b : n1 ≤ 256 := by omega
  have HBl := Lib.hid S1.below
  have hbu : b < u1.heap.size := Nat.lt_of_lt_of_le hb S1.below.size
  have h0pos : 0 < n2 := by obtain ⟨vn, _, h2⟩ := HVn.out 0 (by omega); omega
  obtain ⟨b2, off2, zA, zc, hA2, hb2u, zh1, zh2, zh3⟩ := HSu.out.at (i := 0) (by have := Hn2.out; omega)
  clear zh1 zh2 zh3 zA zc
  subst hA2
  have HL0 := Lib.hid hL
  have Hn := Lib.hid hn
  have Hn1 := Lib.hid hn1
  have Hg0 : Hid (0 < W * H * a) := Lib.hid (Nat.mul_pos (Nat.mul_pos hW1 hH1) ha4.1)
  clear hP hn hL hn1 hln hv hby hP1 hPm hcx hp hpo hal HX HS
  go_wp2_with fail
  refine (newImage_any W H a hW hH ha4.2 u1).mono ?_
  rintro e u3 ⟨v3, rfl, hO3, hB3⟩
  have hzl : (zeros (W * H * a)).length = n := by simp [zeros, Hn.out]
  obtain ⟨g, c3, rfl, hg1, hg2⟩ := hO3.form (by rw [hzl, Hn.out]; exact Hg0.out)
  have S3 := S1.add hO3 hB3
  rw [hzl] at S3 ⊢
  rw [← Hn.out] at S3
  rw [← Hn1.out] at S3 ⊢
  obtain ⟨lo3, hlo3⟩ : ∃ lo3, lo3 = u1.heap.size := ⟨_, rfl⟩
  obtain ⟨hi3, hhi3⟩ : ∃ hi3, hi3 = u3.heap.size := ⟨_, rfl⟩
  obtain ⟨b3, hb3⟩ : ∃ b3, b3 = u3.heap.size := ⟨_, rfl⟩
  rw [← hlo3, ← hhi3] at S3
  have HI0 : Hid (GS w (u3.alloc (.cells #[.int .i64 (W : Int), .int .i64 (H : Int), .int .i64 (a : Int), .slice (some ⟨g, 0, none⟩) n c3] 25)) [ri lo3 hi3 (.slice (some ⟨g, 0, none⟩) n c3) (L.take 0 ++ zeros (n - 0))] [⟨b3, 25, #[.int .i64 (W : Int), .int .i64 (H : Int), .int .i64 (a : Int), .slice (some ⟨g, 0, none⟩) n c3]⟩, ⟨w.heap.size + 1, 25, #[.int .i64 0, .int .i64 0, .int .i64 0, .slice none 0 0]⟩, ⟨w.heap.size, 25, #[.int .i64 (W : Int), .int .i64 (H : Int), .int .i64 1, .slice (some ⟨b, off, none⟩) n1 c]⟩] ∧ Below u1.heap.size u1 (u3.alloc (.cells #[.int .i64 (W : Int), .int .i64 (H : Int), .int .i64 (a : Int), .slice (some ⟨g, 0, none⟩) n c3] 25))) :=
    Lib.hid ⟨by simpa using GS.box' S3 _ _ b3 hb3, hB3.alloc hB3.size _⟩
  have HB3 := Lib.hid hb3
  have hgu : u1.heap.size ≤ g := hg1
  clear hO3 hB3 S1 S3 hzl hlo3 hhi3 hb3 hg1 hg2 d0 d1 d2 d3 hpos hW1 hH1
  go_wp2
  (try rw [← HB3.out])
  go_loopw [9, 10] (fun i q wr => ∃ k : Nat, k ≤ n1 ∧ i = .int .i64 (k : Int) ∧ Hid (GS w wr [ri lo3 hi3 (.slice (some ⟨g, 0, none⟩) n c3) (L.take (k * a) ++ zeros (n - (k * a)))] [⟨b3, 25, #[.int .i64 (W : Int), .int .i64 (H : Int), .int .i64 (a : Int), .slice (some ⟨g, 0, none⟩) n c3]⟩, ⟨w.heap.size + 1, 25, #[.int .i64 0, .int .i64 0, .int .i64 0, .slice none 0 0]⟩, ⟨w.heap.size, 25, #[.int .i64 (W : Int), .int .i64 (H : Int), .int .i64 1, .slice (some ⟨b, off, none⟩) n1 c]⟩] ∧ Below u1.heap.size u1 wr)) (fun i _ _ => n1 - (intOf i).toNat)
  case atStart => exact ⟨0, Nat.zero_le _, rfl, by simpa using HI0⟩
  case round =>
    obtain ⟨k, hk, rfl, hI⟩ := hrel
    clear HI0
    obtain ⟨o0, o1, o2, o3⟩ := hI.out.1.b0_4
    obtain ⟨m0, m1, m2, m3⟩ := hI.out.1.b2_4
    by_cases hlt : k < n1
    · obtain ⟨vn, hvn, hv2⟩ := HVn.out k hlt
      obtain ⟨bz, oz, Av, cv, hA2, hb2', hcv, hcell, hrow⟩ := HSu.out.at (i := vn) (by have := Hn2.out; omega)
      injection hA2 with hA2; injection hA2 with e1 e2; subst e1; subst e2
      have hvl : (xss.getD vn []).length = a := by have := (HRow.out vn hv2).1; omega
      rw [hvl] at hcell
      obtain ⟨bv, ov, rfl, hbv, hcv2⟩ := hrow.cells_ (j := 0) (by rw [hvl]; omega)
      have HCell := Lib.hid hcell
      have HCv := Lib.hid hcv2
      have Hvl := Lib.hid hvl
      have Hvn := Lib.hid hvn
      clear hcell hrow hcv2 hvl hvn hb2' hcv
      go_wp2
      go_loopw [10] (fun q wr => ∃ p : Nat, p ≤ a ∧ q = .int .i64 (p : Int) ∧ Hid (GS w wr [ri lo3 hi3 (.slice (some ⟨g, 0, none⟩) n c3) (L.take (k * a + p) ++ zeros (n - (k * a + p)))] [⟨b3, 25, #[.int .i64 (W : Int), .int .i64 (H : Int), .int .i64 (a : Int), .slice (some ⟨g, 0, none⟩) n c3]⟩, ⟨w.heap.size + 1, 25, #[.int .i64 0, .int .i64 0, .int .i64 0, .slice none 0 0]⟩, ⟨w.heap.size, 25, #[.int .i64 (W : Int), .int .i64 (H : Int), .int .i64 1, .slice (some ⟨b, off, none⟩) n1 c]⟩] ∧ Below u1.heap.size u1 wr)) (fun q _ => a - (intOf q).toNat)
      case atStart => exact ⟨0, Nat.zero_le _, rfl, hI⟩
      case round =>
        obtain ⟨p, hp, rfl, hJ⟩ := hrel
        by_cases hlt2 : p < a
        · obtain ⟨q, hq⟩ : ∃ q, q = k * a + p := ⟨_, rfl⟩
          have hqn : q < n := by
            have h1 := Nat.mul_le_mul_right a (show k + 1 ≤ n1 from hlt)
            rw [HN1.out, Nat.add_mul, Nat.one_mul] at h1
            omega
          obtain ⟨y, hy⟩ : ∃ y, y = (xss.getD vn []).getD p 0 := ⟨_, rfl⟩
          have hLy : L.getD q 0 = y := by rw [hq, hy]; exact HLA.out k p vn hlt hlt2 Hvn.out
          have HT : Hid ((L.take q ++ zeros (n - q)).set q y = L.take (q + 1) ++ zeros (n - (q + 1))) := Lib.hid (by have h := take_set_next L q (by rw [HLL.out]; exact hqn); rw [hLy, HLL.out] at h; exact h)
          have hJ' := hJ.out
          rw [← hq] at hJ'
          have HC := Lib.hid hJ'.1.drew
          have HBw := Lib.hid hJ'.2.drew
          have h1 : xs.getD k 0 = (vn : Int) := Hvn.out
          have hc1 := (HBl.out.cell (p := ⟨b, off + k, none⟩) hb).trans (HCx.out k (by have := Hn1.out; omega))
          rw [h1] at hc1
          have hc3 := HCv.out p (by rw [Hvl.out]; exact hlt2)
          rw [← hy] at hc3
          have hx1 := (HBw.out.cell (p := ⟨b, off + k, none⟩) hbu).trans hc1
          have hx2 := (HBw.out.cell (p := ⟨b2, off2 + vn, none⟩) hb2u).trans HCell.out
          have hx3 := (HBw.out.cell (p := ⟨bv, ov + p, none⟩) hbv).trans hc3
          have hlj : (L.take q ++ zeros (n - q)).length = n := by simp [zeros, HLL.out]; omega
          have Hlj := Lib.hid hlj
          have hcw := HC.out.o0.cell Hlj.out.symm (j := q) (by rw [Hlj.out]; exact hqn)
          have hfw := HC.out.o0.frozen Hlj.out.symm q
          have hka : k * a ≤ 1024 := by omega
          have i1 : (k : Int) * (a : Int) = ((k * a : Nat) : Int) := by simp
          obtain ⟨ka, hka2⟩ : ∃ ka, ka = k * a := ⟨_, rfl⟩
          rw [← hka2] at i1 hka hq
          have i2 : (ka : Int) + (p : Int) = (q : Int) := by rw [hq]; simp
          have hw1 : IntKind.i64.wrap ((ka : Nat) : Int) = (ka : Int) := IntWalk.i64_in _ (by omega)
          have hw2 : IntKind.i64.wrap ((q : Nat) : Int) = (q : Int) := IntWalk.i64_in _ (by omega)
          have HN : Hid (GS w (wr.drew.setCell ⟨g, q, none⟩ (.int .i64 y)) [ri lo3 hi3 (.slice (some ⟨g, 0, none⟩) n c3) (L.take (q + 1) ++ zeros (n - (q + 1)))] [⟨b3, 25, #[.int .i64 (W : Int), .int .i64 (H : Int), .int .i64 (a : Int), .slice (some ⟨g, 0, none⟩) n c3]⟩, ⟨w.heap.size + 1, 25, #[.int .i64 0, .int .i64 0, .int .i64 0, .slice none 0 0]⟩, ⟨w.heap.size, 25, #[.int .i64 (W : Int), .int .i64 (H : Int), .int .i64 1, .slice (some ⟨b, off, none⟩) n1 c]⟩]) := Lib.hid (by have hput := HC.out.o0.put Hlj.out.symm q y; have h := HC.out.mark0 hput.1 (by simp) hput.2; rw [HT.out] at h; exact h)
          have HBn := Lib.hid (HBw.out.setCell (p := ⟨g, q, none⟩) hgu (.int .i64 y))
          have hz1 := (HBn.out.cell (p := ⟨b, off + k, none⟩) hbu).trans hc1
          have hz2 := (HBn.out.cell (p := ⟨b2, off2 + vn, none⟩) hb2u).trans HCell.out
          have hz3 := (HBn.out.cell (p := ⟨bv, ov + p, none⟩) hbv).trans hc3
          have hq2 : q + 1 = k * a + (p + 1) := by rw [← hka2]; omega
          have HRel : Hid (GS w (wr.drew.setCell ⟨g, q, none⟩ (.int .i64 y)) [ri lo3 hi3 (.slice (some ⟨g, 0, none⟩) n c3) (L.take (k * a + (p + 1)) ++ zeros (n - (k * a + (p + 1))))] [⟨b3, 25, #[.int .i64 (W : Int), .int .i64 (H : Int), .int .i64 (a : Int), .slice (some ⟨g, 0, none⟩) n c3]⟩, ⟨w.heap.size + 1, 25, #[.int .i64 0, .int .i64 0, .int .i64 0, .slice none 0 0]⟩, ⟨w.heap.size, 25, #[.int .i64 (W : Int), .int .i64 (H : Int), .int .i64 1, .slice (some ⟨b, off, none⟩) n1 c]⟩] ∧ Below u1.heap.size u1 (wr.drew.setCell ⟨g, q, none⟩ (.int .i64 y))) := Lib.hid ⟨by rw [← hq2]; exact HN.out, HBn.out⟩
          clear hJ hJ' hI hc1 hc3 hy hLy hq2 hka2 h1 hlj hq
          generalize (List.getD (L.take q ++ zeros (n - q)) q 0) = yo at *
          go_upto_region 10 with fail
          refine wp_region_held_drew (S := (fun w' => w'.cell? ⟨b3, 3, none⟩ = some (.slice (some ⟨g, 0, none⟩) n c3) ∧ w'.cell? ⟨w.heap.size, 3, none⟩ = some (.slice (some ⟨b, off, none⟩) n1 c) ∧ w'.cell? ⟨b, off + k, none⟩ = some (.int .i64 (vn : Int)) ∧ w'.cell? ⟨b2, off2 + vn, none⟩ = some (.slice (some ⟨bv, ov, none⟩) a cv) ∧ w'.cell? ⟨bv, ov + p, none⟩ = some (.int .i64 y))) (by kernel_rfl) (by exact ⟨HC.out.b0_4.2.2.2, HC.out.b2_4.2.2.2, hx1, hx2, hx3⟩) (fun hHeld => ?_)
          refine' wpAnyH_take (i := 0) (oi := _) (v := _) ?hi21 (by kernel_rfl) (by kernel_rfl) (by kernel_rfl) ?hq21 (Or.inl ⟨?hw21, ?hy21⟩) (by assumption) ?rest21
          case hi21 => (simp only [List.getElem?_toArray, List.getElem?_cons_succ, List.getElem?_cons_zero]; rfl)
          case hq21 => exact fun _ _ _ h => h
          case hw21 => rfl
          case hy21 => (intro wq hSw; (try dsimp only at hSw); go_simp; (try with_reducible rfl))
          (try simp only [Act.put, List.setIfInBounds_toArray, List.set_cons_zero, List.set_cons_succ])
          refine' wpAnyH_take (i := 1) (oi := _) (v := _) ?hi22 (by kernel_rfl) (by kernel_rfl) (by kernel_rfl) ?hq22 (Or.inl ⟨?hw22, ?hy22⟩) (by assumption) ?rest22
          case hi22 => (simp only [List.getElem?_toArray, List.getElem?_cons_succ, List.getElem?_cons_zero]; rfl)
          case hq22 => exact fun _ _ _ h => h
          case hw22 => rfl
          case hy22 => (intro wq hSw; (try dsimp only at hSw); go_simp; (try with_reducible rfl))
          (try simp only [Act.put, List.setIfInBounds_toArray, List.set_cons_zero, List.set_cons_succ])
          refine' wpAnyH_take (i := 2) (oi := _) (v := _) ?hi23 (by kernel_rfl) (by kernel_rfl) (by kernel_rfl) ?hq23 (Or.inl ⟨?hw23, ?hy23⟩) (by assumption) ?rest23
          case hi23 => (simp only [List.getElem?_toArray, List.getElem?_cons_succ, List.getElem?_cons_zero]; rfl)
          case hq23 => exact fun _ _ _ h => h
          case hw23 => rfl
          case hy23 => (intro wq hSw; (try dsimp only at hSw); go_simp; (try with_reducible rfl))
          (try simp only [Act.put, List.setIfInBounds_toArray, List.set_cons_zero, List.set_cons_succ])
          refine' wpAnyH_take (i := 3) (oi := _) (v := _) ?hi24 (by kernel_rfl) (by kernel_rfl) (by kernel_rfl) ?hq24 (Or.inl ⟨?hw24, ?hy24⟩) (by assumption) ?rest24
          case hi24 => (simp only [List.getElem?_toArray, List.getElem?_cons_succ, List.getElem?_cons_zero]; rfl)
          case hq24 => exact fun _ _ _ h => h
          case hw24 => rfl
          case hy24 => (intro wq hSw; (try dsimp only at hSw); go_simp; (try with_reducible rfl))
          (try simp only [Act.put, List.setIfInBounds_toArray, List.set_cons_zero, List.set_cons_succ])
          refine' wpAnyH_take (i := 4) (oi := _) (v := _) ?hi25 (by kernel_rfl) (by kernel_rfl) (by kernel_rfl) ?hq25 (Or.inl ⟨?hw25, ?hy25⟩) (by assumption) ?rest25
          case hi25 => (simp only [List.getElem?_toArray, List.getElem?_cons_succ, List.getElem?_cons_zero]; rfl)
          case hq25 => exact fun _ _ _ h => h
          case hw25 => rfl
          case hy25 => (intro wq hSw; (try dsimp only at hSw); go_simp; (try with_reducible rfl))
          (try simp only [Act.put, List.setIfInBounds_toArray, List.set_cons_zero, List.set_cons_succ])
          refine' wpAnyH_take (i := 5) (oi := _) (v := _) ?hi26 (by kernel_rfl) (by kernel_rfl) (by kernel_rfl) ?hq26 (Or.inl ⟨?hw26, ?hy26⟩) (by assumption) ?rest26
          case hi26 => (simp only [List.getElem?_toArray, List.getElem?_cons_succ, List.getElem?_cons_zero]; rfl)
          case hq26 => exact fun _ _ _ h => h
          case hw26 => rfl
          case hy26 => (intro wq hSw; (try dsimp only at hSw); go_simp; (try with_reducible rfl))
          (try simp only [Act.put, List.setIfInBounds_toArray, List.set_cons_zero, List.set_cons_succ])
          refine' wpAnyH_take (i := 6) (oi := _) (v := _) ?hi27 (by kernel_rfl) (by kernel_rfl) (by kernel_rfl) ?hq27 (Or.inl ⟨?hw27, ?hy27⟩) (by assumption) ?rest27
          case hi27 => (simp only [List.getElem?_toArray, List.getElem?_cons_succ, List.getElem?_cons_zero]; rfl)
          case hq27 => exact fun _ _ _ h => h
          case hw27 => rfl
          case hy27 => (intro wq hSw; (try dsimp only at hSw); go_simp; (try with_reducible rfl))
          (try simp only [Act.put, List.setIfInBounds_toArray, List.set_cons_zero, List.set_cons_succ])
          refine' wpAnyH_take (i := 7) (oi := _) (v := _) ?hi28 (by kernel_rfl) (by kernel_rfl) (by kernel_rfl) ?hq28 (Or.inl ⟨?hw28, ?hy28⟩) (by assumption) ?rest28
          case hi28 => (simp only [List.getElem?_toArray, List.getElem?_cons_succ, List.getElem?_cons_zero]; rfl)
          case hq28 => exact fun _ _ _ h => h
          case hw28 => rfl
          case hy28 => (intro wq hSw; (try dsimp only at hSw); go_simp; (try with_reducible rfl))
          (try simp only [Act.put, List.setIfInBounds_toArray, List.set_cons_zero, List.set_cons_succ])
          refine' wpAnyH_take (i := 8) (oi := _) (v := _) ?hi29 (by kernel_rfl) (by kernel_rfl) (by kernel_rfl) ?hq29 (Or.inl ⟨?hw29, ?hy29⟩) (by assumption) ?rest29
          case hi29 => (simp only [List.getElem?_toArray, List.getElem?_cons_succ, List.getElem?_cons_zero]; rfl)
          case hq29 => exact fun _ _ _ h => h
          case hw29 => rfl
          case hy29 => (intro wq hSw; (try dsimp only at hSw); go_simp; (try with_reducible rfl))
          (try simp only [Act.put, List.setIfInBounds_toArray, List.set_cons_zero, List.set_cons_succ])
          refine' wpAnyH_take (i := 9) (oi := _) (v := _) ?hi30 (by kernel_rfl) (by kernel_rfl) (by kernel_rfl) ?hq30 (Or.inl ⟨?hw30, ?hy30⟩) (by assumption) ?rest30
          case hi30 => (simp only [List.getElem?_toArray, List.getElem?_cons_succ, List.getElem?_cons_zero]; rfl)
          case hq30 => exact fun _ _ _ h => h
          case hw30 => rfl
          case hy30 => (intro wq hSw; (try dsimp only at hSw); go_simp; (try with_reducible rfl))
          (try simp only [Act.put, List.setIfInBounds_toArray, List.set_cons_zero, List.set_cons_succ])
          refine' wpAnyH_take (i := 10) (oi := _) (v := _) ?hi31 (by kernel_rfl) (by kernel_rfl) (by kernel_rfl) ?hq31 (Or.inl ⟨?hw31, ?hy31⟩) (by assumption) ?rest31
          case hi31 => (simp only [List.getElem?_toArray, List.getElem?_cons_succ, List.getElem?_cons_zero]; rfl)
          case hq31 => exact fun _ _ _ h => h
          case hw31 => rfl
          case hy31 => (intro wq hSw; (try dsimp only at hSw); go_simp; (try with_reducible rfl))
          (try simp only [Act.put, List.setIfInBounds_toArray, List.set_cons_zero, List.set_cons_succ])
          refine' wpAnyH_take (i := 11) (oi := _) (v := _) ?hi32 (by kernel_rfl) (by kernel_rfl) (by kernel_rfl) ?hq32 (Or.inl ⟨?hw32, ?hy32⟩) (by assumption) ?rest32
          case hi32 => (simp only [List.getElem?_toArray, List.getElem?_cons_succ, List.getElem?_cons_zero]; rfl)
          case hq32 => exact fun _ _ _ h => h
          case hw32 => rfl
          case hy32 => (intro wq hSw; (try dsimp only at hSw); go_simp; (try with_reducible rfl))
          (try simp only [Act.put, List.setIfInBounds_toArray, List.set_cons_zero, List.set_cons_succ])
          refine' wpAnyH_take (i := 12) (oi := _) (v := _) ?hi33 (by kernel_rfl) (by kernel_rfl) (by kernel_rfl) ?hq33 (Or.inl ⟨?hw33, ?hy33⟩) (by assumption) ?rest33
          case hi33 => (simp only [List.getElem?_toArray, List.getElem?_cons_succ, List.getElem?_cons_zero]; rfl)
          case hq33 => exact fun _ _ _ h => h
          case hw33 => rfl
          case hy33 => (intro wq hSw; (try dsimp only at hSw); go_simp; (try with_reducible rfl))
          (try simp only [Act.put, List.setIfInBounds_toArray, List.set_cons_zero, List.set_cons_succ])
          refine' wpAnyH_take (i := 13) (oi := _) (v := _) ?hi34 (by kernel_rfl) (by kernel_rfl) (by kernel_rfl) ?hq34 (Or.inl ⟨?hw34, ?hy34⟩) (by assumption) ?rest34
          case hi34 => (simp only [List.getElem?_toArray, List.getElem?_cons_succ, List.getElem?_cons_zero]; rfl)
          case hq34 => exact fun _ _ _ h => h
          case hw34 => rfl
          case hy34 => (intro wq hSw; (try dsimp only at hSw); go_simp; (try with_reducible rfl))
          (try simp only [Act.put, List.setIfInBounds_toArray, List.set_cons_zero, List.set_cons_succ])
          refine' wpAnyH_take (i := 14) (oi := _) (v := _) ?hi35 (by kernel_rfl) (by kernel_rfl) (by kernel_rfl) ?hq35 (Or.inl ⟨?hw35, ?hy35⟩) (by assumption) ?rest35
          case hi35 => (simp only [List.getElem?_toArray, List.getElem?_cons_succ, List.getElem?_cons_zero]; rfl)
          case hq35 => exact fun _ _ _ h => h
          case hw35 => rfl
          case hy35 => (intro wq hSw; (try dsimp only at hSw); go_simp; (try with_reducible rfl))
          (try simp only [Act.put, List.setIfInBounds_toArray, List.set_cons_zero, List.set_cons_succ])
          refine' wpAnyH_take (i := 15) (oi := _) (v := _) ?hi36 (by kernel_rfl) (by kernel_rfl) (by kernel_rfl) ?hq36 (Or.inl ⟨?hw36, ?hy36⟩) (by assumption) ?rest36
          case hi36 => (simp only [List.getElem?_toArray, List.getElem?_cons_succ, List.getElem?_cons_zero]; rfl)
          case hq36 => exact fun _ _ _ h => h
          case hw36 => rfl
          case hy36 => (intro wq hSw; (try dsimp only at hSw); go_simp; (try with_reducible rfl))
          (try simp only [Act.put, List.setIfInBounds_toArray, List.set_cons_zero, List.set_cons_succ])
          refine' wpAnyH_take (i := 16) (oi := _) (v := _) ?hi37 (by kernel_rfl) (by kernel_rfl) (by kernel_rfl) ?hq37 (Or.inl ⟨?hw37, ?hy37⟩) (by assumption) ?rest37
          case hi37 => (simp only [List.getElem?_toArray, List.getElem?_cons_succ, List.getElem?_cons_zero]; rfl)
          case hq37 => exact fun _ _ _ h => h
          case hw37 => rfl
          case hy37 => (intro wq hSw; (try dsimp only at hSw); go_simp; (try with_reducible rfl))
          (try simp only [Act.put, List.setIfInBounds_toArray, List.set_cons_zero, List.set_cons_succ])
          refine' wpAnyH_take (i := 17) (oi := _) (v := _) ?hi38 (by kernel_rfl) (by kernel_rfl) (by kernel_rfl) ?hq38 (Or.inl ⟨?hw38, ?hy38⟩) (by assumption) ?rest38
          case hi38 => (simp only [List.getElem?_toArray, List.getElem?_cons_succ, List.getElem?_cons_zero]; rfl)
          case hq38 => exact fun _ _ _ h => h
          case hw38 => rfl
          case hy38 => (intro wq hSw; (try dsimp only at hSw); go_simp; (try with_reducible rfl))
          (try simp only [Act.put, List.setIfInBounds_toArray, List.set_cons_zero, List.set_cons_succ])
          refine' wpAnyH_take (i := 18) (oi := _) (v := _) ?hi39 (by kernel_rfl) (by kernel_rfl) (by kernel_rfl) ?hq39 (Or.inl ⟨?hw39, ?hy39⟩) (by assumption) ?rest39
          case hi39 => (simp only [List.getElem?_toArray, List.getElem?_cons_succ, List.getElem?_cons_zero]; rfl)
          case hq39 => exact fun _ _ _ h => h
          case hw39 => rfl
          case hy39 => (intro wq hSw; (try dsimp only at hSw); go_simp; (try with_reducible rfl))
          (try simp only [Act.put, List.setIfInBounds_toArray, List.set_cons_zero, List.set_cons_succ])
          refine wpAnyH_ready (rs := [19]) (by kernel_rfl) (by simp) ?_
          refine' AllReadyH.cons (o := _) ?hi40 (fun K hK => ?rest40) AllReadyH.nil
          case hi40 => (simp only [List.getElem?_toArray, List.getElem?_cons_succ, List.getElem?_cons_zero]; rfl)
          go_simp
          refine hK.out _ _ (by (try dsimp only); exact ⟨HN.out.b0_4.2.2.2, HN.out.b2_4.2.2.2, hz1, hz2, hz3⟩) (fun hHeld => ?_)
          clear hK K
          (try simp only [Act.put, List.setIfInBounds_toArray, List.set_cons_zero, List.set_cons_succ])
          refine wpAnyH_done (by kernel_rfl) ?_ _
          go_wp2
          go_roundw
          case rel => exact ⟨p + 1, by omega, by go_num, HRel⟩
          case measure => simp [intOf]; omega
        · have hp' : p = a := by omega
          have hN : Hid (GS w wr [ri lo3 hi3 (.slice (some ⟨g, 0, none⟩) n c3) (L.take ((k + 1) * a) ++ zeros (n - ((k + 1) * a)))] [⟨b3, 25, #[.int .i64 (W : Int), .int .i64 (H : Int), .int .i64 (a : Int), .slice (some ⟨g, 0, none⟩) n c3]⟩, ⟨w.heap.size + 1, 25, #[.int .i64 0, .int .i64 0, .int .i64 0, .slice none 0 0]⟩, ⟨w.heap.size, 25, #[.int .i64 (W : Int), .int .i64 (H : Int), .int .i64 1, .slice (some ⟨b, off, none⟩) n1 c]⟩] ∧ Below u1.heap.size u1 wr) := Lib.hid (by have h := hJ.out; rw [hp', show k * a + a = (k + 1) * a by rw [Nat.add_mul, Nat.one_mul]] at h; exact h)
          clear hJ hI
          go_wp2
          go_roundw
          case rel => exact ⟨k + 1, by omega, by go_num, hN⟩
          case measure => simp [intOf]; omega
    · have hk' : k = n1 := by omega
      have hG := hI.out.1
      rw [hk', HN1.out, Nat.sub_self, ← HLL.out, List.take_length, show zeros 0 = [] from rfl, List.append_nil, HLL.out] at hG
      obtain ⟨r0, r1, r2, r3⟩ := hG.b1_4
      have f0 := hG.f1 0
      have f1 := hG.f1 1
      have f2 := hG.f1 2
      have f3 := hG.f1 3
      have HE := Lib.hid (hG.e1_4 (.int .i64 (W : Int)) (.int .i64 (H : Int)) (.int .i64 (a : Int)) (.slice (some ⟨g, 0, none⟩) n c3))
      have HLL2 : Hid (n = L.length) := Lib.hid HLL.out.symm
      have HLe : Hid (L = ciL W H a xs xss) := HL0
      clear hI hG
      go_wp2
      exact bodyPost_ret (v := .tuple #[.agg #[.int .i64 (W : Int), .int .i64 (H : Int), .int .i64 (a : Int), .slice (some ⟨g, 0, none⟩) n c3], .bool true]) (by simp [results, Try.results8, go_sem, r0, r1, r2, r3]) rfl (ColR.yes Hv.out (by have h := HE.out.2 _ (List.Mem.head _); rw [show ciL (W : Int).toNat (H : Int).toNat (a : Int).toNat xs xss = L from HLe.out.symm]; exact h) HE.out.1)
end Go.Proofs.Ytjcohmljpokgcaa
