/- Contracts of RepeatImage, in the model and in the program. -/
import Derived.Test.YtfjcbdpepbcjcaaScale
namespace Go.Proofs.Ytfjcbdpepbcjcaa
open Go.RowKit Go.Shelf
set_option linter.unusedSimpArgs false
set_option linter.unusedVariables false
set_option maxRecDepth 20000

/-- The numbers of a repeated image. -/
def repL (W H P : Nat) (xs : List Int) (w h : Nat) : List Int := img w h P (fun x y => pxc W P xs (x % W) (y % H))
set_option maxHeartbeats 2000000 in
theorem irp1_any (x y W H : Nat) (hx : x ≤ 16) (hy : y ≤ 16) (hW1 : 1 ≤ W) (hH1 : 1 ≤ H) (hW : W ≤ 16) (hH : H ≤ 16) (pm : Nat) (w : World) (m0 : w.cell? ⟨pm, 0, none⟩ = some (.int .i64 (W : Int))) (m1 : w.cell? ⟨pm, 1, none⟩ = some (.int .i64 (H : Int))) :
    Calls Try.prog 51 (#[.int .i64 (x : Int), .int .i64 (y : Int)] ++ #[.pointer (some ⟨pm, 0, none⟩)]) w fun e w' => e = .returned (.tuple #[.int .i64 ((x % W : Nat) : Int), .int .i64 ((y % H : Nat) : Int)]) ∧ Below w.heap.size w w' := by
  obtain ⟨q1, hq1⟩ : ∃ q, q = x % W := ⟨_, rfl⟩
  obtain ⟨q2, hq2⟩ : ∃ q, q = y % H := ⟨_, rfl⟩
  have l1 : q1 ≤ 16 := by rw [hq1]; exact Nat.le_trans (Nat.mod_le _ _) hx
  have l2 : q2 ≤ 16 := by rw [hq2]; exact Nat.le_trans (Nat.mod_le _ _) hy
  have j1 : (x : Int).tmod (W : Int) = (q1 : Int) := by rw [hq1]; rfl
  have j2 : (y : Int).tmod (H : Int) = (q2 : Int) := by rw [hq2]; rfl
  have k3 : IntKind.i64.wrap (q1 : Int) = (q1 : Int) := IntWalk.i64_in _ (by omega)
  have k4 : IntKind.i64.wrap (q2 : Int) = (q2 : Int) := IntWalk.i64_in _ (by omega)
  rw [← hq1, ← hq2]
  have hna : ¬ ((W : Int) = 0) := by omega
  have hnb : ¬ ((H : Int) = 0) := by omega
  clear hq1 hq2
  show Calls Try.prog 51 #[.int .i64 (x : Int), .int .i64 (y : Int), .pointer (some ⟨pm, 0, none⟩)] w _
  go_enter Try.func51, Try.ntmps51
  go_wp2
  go_quiet (fail)
  go_wp2
  go_ret2
  exact ⟨rfl, ⟨rfl, rfl, rfl, Nat.le_refl _, fun _ _ => rfl⟩⟩
set_option maxHeartbeats 16000000 in
theorem i_RepeatImage (W H P a b : Int) (A : Option Addr) (c : Nat) (xs : List Int) (w : World) (hx : Rds .i64 w w.heap.size A xs) (hl : xs.length ≤ 2000000) (hlc : xs.length ≤ c) :
    Calls Try.prog 22 #[.agg #[.int .i64 W, .int .i64 H, .int .i64 P, .slice A xs.length c], .int .i64 a, .int .i64 b] w (MadeIf (scOk W H P xs a b) a b P (repL W.toNat H.toNat P.toNat xs a.toNat b.toNat) w) := by
  have HX := Lib.hid hx
  clear hx
  have S0 : GS w ((w.alloc (.cells #[.int .i64 W, .int .i64 H, .int .i64 P, .slice A xs.length c] 30)).alloc (.cells #[.int .i64 0, .int .i64 0, .int .i64 0, .slice none 0 0] 30)) [] [⟨(w.heap.size + 1), 30, #[.int .i64 0, .int .i64 0, .int .i64 0, .slice none 0 0]⟩, ⟨w.heap.size, 30, #[.int .i64 W, .int .i64 H, .int .i64 P, .slice A xs.length c]⟩] := GS.box' (GS.box' (GS.start w) 30 #[.int .i64 W, .int .i64 H, .int .i64 P, .slice A xs.length c] w.heap.size (by simp)) 30 #[.int .i64 0, .int .i64 0, .int .i64 0, .slice none 0 0] (w.heap.size + 1) (by simp)
  have Eg : Hid (∀ args w, (callFunc 51 args).run Try.prog w = .ok (.enter 51 args) w) := Lib.hid (enters_of Try.func51 (by kernel_rfl) rfl)
  go_enter Try.func22, Try.ntmps22
  go_wp2_with fail
  generalize (w.alloc (.cells #[.int .i64 W, .int .i64 H, .int .i64 P, .slice A xs.length c] 30)).alloc (.cells #[.int .i64 0, .int .i64 0, .int .i64 0, .slice none 0 0] 30) = u0 at *
  refine (iSc_any W H P a b A c xs u0 (S0.arg HX.out) hl).mono ?_
  rintro e u1 ⟨rfl, hB⟩
  have S1 := S0.call hB
  clear hB S0
  cases hv : scOk W H P xs a b
  · have Hv := Lib.hid hv
    clear hv
    obtain ⟨r0, r1, r2, r3⟩ := S1.b0_4
    have f0 := S1.f0 0
    have f1 := S1.f0 1
    have f2 := S1.f0 2
    have f3 := S1.f0 3
    have HE := Lib.hid (S1.e0_4 (.int .i64 0) (.int .i64 0) (.int .i64 0) (.slice none 0 0))
    clear S1
    go_wp2
    exact bodyPost_ret (v := .agg #[.int .i64 0, .int .i64 0, .int .i64 0, .slice none 0 0]) (by simp [results, Try.results22, go_sem, r0, r1, r2, r3]) rfl (MadeIf.no Hv.out ⟨_, rfl, World.ownsRow_nil _ _ _ _, HE.out.1⟩)
  · have Hv := Lib.hid hv
    have hv' := hv
    unfold scOk at hv'
    rw [Bool.and_eq_true] at hv'
    obtain ⟨W, H, P, rfl, rfl, rfl, hW1, hW, hH1, hH, hP1, hP, hln, hby⟩ := vim_nat hv'.1
    obtain ⟨a, b, pz, rfl, rfl, hpz, ⟨ha1, ha⟩, ⟨hb1, hb⟩, hpz2⟩ := vsh_nat hv'.2
    clear hpz2 hpz pz
    have HLn := Lib.hid hln
    clear hv hv' hln hby
    have HC := Lib.hid S1.drew
    clear S1
    go_upto_region 3 with fail
    go_region_held3 (fun w' => w'.cell? ⟨w.heap.size, 0, none⟩ = some (.int .i64 (W : Int)) ∧ w'.cell? ⟨w.heap.size, 1, none⟩ = some (.int .i64 (H : Int)) ∧ w'.cell? ⟨w.heap.size, 2, none⟩ = some (.int .i64 (P : Int)) ∧ w'.cell? ⟨w.heap.size, 3, none⟩ = some (.slice A xs.length c))
      (first | (with_reducible exact HC.out.b1_4) | (with_reducible exact (GS.fill4 HC.out _ _ _ _).b1_4) | (exact HC.out.b1_4))
      (first | (go_at_call 30; (refine (gridOf_any W H P hW hH hP1 hP hW1 hH1 A c xs HLn.out hlc _ (by exact HC.out.arg HX.out)).mono ?_); rintro e u2 ⟨v2, rfl, hO2, hB2⟩; obtain ⟨A2, c2, rfl, hc2⟩ := hO2.slice; have HD := Lib.hid (GS.addT HC.out hO2 hB2); clear HC hO2 hB2; have HC := HD; clear HD) | (go_at_call 50; (refine (rearr_any W H a b hW hH ha hb A2 c2 _ rfl (pxc W P xs) hc2 51 _ (fun x _ => x % W) (fun _ y => y % H) Eg.out _ (by exact HC.out.t0) (fun x y hx hy => ⟨Nat.mod_lt _ hW1, Nat.mod_lt _ hH1⟩) (fun x y w' hx hy hbel => irp1_any x y W H (by omega) (by omega) hW1 hH1 hW hH w.heap.size w' ((HC.out.call hbel).b1_4).1 ((HC.out.call hbel).b1_4).2.1)).mono ?_); rintro e u3 ⟨v3, rfl, hO3, hB3⟩; obtain ⟨A3, c3, rfl, hc3⟩ := hO3.slice; have HD := Lib.hid (GS.addT HC.out hO3 hB3); clear HC hO3 hB3; have HC := HD; clear HD) | (go_at_call 43; (refine (imageOf_any a b P ha hb hP A3 c3 (fun x y => pxc W P xs (x % W) (y % H)) _ (by exact HC.out.t0) hc3).mono ?_); rintro e u4 ⟨v4, rfl, hO4, hB4⟩; obtain ⟨A4, c4, rfl, hc4⟩ := hO4.slice; have HD := Lib.hid (GS.add HC.out hO4 hB4); clear HC hO4 hB4; have HC := HD; clear HD; obtain ⟨r0, r1, r2, r3⟩ := HC.out.b0_4; have f0 := HC.out.f0 0; have f1 := HC.out.f0 1; have f2 := HC.out.f0 2; have f3 := HC.out.f0 3))
    all_goals
      have HE := Lib.hid (HC.out.e0_4 (.int .i64 (a : Int)) (.int .i64 (b : Int)) (.int .i64 (P : Int)) (.slice A4 (img a b P (fun x y => pxc W P xs (x % W) (y % H))).length c4))
      clear HC
      go_wp2
      exact bodyPost_ret (v := .agg #[.int .i64 (a : Int), .int .i64 (b : Int), .int .i64 (P : Int), .slice A4 (img a b P (fun x y => pxc W P xs (x % W) (y % H))).length c4]) (by simp [results, Try.results22, go_sem, r0, r1, r2, r3]) rfl (MadeIf.yes Hv.out ⟨_, rfl, HE.out.2 _ (List.Mem.head _), HE.out.1⟩)
set_option maxHeartbeats 16000000 in
theorem s_RepeatImage (W H P a b : Int) (A : Option Addr) (c : Nat) (xs : List Int) (w : World) (hx : Rds .i64 w w.heap.size A xs) (hl : xs.length ≤ 2000000) (hlc : xs.length ≤ c) :
    Calls Try.prog 24 #[.agg #[.int .i64 W, .int .i64 H, .int .i64 P, .slice A xs.length c], .int .i64 a, .int .i64 b] w (MadeIf (scOk W H P xs a b) a b P (repL W.toNat H.toNat P.toNat xs a.toNat b.toNat) w) := by
  have HX := Lib.hid hx
  clear hx
  have S0 : GS w ((w.alloc (.cells #[.int .i64 W, .int .i64 H, .int .i64 P, .slice A xs.length c] 30)).alloc (.cells #[.int .i64 0, .int .i64 0, .int .i64 0, .slice none 0 0] 30)) [] [⟨(w.heap.size + 1), 30, #[.int .i64 0, .int .i64 0, .int .i64 0, .slice none 0 0]⟩, ⟨w.heap.size, 30, #[.int .i64 W, .int .i64 H, .int .i64 P, .slice A xs.length c]⟩] := GS.box' (GS.box' (GS.start w) 30 #[.int .i64 W, .int .i64 H, .int .i64 P, .slice A xs.length c] w.heap.size (by simp)) 30 #[.int .i64 0, .int .i64 0, .int .i64 0, .slice none 0 0] (w.heap.size + 1) (by simp)
  have HV : Hid (scOk W H P xs a b = (vim W H P xs && vsh a b P)) := Lib.hid rfl
  go_enter Try.func24, Try.ntmps24
  go_wp2_with fail
  generalize (w.alloc (.cells #[.int .i64 W, .int .i64 H, .int .i64 P, .slice A xs.length c] 30)).alloc (.cells #[.int .i64 0, .int .i64 0, .int .i64 0, .slice none 0 0] 30) = u0 at *
  refine (sVimg_any W H P A c xs u0 (S0.arg HX.out) hl).mono ?_
  rintro e u1 ⟨rfl, hB⟩
  have S1 := S0.call hB
  clear hB S0
  cases hv : vim W H P xs
  · have Hv : Hid (scOk W H P xs a b = false) := Lib.hid (by rw [HV.out, hv]; rfl)
    clear hv HV
    obtain ⟨r0, r1, r2, r3⟩ := S1.b0_4
    have f0 := S1.f0 0
    have f1 := S1.f0 1
    have f2 := S1.f0 2
    have f3 := S1.f0 3
    have HE := Lib.hid (S1.e0_4 (.int .i64 0) (.int .i64 0) (.int .i64 0) (.slice none 0 0))
    clear S1
    go_wp2
    exact bodyPost_ret (v := .agg #[.int .i64 0, .int .i64 0, .int .i64 0, .slice none 0 0]) (by simp [results, Try.results24, go_sem, r0, r1, r2, r3]) rfl (MadeIf.no Hv.out ⟨_, rfl, World.ownsRow_nil _ _ _ _, HE.out.1⟩)
  · have Hv1 := Lib.hid hv
    obtain ⟨d0, d1, d2, d3⟩ := S1.b1_4
    go_wp2_with fail
    refine (sShape_any a b P u1).mono ?_
    rintro e u2 ⟨rfl, rfl⟩
    clear d0 d1 d2 d3
    cases hv2 : vsh a b P
    · have Hv : Hid (scOk W H P xs a b = false) := Lib.hid (by rw [HV.out, hv, hv2]; rfl)
      clear hv hv2 HV Hv1
      obtain ⟨r0, r1, r2, r3⟩ := S1.b0_4
      have f0 := S1.f0 0
      have f1 := S1.f0 1
      have f2 := S1.f0 2
      have f3 := S1.f0 3
      have HE := Lib.hid (S1.e0_4 (.int .i64 0) (.int .i64 0) (.int .i64 0) (.slice none 0 0))
      clear S1
      go_wp2
      exact bodyPost_ret (v := .agg #[.int .i64 0, .int .i64 0, .int .i64 0, .slice none 0 0]) (by simp [results, Try.results24, go_sem, r0, r1, r2, r3]) rfl (MadeIf.no Hv.out ⟨_, rfl, World.ownsRow_nil _ _ _ _, HE.out.1⟩)
    · have Hv : Hid (scOk W H P xs a b = true) := Lib.hid (by rw [HV.out, hv, hv2]; rfl)
      obtain ⟨W, H, P, rfl, rfl, rfl, hW1, hW, hH1, hH, hP1, hP, hln, hby⟩ := vim_nat hv
      obtain ⟨a, b, pz, rfl, rfl, hpz, ⟨ha1, ha⟩, ⟨hb1, hb⟩, hpz2⟩ := vsh_nat hv2
      have HLn := Lib.hid hln
      clear hpz2 hpz pz hv hv2 HV Hv1 hby hln
      obtain ⟨d0, d1, d2, d3⟩ := S1.b1_4
      go_wp2_with fail
      refine (newImage_any a b P ha hb hP u1).mono ?_
      rintro e u3 ⟨v3, rfl, hO3, hB3⟩
      have hzl : (zeros (a * b * P)).length = a * b * P := by simp [zeros]
      obtain ⟨g, c2, rfl, hg1, hg2⟩ := hO3.form (by rw [hzl]; exact Nat.mul_pos (Nat.mul_pos (by omega) (by omega)) hP1)
      have S3 := S1.add hO3 hB3
      obtain ⟨n, hn⟩ : ∃ n, n = (zeros (a * b * P)).length := ⟨_, rfl⟩
      obtain ⟨O0, hO0⟩ : ∃ O0, O0 = px a P (zeros (a * b * P)) := ⟨_, rfl⟩
      obtain ⟨lo3, hlo3⟩ : ∃ lo3, lo3 = u1.heap.size := ⟨_, rfl⟩
      obtain ⟨hi3, hhi3⟩ : ∃ hi3, hi3 = u3.heap.size := ⟨_, rfl⟩
      obtain ⟨b3, hb3⟩ : ∃ b3, b3 = u3.heap.size := ⟨_, rfl⟩
      rw [← hn, ← hlo3, ← hhi3] at S3
      have HI0 : Hid (GS w (u3.alloc (.cells #[.int .i64 (a : Int), .int .i64 (b : Int), .int .i64 (P : Int), .slice (some ⟨g, 0, none⟩) n c2] 30)) [ri lo3 hi3 (.slice (some ⟨g, 0, none⟩) n c2) (zeros (a * b * P))] [⟨b3, 30, #[.int .i64 (a : Int), .int .i64 (b : Int), .int .i64 (P : Int), .slice (some ⟨g, 0, none⟩) n c2]⟩, ⟨w.heap.size + 1, 30, #[.int .i64 0, .int .i64 0, .int .i64 0, .slice none 0 0]⟩, ⟨w.heap.size, 30, #[.int .i64 (W : Int), .int .i64 (H : Int), .int .i64 (P : Int), .slice A xs.length c]⟩] ∧ n = (zeros (a * b * P)).length ∧ Fill a b P (fun X Y => X) (fun X Y => Y) (fun X Y => pxc W P xs (X % W) (Y % H)) O0 0 0 (zeros (a * b * P))) :=
        Lib.hid ⟨GS.box' S3 _ _ b3 hb3, hn, by rw [hO0]; exact Fill.start hzl⟩
      rw [← hn]
      have HB3 := Lib.hid hb3
      clear hO3 hB3 S1 S3 hzl hn hO0 hlo3 hhi3 hb3 hg1 hg2 d0 d1 d2 d3
      go_wp2
      (try rw [← HB3.out])
      go_loopw [8] (fun iy wr => ∃ (y : Nat) (ys : List Int), y ≤ b ∧ iy = .int .i64 y ∧ Hid (GS w wr [ri lo3 hi3 (.slice (some ⟨g, 0, none⟩) n c2) ys] [⟨b3, 30, #[.int .i64 (a : Int), .int .i64 (b : Int), .int .i64 (P : Int), .slice (some ⟨g, 0, none⟩) n c2]⟩, ⟨w.heap.size + 1, 30, #[.int .i64 0, .int .i64 0, .int .i64 0, .slice none 0 0]⟩, ⟨w.heap.size, 30, #[.int .i64 (W : Int), .int .i64 (H : Int), .int .i64 (P : Int), .slice A xs.length c]⟩] ∧ n = ys.length ∧ Fill a b P (fun X Y => X) (fun X Y => Y) (fun X Y => pxc W P xs (X % W) (Y % H)) O0 y 0 ys)) (fun iy _ => b - (intOf iy).toNat)
      case atStart => exact ⟨0, _, Nat.zero_le _, rfl, HI0⟩
      case round =>
        obtain ⟨y, ys, hy, rfl, hI⟩ := hrel
        clear HI0
        by_cases hylt : y < b
        · go_wp2
          go_loopw [9] (fun ix wr => ∃ (x : Nat) (ys : List Int), x ≤ a ∧ ix = .int .i64 x ∧ Hid (GS w wr [ri lo3 hi3 (.slice (some ⟨g, 0, none⟩) n c2) ys] [⟨b3, 30, #[.int .i64 (a : Int), .int .i64 (b : Int), .int .i64 (P : Int), .slice (some ⟨g, 0, none⟩) n c2]⟩, ⟨w.heap.size + 1, 30, #[.int .i64 0, .int .i64 0, .int .i64 0, .slice none 0 0]⟩, ⟨w.heap.size, 30, #[.int .i64 (W : Int), .int .i64 (H : Int), .int .i64 (P : Int), .slice A xs.length c]⟩] ∧ n = ys.length ∧ Fill a b P (fun X Y => X) (fun X Y => Y) (fun X Y => pxc W P xs (X % W) (Y % H)) O0 y x ys)) (fun ix _ => a - (intOf ix).toNat)
          case atStart => exact ⟨0, ys, Nat.zero_le _, rfl, hI⟩
          case round =>
            clear hI
            obtain ⟨x, ys, hx, rfl, hJ⟩ := hrel
            by_cases hxlt : x < a
            · obtain ⟨q1, hq1⟩ : ∃ q, q = x % W := ⟨_, rfl⟩
              obtain ⟨q2, hq2⟩ : ∃ q, q = y % H := ⟨_, rfl⟩
              have l1 : q1 < W := by rw [hq1]; exact Nat.mod_lt _ hW1
              have l2 : q2 < H := by rw [hq2]; exact Nat.mod_lt _ hH1
              have j1 : (x : Int).tmod (W : Int) = (q1 : Int) := by rw [hq1]; rfl
              have j2 : (y : Int).tmod (H : Int) = (q2 : Int) := by rw [hq2]; rfl
              have k3 : IntKind.i64.wrap (q1 : Int) = (q1 : Int) := IntWalk.i64_in _ (by omega)
              have k4 : IntKind.i64.wrap (q2 : Int) = (q2 : Int) := IntWalk.i64_in _ (by omega)
              have HQ1 := Lib.hid hq1
              have HQ2 := Lib.hid hq2
              have hna : ¬ (W = 0) := by omega
              have hnb : ¬ (H = 0) := by omega
              have HC := Lib.hid hJ.out.1.drew
              have Hn := Lib.hid hJ.out.2.1
              have HF := Lib.hid hJ.out.2.2
              clear hJ hq1 hq2
              go_upto_region 10 with fail
              refine wp_region_held_drew (S := (fun w' => w'.cell? ⟨w.heap.size, 0, none⟩ = some (.int .i64 (W : Int)) ∧ w'.cell? ⟨w.heap.size, 1, none⟩ = some (.int .i64 (H : Int)) ∧ w'.cell? ⟨w.heap.size, 2, none⟩ = some (.int .i64 (P : Int)) ∧ w'.cell? ⟨w.heap.size, 3, none⟩ = some (.slice A xs.length c) ∧ w'.cell? ⟨b3, 0, none⟩ = some (.int .i64 (a : Int)) ∧ w'.cell? ⟨b3, 1, none⟩ = some (.int .i64 (b : Int)) ∧ w'.cell? ⟨b3, 2, none⟩ = some (.int .i64 (P : Int)) ∧ w'.cell? ⟨b3, 3, none⟩ = some (.slice (some ⟨g, 0, none⟩) n c2))) (by kernel_rfl) (by exact ⟨HC.out.b2_4.1, HC.out.b2_4.2.1, HC.out.b2_4.2.2.1, HC.out.b2_4.2.2.2, HC.out.b0_4.1, HC.out.b0_4.2.1, HC.out.b0_4.2.2.1, HC.out.b0_4.2.2.2⟩) (fun hHeld => ?_)
              refine' wpAnyH_take (i := 0) (oi := _) (v := _) ?hi1 (by kernel_rfl) (by kernel_rfl) (by kernel_rfl) ?hq1 (Or.inl ⟨?hw1, ?hy1⟩) (by assumption) ?rest1
              case hi1 => (simp only [List.getElem?_toArray, List.getElem?_cons_succ, List.getElem?_cons_zero]; rfl)
              case hq1 => exact fun _ _ _ h => h
              case hw1 => rfl
              case hy1 => (intro wq hSw; (try dsimp only at hSw); go_simp; (try with_reducible rfl))
              (try simp only [Act.put, List.setIfInBounds_toArray, List.set_cons_zero, List.set_cons_succ])
              refine' wpAnyH_take (i := 1) (oi := _) (v := _) ?hi2 (by kernel_rfl) (by kernel_rfl) (by kernel_rfl) ?hq2 (Or.inl ⟨?hw2, ?hy2⟩) (by assumption) ?rest2
              case hi2 => (simp only [List.getElem?_toArray, List.getElem?_cons_succ, List.getElem?_cons_zero]; rfl)
              case hq2 => exact fun _ _ _ h => h
              case hw2 => rfl
              case hy2 => (intro wq hSw; (try dsimp only at hSw); go_simp; (try with_reducible rfl))
              (try simp only [Act.put, List.setIfInBounds_toArray, List.set_cons_zero, List.set_cons_succ])
              refine' wpAnyH_take (i := 2) (oi := _) (v := _) ?hi3 (by kernel_rfl) (by kernel_rfl) (by kernel_rfl) ?hq3 (Or.inl ⟨?hw3, ?hy3⟩) (by assumption) ?rest3
              case hi3 => (simp only [List.getElem?_toArray, List.getElem?_cons_succ, List.getElem?_cons_zero]; rfl)
              case hq3 => exact fun _ _ _ h => h
              case hw3 => rfl
              case hy3 => (intro wq hSw; (try dsimp only at hSw); go_simp; (try with_reducible rfl))
              (try simp only [Act.put, List.setIfInBounds_toArray, List.set_cons_zero, List.set_cons_succ])
              refine' wpAnyH_take (i := 3) (oi := _) (v := _) ?hi4 (by kernel_rfl) (by kernel_rfl) (by kernel_rfl) ?hq4 (Or.inl ⟨?hw4, ?hy4⟩) (by assumption) ?rest4
              case hi4 => (simp only [List.getElem?_toArray, List.getElem?_cons_succ, List.getElem?_cons_zero]; rfl)
              case hq4 => exact fun _ _ _ h => h
              case hw4 => rfl
              case hy4 => (intro wq hSw; (try dsimp only at hSw); go_simp; (try with_reducible rfl))
              (try simp only [Act.put, List.setIfInBounds_toArray, List.set_cons_zero, List.set_cons_succ])
              refine' wpAnyH_take (i := 4) (oi := _) (v := _) ?hi5 (by kernel_rfl) (by kernel_rfl) (by kernel_rfl) ?hq5 (Or.inl ⟨?hw5, ?hy5⟩) (by assumption) ?rest5
              case hi5 => (simp only [List.getElem?_toArray, List.getElem?_cons_succ, List.getElem?_cons_zero]; rfl)
              case hq5 => exact fun _ _ _ h => h
              case hw5 => rfl
              case hy5 => (intro wq hSw; (try dsimp only at hSw); go_simp; (try with_reducible rfl))
              (try simp only [Act.put, List.setIfInBounds_toArray, List.set_cons_zero, List.set_cons_succ])
              refine' wpAnyH_take (i := 5) (oi := _) (v := _) ?hi6 (by kernel_rfl) (by kernel_rfl) (by kernel_rfl) ?hq6 (Or.inl ⟨?hw6, ?hy6⟩) (by assumption) ?rest6
              case hi6 => (simp only [List.getElem?_toArray, List.getElem?_cons_succ, List.getElem?_cons_zero]; rfl)
              case hq6 => exact fun _ _ _ h => h
              case hw6 => rfl
              case hy6 => (intro wq hSw; (try dsimp only at hSw); go_simp; (try with_reducible rfl))
              (try simp only [Act.put, List.setIfInBounds_toArray, List.set_cons_zero, List.set_cons_succ])
              refine' wpAnyH_take (i := 6) (oi := _) (v := _) ?hi7 (by kernel_rfl) (by kernel_rfl) (by kernel_rfl) ?hq7 (Or.inl ⟨?hw7, ?hy7⟩) (by assumption) ?rest7
              case hi7 => (simp only [List.getElem?_toArray, List.getElem?_cons_succ, List.getElem?_cons_zero]; rfl)
              case hq7 => exact fun _ _ _ h => h
              case hw7 => rfl
              case hy7 => (intro wq hSw; (try dsimp only at hSw); go_simp; (try with_reducible rfl))
              (try simp only [Act.put, List.setIfInBounds_toArray, List.set_cons_zero, List.set_cons_succ])
              refine' wpAnyH_take (i := 7) (oi := _) (v := _) ?hi8 (by kernel_rfl) (by kernel_rfl) (by kernel_rfl) ?hq8 (Or.inl ⟨?hw8, ?hy8⟩) (by assumption) ?rest8
              case hi8 => (simp only [List.getElem?_toArray, List.getElem?_cons_succ, List.getElem?_cons_zero]; rfl)
              case hq8 => exact fun _ _ _ h => h
              case hw8 => rfl
              case hy8 => (intro wq hSw; (try dsimp only at hSw); go_simp; (try with_reducible rfl))
              (try simp only [Act.put, List.setIfInBounds_toArray, List.set_cons_zero, List.set_cons_succ])
              refine' wpAnyH_take (i := 8) (oi := _) (v := _) ?hi9 (by kernel_rfl) (by kernel_rfl) (by kernel_rfl) ?hq9 (Or.inl ⟨?hw9, ?hy9⟩) (by assumption) ?rest9
              case hi9 => (simp only [List.getElem?_toArray, List.getElem?_cons_succ, List.getElem?_cons_zero]; rfl)
              case hq9 => exact fun _ _ _ h => h
              case hw9 => rfl
              case hy9 => (intro wq hSw; (try dsimp only at hSw); go_simp; (try with_reducible rfl))
              (try simp only [Act.put, List.setIfInBounds_toArray, List.set_cons_zero, List.set_cons_succ])
              refine' wpAnyH_take (i := 9) (oi := _) (v := _) ?hi10 (by kernel_rfl) (by kernel_rfl) (by kernel_rfl) ?hq10 (Or.inl ⟨?hw10, ?hy10⟩) (by assumption) ?rest10
              case hi10 => (simp only [List.getElem?_toArray, List.getElem?_cons_succ, List.getElem?_cons_zero]; rfl)
              case hq10 => exact fun _ _ _ h => h
              case hw10 => rfl
              case hy10 => (intro wq hSw; (try dsimp only at hSw); go_simp; (try with_reducible rfl))
              (try simp only [Act.put, List.setIfInBounds_toArray, List.set_cons_zero, List.set_cons_succ])
              refine' wpAnyH_take (i := 10) (oi := _) (v := _) ?hi11 (by kernel_rfl) (by kernel_rfl) (by kernel_rfl) ?hq11 (Or.inl ⟨?hw11, ?hy11⟩) (by assumption) ?rest11
              case hi11 => (simp only [List.getElem?_toArray, List.getElem?_cons_succ, List.getElem?_cons_zero]; rfl)
              case hq11 => exact fun _ _ _ h => h
              case hw11 => rfl
              case hy11 => (intro wq hSw; (try dsimp only at hSw); go_simp; (try with_reducible rfl))
              (try simp only [Act.put, List.setIfInBounds_toArray, List.set_cons_zero, List.set_cons_succ])
              refine' wpAnyH_take (i := 11) (oi := _) (v := _) ?hi12 (by kernel_rfl) (by kernel_rfl) (by kernel_rfl) ?hq12 (Or.inl ⟨?hw12, ?hy12⟩) (by assumption) ?rest12
              case hi12 => (simp only [List.getElem?_toArray, List.getElem?_cons_succ, List.getElem?_cons_zero]; rfl)
              case hq12 => exact fun _ _ _ h => h
              case hw12 => rfl
              case hy12 => (intro wq hSw; (try dsimp only at hSw); go_simp; (try with_reducible rfl))
              (try simp only [Act.put, List.setIfInBounds_toArray, List.set_cons_zero, List.set_cons_succ])
              refine wpAnyH_ready (rs := [12]) (by kernel_rfl) (by simp) ?_
              refine' AllReadyH.cons (o := _) ?hi13 (fun K hK => ?rest13) AllReadyH.nil
              case hi13 => (simp only [List.getElem?_toArray, List.getElem?_cons_succ, List.getElem?_cons_zero]; rfl)
              go_simp
              go_at_call 56
              refine (pixelAt_of W H P hW hH hP1 hP A c xs HLn.out hlc q1 q2 l1 l2 _ _ rfl rfl _ (by exact HC.out.arg HX.out)).mono ?_
              rintro e w5 ⟨v5, rfl, hO5, hB5⟩
              obtain ⟨A5, c5, rfl, hc5⟩ := hO5.slice
              have HD := Lib.hid (GS.add HC.out hO5 hB5)
              clear HC hO5 hB5
              have HC := HD
              clear HD
              go_wp2_with fail
              refine hK.out _ _ (by (try dsimp only); exact ⟨HC.out.b2_4.1, HC.out.b2_4.2.1, HC.out.b2_4.2.2.1, HC.out.b2_4.2.2.2, HC.out.b0_4.1, HC.out.b0_4.2.1, HC.out.b0_4.2.2.1, HC.out.b0_4.2.2.2⟩) (fun hHeld => ?_)
              clear hK K
              (try simp only [Act.put, List.setIfInBounds_toArray, List.set_cons_zero, List.set_cons_succ])
              refine wpAnyH_ready (rs := [13]) (by kernel_rfl) (by simp) ?_
              refine' AllReadyH.cons (o := _) ?hi14 (fun K hK => ?rest14) AllReadyH.nil
              case hi14 => (simp only [List.getElem?_toArray, List.getElem?_cons_succ, List.getElem?_cons_zero]; rfl)
              go_simp
              go_at_call 55
              refine (setPixel_at a b P ha hb hP lo3 g c2 n ys Hn.out HF.out.1 x y hxlt hylt _ _ rfl rfl A5 c5 _ (pxl W P xs q1 q2) rfl (pxl_len _ _ _ _ _) _ (by exact HC.out.o1) (by exact HC.out.r0) (by exact HC.out.ne01)).mono ?_
              rintro e w6 ⟨rfl, hO6, hG6⟩
              have HD := Lib.hid ((HC.out.mark1 hO6 (by simp [setk_len]) hG6).dropR)
              clear HC hO6 hG6
              have HC := HD
              clear HD
              go_wp2_with fail
              refine hK.out _ _ (by (try dsimp only); exact ⟨HC.out.b2_4.1, HC.out.b2_4.2.1, HC.out.b2_4.2.2.1, HC.out.b2_4.2.2.2, HC.out.b0_4.1, HC.out.b0_4.2.1, HC.out.b0_4.2.2.1, HC.out.b0_4.2.2.2⟩) (fun hHeld => ?_)
              clear hK K
              (try simp only [Act.put, List.setIfInBounds_toArray, List.set_cons_zero, List.set_cons_succ])
              refine wpAnyH_done (by kernel_rfl) ?_ _
              all_goals
                have HN : Hid (GS w w6 [ri lo3 hi3 (.slice (some ⟨g, 0, none⟩) n c2) (setk a P x y (pxl W P xs q1 q2) ys P)] [⟨b3, 30, #[.int .i64 (a : Int), .int .i64 (b : Int), .int .i64 (P : Int), .slice (some ⟨g, 0, none⟩) n c2]⟩, ⟨w.heap.size + 1, 30, #[.int .i64 0, .int .i64 0, .int .i64 0, .slice none 0 0]⟩, ⟨w.heap.size, 30, #[.int .i64 (W : Int), .int .i64 (H : Int), .int .i64 (P : Int), .slice A xs.length c]⟩] ∧ n = (setk a P x y (pxl W P xs q1 q2) ys P).length ∧ Fill a b P (fun X Y => X) (fun X Y => Y) (fun X Y => pxc W P xs (X % W) (Y % H)) O0 y (x + 1) (setk a P x y (pxl W P xs q1 q2) ys P)) := Lib.hid ⟨HC.out, by rw [setk_len]; exact Hn.out, HF.out.step hxlt hylt (fun X Y hX hY => Iff.rfl) (fun p hp => by show (pxl W P xs q1 q2).getD p 0 = pxc W P xs (x % W) (y % H) p; rw [← HQ1.out, ← HQ2.out]; rfl)⟩
                clear HC HF Hn
                (try go_wp2)
                go_roundw
                case rel => exact ⟨x + 1, _, by omega, by go_num, HN⟩
                case measure => simp [intOf]; omega
            · have hxW : x = a := by omega
              have HN := Lib.hid (show GS w wr [ri lo3 hi3 (.slice (some ⟨g, 0, none⟩) n c2) ys] [⟨b3, 30, #[.int .i64 (a : Int), .int .i64 (b : Int), .int .i64 (P : Int), .slice (some ⟨g, 0, none⟩) n c2]⟩, ⟨w.heap.size + 1, 30, #[.int .i64 0, .int .i64 0, .int .i64 0, .slice none 0 0]⟩, ⟨w.heap.size, 30, #[.int .i64 (W : Int), .int .i64 (H : Int), .int .i64 (P : Int), .slice A xs.length c]⟩] ∧ n = ys.length ∧ Fill a b P (fun X Y => X) (fun X Y => Y) (fun X Y => pxc W P xs (X % W) (Y % H)) O0 (y + 1) 0 ys from ⟨hJ.out.1, hJ.out.2.1, by have hF := hJ.out.2.2; rw [hxW] at hF; exact hF.row (fun X Y hX hY => hX)⟩)
              clear hJ hxW
              go_wp2
              go_roundw
              case rel => exact ⟨y + 1, ys, by omega, by go_num, HN⟩
              case measure => simp [intOf]; omega
        · have hyH : y = b := by omega
          have hE : ys = img a b P (fun X Y => pxc W P xs (X % W) (Y % H)) := by have hF := hI.out.2.2; rw [hyH] at hF; exact hF.done (fun X Y hX hY => hY)
          have hG := hI.out.1
          have hn := hI.out.2.1
          rw [hE] at hG hn
          obtain ⟨r0, r1, r2, r3⟩ := hG.b1_4
          obtain ⟨o0, o1, o2, o3⟩ := hG.b0_4
          have f0 := hG.f1 0
          have f1 := hG.f1 1
          have f2 := hG.f1 2
          have f3 := hG.f1 3
          have HE := Lib.hid (hG.e1_4 (.int .i64 (a : Int)) (.int .i64 (b : Int)) (.int .i64 (P : Int)) (.slice (some ⟨g, 0, none⟩) n c2))
          have HN := Lib.hid hn
          clear hI hE hyH hG hn
          go_wp2
          exact bodyPost_ret (v := .agg #[.int .i64 (a : Int), .int .i64 (b : Int), .int .i64 (P : Int), .slice (some ⟨g, 0, none⟩) n c2]) (by simp [results, Try.results24, go_sem, r0, r1, r2, r3]) rfl (MadeIf.yes Hv.out ⟨_, rfl, HE.out.2 _ (List.Mem.head _), HE.out.1⟩)
end Go.Proofs.Ytfjcbdpepbcjcaa
